/- Lemmas of the claim HDriveNone. Each says its own conditions. -/
import Derived.Test.YtcigijhoeghnnaaCmE
import Derived.Test.YtcigijhoeghnnaaCmG
import Derived.Test.YtcigijhoeghnnaaCmF
import Derived.Test.YtcigijhoeghnnaaCmD
import Derived.Test.YtcigijhoeghnnaaCmA
import Derived.Deep.Slices
import Derived.Deep.Strs
import Derived.Lib.SmallJoins
/- A region walked by a schedule that the prover names: an operation whose guard does not hold is passed by; comparisons of ints. No condition. -/
namespace Go.Proofs.Ytcigijhoeghnnaa.plan
open Go Go.RowKit

section
variable {P : Program} {md : Region.Mode} {Q : Exit → Act → World → Prop} {l : List Oper}
theorem Rest.skip {f : Nat} {listed : Array Bool} {a : Act} {w : World} (i : Nat) (o : Oper) (hi : l[i]? = some o) (hs : Region.noSelect l.toArray = true) (hf : Region.free md l.toArray listed i = true)
    (hr : (Region.ready md l.toArray listed).contains i = true) (hw : Region.wanted o (yielded l.toArray a.tmps) = false)
    (h : Rest P md l Q f (listed.setIfInBounds i true) (a.put o.dst undef) w) : Rest P md l Q (f + 1) listed a w :=
  wpAnyH_take (by simpa using hi) hs hf hr (fun c a' w' h => h) (.inr ⟨hw, rfl⟩) (Below.refl _ _) h
end
theorem eqg (t : TypeId) (x y : Operand) (k : IntKind) (n m : Int) (w : World) (P : Program) : (eqGuard .eql t x y (.int k n) (.int k m)).run P w = .ok () w := by simp [go_sem]
end Go.Proofs.Ytcigijhoeghnnaa.plan
/- DriveNone: for every geometry, size and act: a drive that is none does nothing; there is none over another flash, or a geometry that may not be. No condition. -/
namespace Go.Proofs.Ytcigijhoeghnnaa.driveNone
open Go.RowKit Go.Proofs.Ytcigijhoeghnnaa.drive Go.Proofs.Ytcigijhoeghnnaa.geom Go.Proofs.Ytcigijhoeghnnaa.flash
set_option linter.unusedVariables false

/-- what the three arguments, when they have just been boxed, go on holding -/
theorem held (g : Geo) (x y k s a n : Int) (pw : Option Addr) (len cap : Nat) (w : World) : Hid (∀ w', Below (((w.alloc (.cells #[.int .i64 g.sector, .int .i64 g.slot, .int .i64 g.data, .int .i64 g.quota, .int .i64 g.tries, .int .i64 g.life] 23)).alloc (.cells #[.int .i64 x, .int .i64 y] 57)).alloc (.cells #[.int .i64 k, .int .i64 s, .int .i64 a, .int .i64 n, .slice pw len cap] 43)).heap.size (((w.alloc (.cells #[.int .i64 g.sector, .int .i64 g.slot, .int .i64 g.data, .int .i64 g.quota, .int .i64 g.tries, .int .i64 g.life] 23)).alloc (.cells #[.int .i64 x, .int .i64 y] 57)).alloc (.cells #[.int .i64 k, .int .i64 s, .int .i64 a, .int .i64 n, .slice pw len cap] 43)) w' → (w'.cell? ⟨w.heap.size, 0, none⟩ = some (.int .i64 g.sector) ∧ w'.cell? ⟨w.heap.size, 1, none⟩ = some (.int .i64 g.slot) ∧ w'.cell? ⟨w.heap.size, 2, none⟩ = some (.int .i64 g.data) ∧ w'.cell? ⟨w.heap.size, 3, none⟩ = some (.int .i64 g.quota) ∧ w'.cell? ⟨w.heap.size, 4, none⟩ = some (.int .i64 g.tries) ∧ w'.cell? ⟨w.heap.size, 5, none⟩ = some (.int .i64 g.life) ∧ w'.cell? ⟨w.heap.size + 1, 0, none⟩ = some (.int .i64 x) ∧ w'.cell? ⟨w.heap.size + 1, 1, none⟩ = some (.int .i64 y) ∧ w'.cell? ⟨w.heap.size + 1 + 1, 0, none⟩ = some (.int .i64 k) ∧ w'.cell? ⟨w.heap.size + 1 + 1, 1, none⟩ = some (.int .i64 s) ∧ w'.cell? ⟨w.heap.size + 1 + 1, 2, none⟩ = some (.int .i64 a) ∧ w'.cell? ⟨w.heap.size + 1 + 1, 3, none⟩ = some (.int .i64 n) ∧ w'.cell? ⟨w.heap.size + 1 + 1, 4, none⟩ = some (.slice pw len cap)) ∧ Block w' w.heap.size 23 [.int .i64 g.sector, .int .i64 g.slot, .int .i64 g.data, .int .i64 g.quota, .int .i64 g.tries, .int .i64 g.life] ∧ Below w.heap.size w w') := hid (by
  intro w' hb
  have B1 := Block.new w 23 [.int .i64 g.sector, .int .i64 g.slot, .int .i64 g.data, .int .i64 g.quota, .int .i64 g.tries, .int .i64 g.life]
  have B2 := Block.new (w.alloc (.cells #[.int .i64 g.sector, .int .i64 g.slot, .int .i64 g.data, .int .i64 g.quota, .int .i64 g.tries, .int .i64 g.life] 23)) 57 [.int .i64 x, .int .i64 y]
  have B3 := Block.new ((w.alloc (.cells #[.int .i64 g.sector, .int .i64 g.slot, .int .i64 g.data, .int .i64 g.quota, .int .i64 g.tries, .int .i64 g.life] 23)).alloc (.cells #[.int .i64 x, .int .i64 y] 57)) 43 [.int .i64 k, .int .i64 s, .int .i64 a, .int .i64 n, .slice pw len cap]
  have C1 := ((B1.alloc (.cells #[.int .i64 x, .int .i64 y] 57)).alloc (.cells #[.int .i64 k, .int .i64 s, .int .i64 a, .int .i64 n, .slice pw len cap] 43)).later hb
  have C2 := (B2.alloc (.cells #[.int .i64 k, .int .i64 s, .int .i64 a, .int .i64 n, .slice pw len cap] 43)).later hb
  have C3 := B3.later hb
  rw [show (w.alloc (.cells #[.int .i64 g.sector, .int .i64 g.slot, .int .i64 g.data, .int .i64 g.quota, .int .i64 g.tries, .int .i64 g.life] 23)).heap.size = w.heap.size + 1 by simp] at C2
  rw [show ((w.alloc (.cells #[.int .i64 g.sector, .int .i64 g.slot, .int .i64 g.data, .int .i64 g.quota, .int .i64 g.tries, .int .i64 g.life] 23)).alloc (.cells #[.int .i64 x, .int .i64 y] 57)).heap.size = w.heap.size + 1 + 1 by simp] at C3
  refine ⟨⟨C1.cell 0, C1.cell 1, C1.cell 2, C1.cell 3, C1.cell 4, C1.cell 5, C2.cell 0, C2.cell 1, C3.cell 0, C3.cell 1, C3.cell 2, C3.cell 3, C3.cell 4⟩, C1, ?_⟩
  exact ((((Below.refl _ w).alloc (Nat.le_refl _) _).alloc (by simp) _).alloc (by simp; omega) _).trans (hb.mono (by simp; omega)))
theorem none_from {v : Value} {w0 w1 w2 : World} {e : Ending} (hb : Below w0.heap.size w0 w1) (k : Quiet v w1 e w2) : e = .returned v ∧ Below w0.heap.size w0 w2 := by
  obtain ⟨he, m, rfl⟩ := k
  exact ⟨he, below_drewN hb m⟩
theorem later_from {v : Value} {w0 w1 w2 : World} {e : Ending} (hb : Below w0.heap.size w0 w1) (k : e = .returned v ∧ Below w1.heap.size w1 w2) : e = .returned v ∧ Below w0.heap.size w0 w2 := ⟨k.1, hb.trans (k.2.mono hb.size)⟩
theorem neq_zero (W : World) : (binOp .neq 23 (.agg #[.int .i64 0, .int .i64 0, .int .i64 0, .int .i64 0, .int .i64 0, .int .i64 0]) (.agg #[.int .i64 0, .int .i64 0, .int .i64 0, .int .i64 0, .int .i64 0, .int .i64 0])).run Try.prog W = .ok (.bool false) W := by kernel_rfl
set_option maxHeartbeats 4000000 in
set_option maxRecDepth 20000 in
theorem big0 (g : Geo) (x y k s a n : Int) (pw : Option Addr) (len cap : Nat) (w : World) (h : 200 < len) : Calls Try.prog 5 #[.agg #[.int .i64 g.sector, .int .i64 g.slot, .int .i64 g.data, .int .i64 g.quota, .int .i64 g.tries, .int .i64 g.life], .agg #[.int .i64 x, .int .i64 y], .agg #[.int .i64 k, .int .i64 s, .int .i64 a, .int .i64 n, .slice pw len cap]] w (Yes w) := by
  have HS := held g x y k s a n pw len cap w
  obtain ⟨w0, hw0⟩ : ∃ z, Hid ((((w.alloc (.cells #[.int .i64 g.sector, .int .i64 g.slot, .int .i64 g.data, .int .i64 g.quota, .int .i64 g.tries, .int .i64 g.life] 23)).alloc (.cells #[.int .i64 x, .int .i64 y] 57)).alloc (.cells #[.int .i64 k, .int .i64 s, .int .i64 a, .int .i64 n, .slice pw len cap] 43)) = z) := ⟨_, rfl⟩
  rw [hw0.out] at HS
  have hb0 : Below w0.heap.size w0 w0 := Below.refl _ _
  have ca := fun w' hb => awake_at w0 w' hb
  go_enter Try.func5, Try.ntmps5
  go_wp2_with fail
  rw [hw0.out]
  obtain ⟨hk0, _, _⟩ := HS.out w0 hb0
  go_wp2_with (go_at_call 8; (with_reducible refine (ca _ hb0).mono ?_); rintro e w9 ⟨rfl, hb9⟩)
  go_ret
  exact ⟨rfl, (HS.out _ hb9).2.2⟩
set_option maxHeartbeats 4000000 in
set_option maxRecDepth 20000 in
theorem big1 (g : Geo) (x y k s a n : Int) (pw : Option Addr) (len cap : Nat) (w : World) (h : ¬ 200 < len) (h1 : 100 < x) (h2 : x ≤ 512) : Calls Try.prog 5 #[.agg #[.int .i64 g.sector, .int .i64 g.slot, .int .i64 g.data, .int .i64 g.quota, .int .i64 g.tries, .int .i64 g.life], .agg #[.int .i64 x, .int .i64 y], .agg #[.int .i64 k, .int .i64 s, .int .i64 a, .int .i64 n, .slice pw len cap]] w (Yes w) := by
  have HS := held g x y k s a n pw len cap w
  obtain ⟨w0, hw0⟩ : ∃ z, Hid ((((w.alloc (.cells #[.int .i64 g.sector, .int .i64 g.slot, .int .i64 g.data, .int .i64 g.quota, .int .i64 g.tries, .int .i64 g.life] 23)).alloc (.cells #[.int .i64 x, .int .i64 y] 57)).alloc (.cells #[.int .i64 k, .int .i64 s, .int .i64 a, .int .i64 n, .slice pw len cap] 43)) = z) := ⟨_, rfl⟩
  rw [hw0.out] at HS
  have hb0 : Below w0.heap.size w0 w0 := Below.refl _ _
  have ca := fun w' hb => awake_at w0 w' hb
  go_enter Try.func5, Try.ntmps5
  go_wp2_with fail
  rw [hw0.out]
  obtain ⟨hk0, _, _⟩ := HS.out w0 hb0
  go_wp2_with (go_at_call 8; (with_reducible refine (ca _ hb0).mono ?_); rintro e w9 ⟨rfl, hb9⟩)
  go_ret
  exact ⟨rfl, (HS.out _ hb9).2.2⟩
set_option maxHeartbeats 4000000 in
set_option maxRecDepth 20000 in
theorem big2 (g : Geo) (x y k s a n : Int) (pw : Option Addr) (len cap : Nat) (w : World) (h : ¬ 200 < len) (h1 : ¬ 100 < x) (h3 : 128 < y) (h4 : y ≤ 1024) : Calls Try.prog 5 #[.agg #[.int .i64 g.sector, .int .i64 g.slot, .int .i64 g.data, .int .i64 g.quota, .int .i64 g.tries, .int .i64 g.life], .agg #[.int .i64 x, .int .i64 y], .agg #[.int .i64 k, .int .i64 s, .int .i64 a, .int .i64 n, .slice pw len cap]] w (Yes w) := by
  have HS := held g x y k s a n pw len cap w
  obtain ⟨w0, hw0⟩ : ∃ z, Hid ((((w.alloc (.cells #[.int .i64 g.sector, .int .i64 g.slot, .int .i64 g.data, .int .i64 g.quota, .int .i64 g.tries, .int .i64 g.life] 23)).alloc (.cells #[.int .i64 x, .int .i64 y] 57)).alloc (.cells #[.int .i64 k, .int .i64 s, .int .i64 a, .int .i64 n, .slice pw len cap] 43)) = z) := ⟨_, rfl⟩
  rw [hw0.out] at HS
  have hb0 : Below w0.heap.size w0 w0 := Below.refl _ _
  have ca := fun w' hb => awake_at w0 w' hb
  go_enter Try.func5, Try.ntmps5
  go_wp2_with fail
  rw [hw0.out]
  obtain ⟨hk0, _, _⟩ := HS.out w0 hb0
  go_wp2_with (go_at_call 8; (with_reducible refine (ca _ hb0).mono ?_); rintro e w9 ⟨rfl, hb9⟩)
  go_ret
  exact ⟨rfl, (HS.out _ hb9).2.2⟩
set_option maxHeartbeats 4000000 in
set_option maxRecDepth 20000 in
theorem big3 (g : Geo) (x y k s a n : Int) (pw : Option Addr) (len cap : Nat) (w : World) (h : ¬ 200 < len) (h1 : 100 < x) (h2 : ¬ x ≤ 512) (h3 : 128 < y) (h4 : y ≤ 1024) : Calls Try.prog 5 #[.agg #[.int .i64 g.sector, .int .i64 g.slot, .int .i64 g.data, .int .i64 g.quota, .int .i64 g.tries, .int .i64 g.life], .agg #[.int .i64 x, .int .i64 y], .agg #[.int .i64 k, .int .i64 s, .int .i64 a, .int .i64 n, .slice pw len cap]] w (Yes w) := by
  have HS := held g x y k s a n pw len cap w
  obtain ⟨w0, hw0⟩ : ∃ z, Hid ((((w.alloc (.cells #[.int .i64 g.sector, .int .i64 g.slot, .int .i64 g.data, .int .i64 g.quota, .int .i64 g.tries, .int .i64 g.life] 23)).alloc (.cells #[.int .i64 x, .int .i64 y] 57)).alloc (.cells #[.int .i64 k, .int .i64 s, .int .i64 a, .int .i64 n, .slice pw len cap] 43)) = z) := ⟨_, rfl⟩
  rw [hw0.out] at HS
  have hb0 : Below w0.heap.size w0 w0 := Below.refl _ _
  have ca := fun w' hb => awake_at w0 w' hb
  go_enter Try.func5, Try.ntmps5
  go_wp2_with fail
  rw [hw0.out]
  obtain ⟨hk0, _, _⟩ := HS.out w0 hb0
  go_wp2_with (go_at_call 8; (with_reducible refine (ca _ hb0).mono ?_); rintro e w9 ⟨rfl, hb9⟩)
  go_ret
  exact ⟨rfl, (HS.out _ hb9).2.2⟩
theorem exec_neq {P : Program} {o : Oper} {a : Act} {w : World} {t t' : TypeId} {x y : Operand} {k : IntKind} {n m : Int} {u : Value} (ho : o.op = .binOp .neq t x y t') (hx : a.eval x = .int k n) (hy : a.eval y = .int k m)
    (hr : (binOp .neq t (.int k n) (.int k m)).run P w = .ok u w) : (execOp a.eval o).run P w = .ok (.value u) w := by
  have hg : (eqGuard .neq t x y (.int k n) (.int k m)).run P w = .ok () w := by simp [go_sem]
  unfold execOp
  simp [ho, hx, hy, Sem.run_bind, hg, hr]
theorem neq_yes (n m : Int) (h : n ≠ m) (W : World) : (binOp .neq 3 (.int .i64 n) (.int .i64 m)).run Try.prog W = .ok (.bool true) W := by simp [go_sem, h]
theorem neq_no (n : Int) (W : World) : (binOp .neq 3 (.int .i64 n) (.int .i64 n)).run Try.prog W = .ok (.bool false) W := by simp [go_sem]
theorem info_geo : Hid ((Try.prog.info? 23).map (·.size) = some 6) := by show _ = _; kernel_rfl
theorem agg_int (w' : World) : (isAgg 3).run Try.prog w' = .ok false w' := by kernel_rfl
set_option maxHeartbeats 8000000 in
set_option maxRecDepth 20000 in
theorem bad0 (g : Geo) (x y k s a n : Int) (pw : Option Addr) (len cap : Nat) (w : World) (h : ¬ 200 < len) (h1 : ¬ 100 < x) (h3 : ¬ 128 < y) (hbad : x < 1 ∨ 512 < x ∨ y < 1 ∨ 1024 < y) : Calls Try.prog 5 #[.agg #[.int .i64 g.sector, .int .i64 g.slot, .int .i64 g.data, .int .i64 g.quota, .int .i64 g.tries, .int .i64 g.life], .agg #[.int .i64 x, .int .i64 y], .agg #[.int .i64 k, .int .i64 s, .int .i64 a, .int .i64 n, .slice pw len cap]] w (Yes w) := by
  have HS := held g x y k s a n pw len cap w
  obtain ⟨w0, hw0⟩ : ∃ z, Hid ((((w.alloc (.cells #[.int .i64 g.sector, .int .i64 g.slot, .int .i64 g.data, .int .i64 g.quota, .int .i64 g.tries, .int .i64 g.life] 23)).alloc (.cells #[.int .i64 x, .int .i64 y] 57)).alloc (.cells #[.int .i64 k, .int .i64 s, .int .i64 a, .int .i64 n, .slice pw len cap] 43)) = z) := ⟨_, rfl⟩
  rw [hw0.out] at HS
  have hb0 : Below w0.heap.size w0 w0 := Below.refl _ _
  have ca := fun w' hb => awake_at w0 w' hb
  have c1 := fun s a n w' (hb : Below w0.heap.size w0 w') => (read_none s a n w').mono fun e w2 k => none_from hb k
  have c2 := fun s a w' (hb : Below w0.heap.size w0 w') => (blank_none s a w').mono fun e w2 k => later_from hb k
  have c3 := fun s a x n c w' (hb : Below w0.heap.size w0 w') => (write_none s a x n c w').mono fun e w2 k => none_from hb k
  have c4 := fun s w' (hb : Below w0.heap.size w0 w') => (clean_none s w').mono fun e w2 k => later_from hb k
  have c5 := fun s x n c w' (hb : Below w0.heap.size w0 w') => (fresh_none s x n c w').mono fun e w2 k => none_from hb k
  have c6 := fun w' (hb : Below w0.heap.size w0 w') => (geometry_nil w').mono fun e w2 k => later_from hb k
  have hz := neq_zero
  have cn := fun w' (hb : Below w0.heap.size w0 w') => (flash.new_bad x y hbad w').mono fun e w2 k => none_from hb k
  have cd := fun w' (hb : Below w0.heap.size w0 w') => (new_none g w').mono fun e w2 k => later_from hb k
  clear hbad
  go_enter Try.func5, Try.ntmps5
  go_wp2_with fail
  rw [hw0.out]
  obtain ⟨hk0, _, _⟩ := HS.out w0 hb0
  go_wp2_with (first
    | (go_at_call 19; (with_reducible refine (c1 _ _ _ _ hb0).mono ?_); rintro e w1 ⟨rfl, hb1⟩; obtain ⟨hk1, _, _⟩ := HS.out w1 hb1)
    | (go_at_call 20; (with_reducible refine (c2 _ _ _ hb1).mono ?_); rintro e w2 ⟨rfl, hb2⟩; obtain ⟨hk2, _, _⟩ := HS.out w2 hb2)
    | (go_at_call 21; (with_reducible refine (c3 _ _ _ _ _ _ hb2).mono ?_); rintro e w3 ⟨rfl, hb3⟩; obtain ⟨hk3, _, _⟩ := HS.out w3 hb3)
    | (go_at_call 22; (with_reducible refine (c4 _ _ hb3).mono ?_); rintro e w4 ⟨rfl, hb4⟩; obtain ⟨hk4, _, _⟩ := HS.out w4 hb4)
    | (go_at_call 23; (with_reducible refine (c5 _ _ _ _ _ hb4).mono ?_); rintro e w5 ⟨rfl, hb5⟩; obtain ⟨hk5, _, _⟩ := HS.out w5 hb5)
    | (go_at_call 24; (with_reducible refine (c6 _ hb5).mono ?_); rintro e w6 ⟨rfl, hb6⟩; obtain ⟨hk6, _, _⟩ := HS.out w6 hb6)
    | (go_at_call 10; (with_reducible refine (cn _ hb6).mono ?_); rintro e w7 ⟨rfl, hb7⟩; obtain ⟨hk7, _, _⟩ := HS.out w7 hb7)
    | (go_at_call 11; (with_reducible refine (cd _ hb7).mono ?_); rintro e w8 ⟨rfl, hb8⟩; obtain ⟨hk8, _, _⟩ := HS.out w8 hb8)
    | (go_at_call 8; (with_reducible refine (ca _ hb8).mono ?_); rintro e w9 ⟨rfl, hb9⟩))
  go_ret
  exact ⟨rfl, (HS.out _ hb9).2.2⟩
set_option maxHeartbeats 8000000 in
set_option maxRecDepth 20000 in
theorem bad1 (g : Geo) (x y k s a n : Int) (pw : Option Addr) (len cap : Nat) (w : World) (h : ¬ 200 < len) (h1 : 100 < x) (h2 : ¬ x ≤ 512) (h3 : ¬ 128 < y) (hbad : x < 1 ∨ 512 < x ∨ y < 1 ∨ 1024 < y) : Calls Try.prog 5 #[.agg #[.int .i64 g.sector, .int .i64 g.slot, .int .i64 g.data, .int .i64 g.quota, .int .i64 g.tries, .int .i64 g.life], .agg #[.int .i64 x, .int .i64 y], .agg #[.int .i64 k, .int .i64 s, .int .i64 a, .int .i64 n, .slice pw len cap]] w (Yes w) := by
  have HS := held g x y k s a n pw len cap w
  obtain ⟨w0, hw0⟩ : ∃ z, Hid ((((w.alloc (.cells #[.int .i64 g.sector, .int .i64 g.slot, .int .i64 g.data, .int .i64 g.quota, .int .i64 g.tries, .int .i64 g.life] 23)).alloc (.cells #[.int .i64 x, .int .i64 y] 57)).alloc (.cells #[.int .i64 k, .int .i64 s, .int .i64 a, .int .i64 n, .slice pw len cap] 43)) = z) := ⟨_, rfl⟩
  rw [hw0.out] at HS
  have hb0 : Below w0.heap.size w0 w0 := Below.refl _ _
  have ca := fun w' hb => awake_at w0 w' hb
  have c1 := fun s a n w' (hb : Below w0.heap.size w0 w') => (read_none s a n w').mono fun e w2 k => none_from hb k
  have c2 := fun s a w' (hb : Below w0.heap.size w0 w') => (blank_none s a w').mono fun e w2 k => later_from hb k
  have c3 := fun s a x n c w' (hb : Below w0.heap.size w0 w') => (write_none s a x n c w').mono fun e w2 k => none_from hb k
  have c4 := fun s w' (hb : Below w0.heap.size w0 w') => (clean_none s w').mono fun e w2 k => later_from hb k
  have c5 := fun s x n c w' (hb : Below w0.heap.size w0 w') => (fresh_none s x n c w').mono fun e w2 k => none_from hb k
  have c6 := fun w' (hb : Below w0.heap.size w0 w') => (geometry_nil w').mono fun e w2 k => later_from hb k
  have hz := neq_zero
  have cn := fun w' (hb : Below w0.heap.size w0 w') => (flash.new_bad x y hbad w').mono fun e w2 k => none_from hb k
  have cd := fun w' (hb : Below w0.heap.size w0 w') => (new_none g w').mono fun e w2 k => later_from hb k
  clear hbad
  go_enter Try.func5, Try.ntmps5
  go_wp2_with fail
  rw [hw0.out]
  obtain ⟨hk0, _, _⟩ := HS.out w0 hb0
  go_wp2_with (first
    | (go_at_call 19; (with_reducible refine (c1 _ _ _ _ hb0).mono ?_); rintro e w1 ⟨rfl, hb1⟩; obtain ⟨hk1, _, _⟩ := HS.out w1 hb1)
    | (go_at_call 20; (with_reducible refine (c2 _ _ _ hb1).mono ?_); rintro e w2 ⟨rfl, hb2⟩; obtain ⟨hk2, _, _⟩ := HS.out w2 hb2)
    | (go_at_call 21; (with_reducible refine (c3 _ _ _ _ _ _ hb2).mono ?_); rintro e w3 ⟨rfl, hb3⟩; obtain ⟨hk3, _, _⟩ := HS.out w3 hb3)
    | (go_at_call 22; (with_reducible refine (c4 _ _ hb3).mono ?_); rintro e w4 ⟨rfl, hb4⟩; obtain ⟨hk4, _, _⟩ := HS.out w4 hb4)
    | (go_at_call 23; (with_reducible refine (c5 _ _ _ _ _ hb4).mono ?_); rintro e w5 ⟨rfl, hb5⟩; obtain ⟨hk5, _, _⟩ := HS.out w5 hb5)
    | (go_at_call 24; (with_reducible refine (c6 _ hb5).mono ?_); rintro e w6 ⟨rfl, hb6⟩; obtain ⟨hk6, _, _⟩ := HS.out w6 hb6)
    | (go_at_call 10; (with_reducible refine (cn _ hb6).mono ?_); rintro e w7 ⟨rfl, hb7⟩; obtain ⟨hk7, _, _⟩ := HS.out w7 hb7)
    | (go_at_call 11; (with_reducible refine (cd _ hb7).mono ?_); rintro e w8 ⟨rfl, hb8⟩; obtain ⟨hk8, _, _⟩ := HS.out w8 hb8)
    | (go_at_call 8; (with_reducible refine (ca _ hb8).mono ?_); rintro e w9 ⟨rfl, hb9⟩))
  go_ret
  exact ⟨rfl, (HS.out _ hb9).2.2⟩
set_option maxHeartbeats 8000000 in
set_option maxRecDepth 20000 in
theorem bad2 (g : Geo) (x y k s a n : Int) (pw : Option Addr) (len cap : Nat) (w : World) (h : ¬ 200 < len) (h1 : ¬ 100 < x) (h3 : 128 < y) (h4 : ¬ y ≤ 1024) (hbad : x < 1 ∨ 512 < x ∨ y < 1 ∨ 1024 < y) : Calls Try.prog 5 #[.agg #[.int .i64 g.sector, .int .i64 g.slot, .int .i64 g.data, .int .i64 g.quota, .int .i64 g.tries, .int .i64 g.life], .agg #[.int .i64 x, .int .i64 y], .agg #[.int .i64 k, .int .i64 s, .int .i64 a, .int .i64 n, .slice pw len cap]] w (Yes w) := by
  have HS := held g x y k s a n pw len cap w
  obtain ⟨w0, hw0⟩ : ∃ z, Hid ((((w.alloc (.cells #[.int .i64 g.sector, .int .i64 g.slot, .int .i64 g.data, .int .i64 g.quota, .int .i64 g.tries, .int .i64 g.life] 23)).alloc (.cells #[.int .i64 x, .int .i64 y] 57)).alloc (.cells #[.int .i64 k, .int .i64 s, .int .i64 a, .int .i64 n, .slice pw len cap] 43)) = z) := ⟨_, rfl⟩
  rw [hw0.out] at HS
  have hb0 : Below w0.heap.size w0 w0 := Below.refl _ _
  have ca := fun w' hb => awake_at w0 w' hb
  have c1 := fun s a n w' (hb : Below w0.heap.size w0 w') => (read_none s a n w').mono fun e w2 k => none_from hb k
  have c2 := fun s a w' (hb : Below w0.heap.size w0 w') => (blank_none s a w').mono fun e w2 k => later_from hb k
  have c3 := fun s a x n c w' (hb : Below w0.heap.size w0 w') => (write_none s a x n c w').mono fun e w2 k => none_from hb k
  have c4 := fun s w' (hb : Below w0.heap.size w0 w') => (clean_none s w').mono fun e w2 k => later_from hb k
  have c5 := fun s x n c w' (hb : Below w0.heap.size w0 w') => (fresh_none s x n c w').mono fun e w2 k => none_from hb k
  have c6 := fun w' (hb : Below w0.heap.size w0 w') => (geometry_nil w').mono fun e w2 k => later_from hb k
  have hz := neq_zero
  have cn := fun w' (hb : Below w0.heap.size w0 w') => (flash.new_bad x y hbad w').mono fun e w2 k => none_from hb k
  have cd := fun w' (hb : Below w0.heap.size w0 w') => (new_none g w').mono fun e w2 k => later_from hb k
  clear hbad
  go_enter Try.func5, Try.ntmps5
  go_wp2_with fail
  rw [hw0.out]
  obtain ⟨hk0, _, _⟩ := HS.out w0 hb0
  go_wp2_with (first
    | (go_at_call 19; (with_reducible refine (c1 _ _ _ _ hb0).mono ?_); rintro e w1 ⟨rfl, hb1⟩; obtain ⟨hk1, _, _⟩ := HS.out w1 hb1)
    | (go_at_call 20; (with_reducible refine (c2 _ _ _ hb1).mono ?_); rintro e w2 ⟨rfl, hb2⟩; obtain ⟨hk2, _, _⟩ := HS.out w2 hb2)
    | (go_at_call 21; (with_reducible refine (c3 _ _ _ _ _ _ hb2).mono ?_); rintro e w3 ⟨rfl, hb3⟩; obtain ⟨hk3, _, _⟩ := HS.out w3 hb3)
    | (go_at_call 22; (with_reducible refine (c4 _ _ hb3).mono ?_); rintro e w4 ⟨rfl, hb4⟩; obtain ⟨hk4, _, _⟩ := HS.out w4 hb4)
    | (go_at_call 23; (with_reducible refine (c5 _ _ _ _ _ hb4).mono ?_); rintro e w5 ⟨rfl, hb5⟩; obtain ⟨hk5, _, _⟩ := HS.out w5 hb5)
    | (go_at_call 24; (with_reducible refine (c6 _ hb5).mono ?_); rintro e w6 ⟨rfl, hb6⟩; obtain ⟨hk6, _, _⟩ := HS.out w6 hb6)
    | (go_at_call 10; (with_reducible refine (cn _ hb6).mono ?_); rintro e w7 ⟨rfl, hb7⟩; obtain ⟨hk7, _, _⟩ := HS.out w7 hb7)
    | (go_at_call 11; (with_reducible refine (cd _ hb7).mono ?_); rintro e w8 ⟨rfl, hb8⟩; obtain ⟨hk8, _, _⟩ := HS.out w8 hb8)
    | (go_at_call 8; (with_reducible refine (ca _ hb8).mono ?_); rintro e w9 ⟨rfl, hb9⟩))
  go_ret
  exact ⟨rfl, (HS.out _ hb9).2.2⟩
set_option maxHeartbeats 8000000 in
set_option maxRecDepth 20000 in
theorem bad3 (g : Geo) (x y k s a n : Int) (pw : Option Addr) (len cap : Nat) (w : World) (h : ¬ 200 < len) (h1 : 100 < x) (h2 : ¬ x ≤ 512) (h3 : 128 < y) (h4 : ¬ y ≤ 1024) (hbad : x < 1 ∨ 512 < x ∨ y < 1 ∨ 1024 < y) : Calls Try.prog 5 #[.agg #[.int .i64 g.sector, .int .i64 g.slot, .int .i64 g.data, .int .i64 g.quota, .int .i64 g.tries, .int .i64 g.life], .agg #[.int .i64 x, .int .i64 y], .agg #[.int .i64 k, .int .i64 s, .int .i64 a, .int .i64 n, .slice pw len cap]] w (Yes w) := by
  have HS := held g x y k s a n pw len cap w
  obtain ⟨w0, hw0⟩ : ∃ z, Hid ((((w.alloc (.cells #[.int .i64 g.sector, .int .i64 g.slot, .int .i64 g.data, .int .i64 g.quota, .int .i64 g.tries, .int .i64 g.life] 23)).alloc (.cells #[.int .i64 x, .int .i64 y] 57)).alloc (.cells #[.int .i64 k, .int .i64 s, .int .i64 a, .int .i64 n, .slice pw len cap] 43)) = z) := ⟨_, rfl⟩
  rw [hw0.out] at HS
  have hb0 : Below w0.heap.size w0 w0 := Below.refl _ _
  have ca := fun w' hb => awake_at w0 w' hb
  have c1 := fun s a n w' (hb : Below w0.heap.size w0 w') => (read_none s a n w').mono fun e w2 k => none_from hb k
  have c2 := fun s a w' (hb : Below w0.heap.size w0 w') => (blank_none s a w').mono fun e w2 k => later_from hb k
  have c3 := fun s a x n c w' (hb : Below w0.heap.size w0 w') => (write_none s a x n c w').mono fun e w2 k => none_from hb k
  have c4 := fun s w' (hb : Below w0.heap.size w0 w') => (clean_none s w').mono fun e w2 k => later_from hb k
  have c5 := fun s x n c w' (hb : Below w0.heap.size w0 w') => (fresh_none s x n c w').mono fun e w2 k => none_from hb k
  have c6 := fun w' (hb : Below w0.heap.size w0 w') => (geometry_nil w').mono fun e w2 k => later_from hb k
  have hz := neq_zero
  have cn := fun w' (hb : Below w0.heap.size w0 w') => (flash.new_bad x y hbad w').mono fun e w2 k => none_from hb k
  have cd := fun w' (hb : Below w0.heap.size w0 w') => (new_none g w').mono fun e w2 k => later_from hb k
  clear hbad
  go_enter Try.func5, Try.ntmps5
  go_wp2_with fail
  rw [hw0.out]
  obtain ⟨hk0, _, _⟩ := HS.out w0 hb0
  go_wp2_with (first
    | (go_at_call 19; (with_reducible refine (c1 _ _ _ _ hb0).mono ?_); rintro e w1 ⟨rfl, hb1⟩; obtain ⟨hk1, _, _⟩ := HS.out w1 hb1)
    | (go_at_call 20; (with_reducible refine (c2 _ _ _ hb1).mono ?_); rintro e w2 ⟨rfl, hb2⟩; obtain ⟨hk2, _, _⟩ := HS.out w2 hb2)
    | (go_at_call 21; (with_reducible refine (c3 _ _ _ _ _ _ hb2).mono ?_); rintro e w3 ⟨rfl, hb3⟩; obtain ⟨hk3, _, _⟩ := HS.out w3 hb3)
    | (go_at_call 22; (with_reducible refine (c4 _ _ hb3).mono ?_); rintro e w4 ⟨rfl, hb4⟩; obtain ⟨hk4, _, _⟩ := HS.out w4 hb4)
    | (go_at_call 23; (with_reducible refine (c5 _ _ _ _ _ hb4).mono ?_); rintro e w5 ⟨rfl, hb5⟩; obtain ⟨hk5, _, _⟩ := HS.out w5 hb5)
    | (go_at_call 24; (with_reducible refine (c6 _ hb5).mono ?_); rintro e w6 ⟨rfl, hb6⟩; obtain ⟨hk6, _, _⟩ := HS.out w6 hb6)
    | (go_at_call 10; (with_reducible refine (cn _ hb6).mono ?_); rintro e w7 ⟨rfl, hb7⟩; obtain ⟨hk7, _, _⟩ := HS.out w7 hb7)
    | (go_at_call 11; (with_reducible refine (cd _ hb7).mono ?_); rintro e w8 ⟨rfl, hb8⟩; obtain ⟨hk8, _, _⟩ := HS.out w8 hb8)
    | (go_at_call 8; (with_reducible refine (ca _ hb8).mono ?_); rintro e w9 ⟨rfl, hb9⟩))
  go_ret
  exact ⟨rfl, (HS.out _ hb9).2.2⟩
end Go.Proofs.Ytcigijhoeghnnaa.driveNone
/- DriveNone: for every geometry, size and act: a drive that is none does nothing; there is none over another flash, or a geometry that may not be. No condition. -/
namespace Go.Proofs.Ytcigijhoeghnnaa.driveNone
open Go.RowKit Go.Proofs.Ytcigijhoeghnnaa.drive Go.Proofs.Ytcigijhoeghnnaa.geom Go.Proofs.Ytcigijhoeghnnaa.flash
set_option linter.unusedVariables false

set_option maxHeartbeats 8000000 in
set_option maxRecDepth 20000 in
theorem good0 (g : Geo) (m l : Nat) (k s a n : Int) (pw : Option Addr) (len cap : Nat) (w : World) (h : ¬ 200 < len) (h1 : 1 ≤ m) (h2 : m ≤ 100) (h3 : 1 ≤ l) (h4 : l ≤ 128) (hr : ¬ g.Right) : Calls Try.prog 5 #[.agg #[.int .i64 g.sector, .int .i64 g.slot, .int .i64 g.data, .int .i64 g.quota, .int .i64 g.tries, .int .i64 g.life], .agg #[.int .i64 (m : Int), .int .i64 (l : Int)], .agg #[.int .i64 k, .int .i64 s, .int .i64 a, .int .i64 n, .slice pw len cap]] w (Yes w) := by
  have HS := held g m l k s a n pw len cap w
  obtain ⟨w0, hw0⟩ : ∃ z, Hid ((((w.alloc (.cells #[.int .i64 g.sector, .int .i64 g.slot, .int .i64 g.data, .int .i64 g.quota, .int .i64 g.tries, .int .i64 g.life] 23)).alloc (.cells #[.int .i64 (m : Int), .int .i64 (l : Int)] 57)).alloc (.cells #[.int .i64 k, .int .i64 s, .int .i64 a, .int .i64 n, .slice pw len cap] 43)) = z) := ⟨_, rfl⟩
  rw [hw0.out] at HS
  have hb0 : Below w0.heap.size w0 w0 := Below.refl _ _
  have ca := fun w' hb => awake_at w0 w' hb
  have c1 := fun s a n w' (hb : Below w0.heap.size w0 w') => (read_none s a n w').mono fun e w2 k => none_from hb k
  have c2 := fun s a w' (hb : Below w0.heap.size w0 w') => (blank_none s a w').mono fun e w2 k => later_from hb k
  have c3 := fun s a x n c w' (hb : Below w0.heap.size w0 w') => (write_none s a x n c w').mono fun e w2 k => none_from hb k
  have c4 := fun s w' (hb : Below w0.heap.size w0 w') => (clean_none s w').mono fun e w2 k => later_from hb k
  have c5 := fun s x n c w' (hb : Below w0.heap.size w0 w') => (fresh_none s x n c w').mono fun e w2 k => none_from hb k
  have c6 := fun w' (hb : Below w0.heap.size w0 w') => (geometry_nil w').mono fun e w2 k => later_from hb k
  have hz := neq_zero
  have HLL := info_geo
  have cn := fun w' (hb : Below w0.heap.size w0 w') => new_live m l h1 (by omega) h3 (by omega) hb
  have cd : ∀ b w', Live w0 b (Fl.fresh m l) w' → Calls Try.prog 11 #[.pointer (some ⟨b, 0, none⟩), .agg #[.int .i64 g.sector, .int .i64 g.slot, .int .i64 g.data, .int .i64 g.quota, .int .i64 g.tries, .int .i64 g.life]] w' fun e w2 => e = .returned (.tuple #[.pointer none, .int .i64 2]) ∧ Below w0.heap.size w0 w2 := fun b w' hL => by
    have hbl := hL.below
    obtain ⟨S, hF, _, _⟩ := hL
    exact (drive.new_bad hF g (fun h => hr h.1)).mono fun e w2 k => later_from hbl k
  have hi1 : ¬ (100 : Int) < m := by omega
  have hi3 : ¬ (128 : Int) < l := by omega
  have HR := hid hr
  clear hr h1 h2 h3 h4
  go_enter Try.func5, Try.ntmps5
  go_wp2_with fail
  rw [hw0.out]
  obtain ⟨hk0, _, _⟩ := HS.out w0 hb0
  go_wp2_with (first
    | (go_at_call 19; (with_reducible refine (c1 _ _ _ _ hb0).mono ?_); rintro e w1 ⟨rfl, hb1⟩; obtain ⟨hk1, _, _⟩ := HS.out w1 hb1)
    | (go_at_call 20; (with_reducible refine (c2 _ _ _ hb1).mono ?_); rintro e w2 ⟨rfl, hb2⟩; obtain ⟨hk2, _, _⟩ := HS.out w2 hb2)
    | (go_at_call 21; (with_reducible refine (c3 _ _ _ _ _ _ hb2).mono ?_); rintro e w3 ⟨rfl, hb3⟩; obtain ⟨hk3, _, _⟩ := HS.out w3 hb3)
    | (go_at_call 22; (with_reducible refine (c4 _ _ hb3).mono ?_); rintro e w4 ⟨rfl, hb4⟩; obtain ⟨hk4, _, _⟩ := HS.out w4 hb4)
    | (go_at_call 23; (with_reducible refine (c5 _ _ _ _ _ hb4).mono ?_); rintro e w5 ⟨rfl, hb5⟩; obtain ⟨hk5, _, _⟩ := HS.out w5 hb5)
    | (go_at_call 24; (with_reducible refine (c6 _ hb5).mono ?_); rintro e w6 ⟨rfl, hb6⟩; obtain ⟨hk6, _, _⟩ := HS.out w6 hb6)
    | (go_at_call 10; (with_reducible refine (cn _ hb6).mono ?_); rintro e w7 ⟨b, rfl, hL7⟩; obtain ⟨hk7, _, _⟩ := HS.out w7 hL7.below)
    | (go_at_call 11; (with_reducible refine (cd _ _ hL7).mono ?_); rintro e w8 ⟨rfl, hb8⟩))
  obtain ⟨hk8, hB8, _⟩ := HS.out w8 hb8
  have hb := below_drewN hb8 1
  have hblk := hB8.drewN 1
  clear c1 c2 c3 c4 c5 c6 cn cd hk1 hk2 hk3 hk4 hk5 hk6 hk7 hb1 hb2 hb3 hb4 hb5 hb6
  refine plan.region (by kernel_rfl) ?_
  refine plan.Rest.first 0 _ (.agg #[.int .i64 g.sector, .int .i64 g.slot, .int .i64 g.data, .int .i64 g.quota, .int .i64 g.tries, .int .i64 g.life]) rfl (by kernel_rfl) (by kernel_rfl) (by kernel_rfl) (by kernel_rfl) (fun w' hb' => plan.exec_load rfl (by kernel_rfl) (hblk.later hb').whole Try.underlying23 rfl HLL.out) ?_
  refine plan.Rest.call 1 _ 25 #[.agg #[.int .i64 g.sector, .int .i64 g.slot, .int .i64 g.data, .int .i64 g.quota, .int .i64 g.tries, .int .i64 g.life]] rfl (by kernel_rfl) (by kernel_rfl) (by kernel_rfl) ((right_no g HR.out w8.drew).mono ?_)
  rintro e W1 ⟨rfl, hn⟩
  have hb := hb.trans (hn.mono hb.size)
  have hblk := hblk.later hn
  refine ⟨_, rfl, hn, ?_⟩
  refine plan.Rest.first 2 _ (.bool true) rfl (by kernel_rfl) (by kernel_rfl) (by kernel_rfl) (by kernel_rfl) (fun w' hb' => (by kernel_rfl)) ?_
  refine plan.Rest.first 3 _ (.bool true) rfl (by kernel_rfl) (by kernel_rfl) (by kernel_rfl) (by kernel_rfl) (fun w' hb' => (by kernel_rfl)) ?_
  refine plan.Rest.skip 4 _ rfl (by kernel_rfl) (by kernel_rfl) (by kernel_rfl) (by kernel_rfl) ?_
  refine plan.Rest.skip 5 _ rfl (by kernel_rfl) (by kernel_rfl) (by kernel_rfl) (by kernel_rfl) ?_
  refine plan.Rest.skip 6 _ rfl (by kernel_rfl) (by kernel_rfl) (by kernel_rfl) (by kernel_rfl) ?_
  refine plan.Rest.skip 7 _ rfl (by kernel_rfl) (by kernel_rfl) (by kernel_rfl) (by kernel_rfl) ?_
  refine plan.Rest.skip 8 _ rfl (by kernel_rfl) (by kernel_rfl) (by kernel_rfl) (by kernel_rfl) ?_
  refine plan.Rest.skip 9 _ rfl (by kernel_rfl) (by kernel_rfl) (by kernel_rfl) (by kernel_rfl) ?_
  refine plan.Rest.first 10 _ (.bool true) rfl (by kernel_rfl) (by kernel_rfl) (by kernel_rfl) (by kernel_rfl) (fun w' hb' => (by kernel_rfl)) ?_
  refine plan.Rest.first 11 _ (.bool true) rfl (by kernel_rfl) (by kernel_rfl) (by kernel_rfl) (by kernel_rfl) (fun w' hb' => (by kernel_rfl)) ?_
  refine plan.Rest.skip 12 _ rfl (by kernel_rfl) (by kernel_rfl) (by kernel_rfl) (by kernel_rfl) ?_
  refine plan.Rest.skip 13 _ rfl (by kernel_rfl) (by kernel_rfl) (by kernel_rfl) (by kernel_rfl) ?_
  refine plan.Rest.skip 14 _ rfl (by kernel_rfl) (by kernel_rfl) (by kernel_rfl) (by kernel_rfl) ?_
  refine plan.Rest.skip 15 _ rfl (by kernel_rfl) (by kernel_rfl) (by kernel_rfl) (by kernel_rfl) ?_
  refine plan.Rest.skip 16 _ rfl (by kernel_rfl) (by kernel_rfl) (by kernel_rfl) (by kernel_rfl) ?_
  refine plan.Rest.first 17 _ (.bool true) rfl (by kernel_rfl) (by kernel_rfl) (by kernel_rfl) (by kernel_rfl) (fun w' hb' => (by kernel_rfl)) ?_
  refine plan.Rest.done (by kernel_rfl) ?_
  walk_nrm
  go_wp2_with (go_at_call 8; (with_reducible refine (ca _ hb).mono ?_); rintro e w9 ⟨rfl, hb9⟩)
  go_ret
  exact ⟨rfl, (HS.out _ hb9).2.2⟩
set_option maxHeartbeats 8000000 in
set_option maxRecDepth 20000 in
theorem good1 (g : Geo) (m l : Nat) (k s a n : Int) (pw : Option Addr) (len cap : Nat) (w : World) (h : ¬ 200 < len) (h1 : 1 ≤ m) (h2 : m ≤ 100) (h3 : 1 ≤ l) (h4 : l ≤ 128) (hr : g.Right) (hm : (m : Int) ≠ g.sectors) : Calls Try.prog 5 #[.agg #[.int .i64 g.sector, .int .i64 g.slot, .int .i64 g.data, .int .i64 g.quota, .int .i64 g.tries, .int .i64 g.life], .agg #[.int .i64 (m : Int), .int .i64 (l : Int)], .agg #[.int .i64 k, .int .i64 s, .int .i64 a, .int .i64 n, .slice pw len cap]] w (Yes w) := by
  have HS := held g m l k s a n pw len cap w
  obtain ⟨w0, hw0⟩ : ∃ z, Hid ((((w.alloc (.cells #[.int .i64 g.sector, .int .i64 g.slot, .int .i64 g.data, .int .i64 g.quota, .int .i64 g.tries, .int .i64 g.life] 23)).alloc (.cells #[.int .i64 (m : Int), .int .i64 (l : Int)] 57)).alloc (.cells #[.int .i64 k, .int .i64 s, .int .i64 a, .int .i64 n, .slice pw len cap] 43)) = z) := ⟨_, rfl⟩
  rw [hw0.out] at HS
  have hb0 : Below w0.heap.size w0 w0 := Below.refl _ _
  have ca := fun w' hb => awake_at w0 w' hb
  have c1 := fun s a n w' (hb : Below w0.heap.size w0 w') => (read_none s a n w').mono fun e w2 k => none_from hb k
  have c2 := fun s a w' (hb : Below w0.heap.size w0 w') => (blank_none s a w').mono fun e w2 k => later_from hb k
  have c3 := fun s a x n c w' (hb : Below w0.heap.size w0 w') => (write_none s a x n c w').mono fun e w2 k => none_from hb k
  have c4 := fun s w' (hb : Below w0.heap.size w0 w') => (clean_none s w').mono fun e w2 k => later_from hb k
  have c5 := fun s x n c w' (hb : Below w0.heap.size w0 w') => (fresh_none s x n c w').mono fun e w2 k => none_from hb k
  have c6 := fun w' (hb : Below w0.heap.size w0 w') => (geometry_nil w').mono fun e w2 k => later_from hb k
  have hz := neq_zero
  have HLL := info_geo
  have cn := fun w' (hb : Below w0.heap.size w0 w') => new_live m l h1 (by omega) h3 (by omega) hb
  have cd : ∀ b w', Live w0 b (Fl.fresh m l) w' → Calls Try.prog 11 #[.pointer (some ⟨b, 0, none⟩), .agg #[.int .i64 g.sector, .int .i64 g.slot, .int .i64 g.data, .int .i64 g.quota, .int .i64 g.tries, .int .i64 g.life]] w' fun e w2 => e = .returned (.tuple #[.pointer none, .int .i64 2]) ∧ Below w0.heap.size w0 w2 := fun b w' hL => by
    have hbl := hL.below
    obtain ⟨S, hF, _, _⟩ := hL
    exact (drive.new_bad hF g (fun h => hm (by have := h.2.1; simpa [Fl.fresh] using this))).mono fun e w2 k => later_from hbl k
  have hi1 : ¬ (100 : Int) < m := by omega
  have hi3 : ¬ (128 : Int) < l := by omega
  have HR := hid hr
  have HM := hid hm
  clear hr h1 h2 h3 h4 hm
  go_enter Try.func5, Try.ntmps5
  go_wp2_with fail
  rw [hw0.out]
  obtain ⟨hk0, _, _⟩ := HS.out w0 hb0
  go_wp2_with (first
    | (go_at_call 19; (with_reducible refine (c1 _ _ _ _ hb0).mono ?_); rintro e w1 ⟨rfl, hb1⟩; obtain ⟨hk1, _, _⟩ := HS.out w1 hb1)
    | (go_at_call 20; (with_reducible refine (c2 _ _ _ hb1).mono ?_); rintro e w2 ⟨rfl, hb2⟩; obtain ⟨hk2, _, _⟩ := HS.out w2 hb2)
    | (go_at_call 21; (with_reducible refine (c3 _ _ _ _ _ _ hb2).mono ?_); rintro e w3 ⟨rfl, hb3⟩; obtain ⟨hk3, _, _⟩ := HS.out w3 hb3)
    | (go_at_call 22; (with_reducible refine (c4 _ _ hb3).mono ?_); rintro e w4 ⟨rfl, hb4⟩; obtain ⟨hk4, _, _⟩ := HS.out w4 hb4)
    | (go_at_call 23; (with_reducible refine (c5 _ _ _ _ _ hb4).mono ?_); rintro e w5 ⟨rfl, hb5⟩; obtain ⟨hk5, _, _⟩ := HS.out w5 hb5)
    | (go_at_call 24; (with_reducible refine (c6 _ hb5).mono ?_); rintro e w6 ⟨rfl, hb6⟩; obtain ⟨hk6, _, _⟩ := HS.out w6 hb6)
    | (go_at_call 10; (with_reducible refine (cn _ hb6).mono ?_); rintro e w7 ⟨b, rfl, hL7⟩; obtain ⟨hk7, _, _⟩ := HS.out w7 hL7.below)
    | (go_at_call 11; (with_reducible refine (cd _ _ hL7).mono ?_); rintro e w8 ⟨rfl, hb8⟩))
  obtain ⟨hk8, hB8, _⟩ := HS.out w8 hb8
  have hb := below_drewN hb8 1
  have hblk := hB8.drewN 1
  clear c1 c2 c3 c4 c5 c6 cn cd hk1 hk2 hk3 hk4 hk5 hk6 hk7 hb1 hb2 hb3 hb4 hb5 hb6
  refine plan.region (by kernel_rfl) ?_
  obtain ⟨M, hM⟩ : ∃ M : Nat, (M : Int) = g.sectors := ⟨g.sectors.toNat, by have := right_bounds HR.out; omega⟩
  refine plan.Rest.first 0 _ (.agg #[.int .i64 g.sector, .int .i64 g.slot, .int .i64 g.data, .int .i64 g.quota, .int .i64 g.tries, .int .i64 g.life]) rfl (by kernel_rfl) (by kernel_rfl) (by kernel_rfl) (by kernel_rfl) (fun w' hb' => plan.exec_load rfl (by kernel_rfl) (hblk.later hb').whole Try.underlying23 rfl HLL.out) ?_
  refine plan.Rest.call 1 _ 25 #[.agg #[.int .i64 g.sector, .int .i64 g.slot, .int .i64 g.data, .int .i64 g.quota, .int .i64 g.tries, .int .i64 g.life]] rfl (by kernel_rfl) (by kernel_rfl) (by kernel_rfl) ((right_yes g HR.out w8.drew).mono ?_)
  rintro e W1 ⟨rfl, hn⟩
  have hb := hb.trans (hn.mono hb.size)
  have hblk := hblk.later hn
  refine ⟨_, rfl, hn, ?_⟩
  refine plan.Rest.first 2 _ (.bool false) rfl (by kernel_rfl) (by kernel_rfl) (by kernel_rfl) (by kernel_rfl) (fun w' hb' => (by kernel_rfl)) ?_
  refine plan.Rest.first 3 _ (.bool false) rfl (by kernel_rfl) (by kernel_rfl) (by kernel_rfl) (by kernel_rfl) (fun w' hb' => (by kernel_rfl)) ?_
  refine plan.Rest.first 4 _ (.pointer (some ⟨w.heap.size + 1, 0, none⟩)) rfl (by kernel_rfl) (by kernel_rfl) (by kernel_rfl) (by kernel_rfl) (fun w' hb' => (by kernel_rfl)) ?_
  refine plan.Rest.first 5 _ (.int .i64 (m : Int)) rfl (by kernel_rfl) (by kernel_rfl) (by kernel_rfl) (by kernel_rfl) (fun w' hb' => plan.exec_load_int rfl (by kernel_rfl) (HS.out w' (hb.trans (hb'.mono hb.size))).1.2.2.2.2.2.2.1 agg_int) ?_
  refine plan.Rest.first 6 _ (.agg #[.int .i64 g.sector, .int .i64 g.slot, .int .i64 g.data, .int .i64 g.quota, .int .i64 g.tries, .int .i64 g.life]) rfl (by kernel_rfl) (by kernel_rfl) (by kernel_rfl) (by kernel_rfl) (fun w' hb' => plan.exec_load rfl (by kernel_rfl) (hblk.later hb').whole Try.underlying23 rfl HLL.out) ?_
  refine plan.Rest.call 7 _ 9 #[.agg #[.int .i64 g.sector, .int .i64 g.slot, .int .i64 g.data, .int .i64 g.quota, .int .i64 g.tries, .int .i64 g.life]] rfl (by kernel_rfl) (by kernel_rfl) (by kernel_rfl) ((map_this g M hM W1 W1 (Below.refl _ _)).mono ?_)
  rintro e W2 ⟨ma, mc, rfl, hn⟩
  have hb := hb.trans (hn.mono hb.size)
  have hblk := hblk.later hn
  refine ⟨_, rfl, hn, ?_⟩
  refine plan.Rest.first 8 _ (.int .i64 (M : Int)) rfl (by kernel_rfl) (by kernel_rfl) (by kernel_rfl) (by kernel_rfl) (fun w' hb' => (by kernel_rfl)) ?_
  refine plan.Rest.first 9 _ (.bool true) rfl (by kernel_rfl) (by kernel_rfl) (by kernel_rfl) (by kernel_rfl) (fun w' hb' => (exec_neq (k := .i64) (n := (m : Int)) (m := (M : Int)) rfl (by kernel_rfl) (by kernel_rfl) (neq_yes _ _ (fun h => HM.out (h.trans hM)) _))) ?_
  refine plan.Rest.first 10 _ (.bool true) rfl (by kernel_rfl) (by kernel_rfl) (by kernel_rfl) (by kernel_rfl) (fun w' hb' => (by kernel_rfl)) ?_
  refine plan.Rest.first 11 _ (.bool true) rfl (by kernel_rfl) (by kernel_rfl) (by kernel_rfl) (by kernel_rfl) (fun w' hb' => (by kernel_rfl)) ?_
  refine plan.Rest.skip 12 _ rfl (by kernel_rfl) (by kernel_rfl) (by kernel_rfl) (by kernel_rfl) ?_
  refine plan.Rest.skip 13 _ rfl (by kernel_rfl) (by kernel_rfl) (by kernel_rfl) (by kernel_rfl) ?_
  refine plan.Rest.skip 14 _ rfl (by kernel_rfl) (by kernel_rfl) (by kernel_rfl) (by kernel_rfl) ?_
  refine plan.Rest.skip 15 _ rfl (by kernel_rfl) (by kernel_rfl) (by kernel_rfl) (by kernel_rfl) ?_
  refine plan.Rest.skip 16 _ rfl (by kernel_rfl) (by kernel_rfl) (by kernel_rfl) (by kernel_rfl) ?_
  refine plan.Rest.first 17 _ (.bool true) rfl (by kernel_rfl) (by kernel_rfl) (by kernel_rfl) (by kernel_rfl) (fun w' hb' => (by kernel_rfl)) ?_
  refine plan.Rest.done (by kernel_rfl) ?_
  walk_nrm
  go_wp2_with (go_at_call 8; (with_reducible refine (ca _ hb).mono ?_); rintro e w9 ⟨rfl, hb9⟩)
  go_ret
  exact ⟨rfl, (HS.out _ hb9).2.2⟩
end Go.Proofs.Ytcigijhoeghnnaa.driveNone
/- DriveNone: for every geometry, size and act: a drive that is none does nothing; there is none over another flash, or a geometry that may not be. No condition. -/
namespace Go.Proofs.Ytcigijhoeghnnaa.driveNone
open Go.RowKit Go.Proofs.Ytcigijhoeghnnaa.drive Go.Proofs.Ytcigijhoeghnnaa.geom Go.Proofs.Ytcigijhoeghnnaa.flash
set_option linter.unusedVariables false

set_option maxHeartbeats 8000000 in
set_option maxRecDepth 20000 in
theorem good2 (g : Geo) (m l : Nat) (k s a n : Int) (pw : Option Addr) (len cap : Nat) (w : World) (h : ¬ 200 < len) (h1 : 1 ≤ m) (h2 : m ≤ 100) (h3 : 1 ≤ l) (h4 : l ≤ 128) (hr : g.Right) (hm : (m : Int) = g.sectors) (hl : (l : Int) ≠ g.sector) : Calls Try.prog 5 #[.agg #[.int .i64 g.sector, .int .i64 g.slot, .int .i64 g.data, .int .i64 g.quota, .int .i64 g.tries, .int .i64 g.life], .agg #[.int .i64 (m : Int), .int .i64 (l : Int)], .agg #[.int .i64 k, .int .i64 s, .int .i64 a, .int .i64 n, .slice pw len cap]] w (Yes w) := by
  have HS := held g m l k s a n pw len cap w
  obtain ⟨w0, hw0⟩ : ∃ z, Hid ((((w.alloc (.cells #[.int .i64 g.sector, .int .i64 g.slot, .int .i64 g.data, .int .i64 g.quota, .int .i64 g.tries, .int .i64 g.life] 23)).alloc (.cells #[.int .i64 (m : Int), .int .i64 (l : Int)] 57)).alloc (.cells #[.int .i64 k, .int .i64 s, .int .i64 a, .int .i64 n, .slice pw len cap] 43)) = z) := ⟨_, rfl⟩
  rw [hw0.out] at HS
  have hb0 : Below w0.heap.size w0 w0 := Below.refl _ _
  have ca := fun w' hb => awake_at w0 w' hb
  have c1 := fun s a n w' (hb : Below w0.heap.size w0 w') => (read_none s a n w').mono fun e w2 k => none_from hb k
  have c2 := fun s a w' (hb : Below w0.heap.size w0 w') => (blank_none s a w').mono fun e w2 k => later_from hb k
  have c3 := fun s a x n c w' (hb : Below w0.heap.size w0 w') => (write_none s a x n c w').mono fun e w2 k => none_from hb k
  have c4 := fun s w' (hb : Below w0.heap.size w0 w') => (clean_none s w').mono fun e w2 k => later_from hb k
  have c5 := fun s x n c w' (hb : Below w0.heap.size w0 w') => (fresh_none s x n c w').mono fun e w2 k => none_from hb k
  have c6 := fun w' (hb : Below w0.heap.size w0 w') => (geometry_nil w').mono fun e w2 k => later_from hb k
  have hz := neq_zero
  have HLL := info_geo
  have cn := fun w' (hb : Below w0.heap.size w0 w') => new_live m l h1 (by omega) h3 (by omega) hb
  have cd : ∀ b w', Live w0 b (Fl.fresh m l) w' → Calls Try.prog 11 #[.pointer (some ⟨b, 0, none⟩), .agg #[.int .i64 g.sector, .int .i64 g.slot, .int .i64 g.data, .int .i64 g.quota, .int .i64 g.tries, .int .i64 g.life]] w' fun e w2 => e = .returned (.tuple #[.pointer none, .int .i64 2]) ∧ Below w0.heap.size w0 w2 := fun b w' hL => by
    have hbl := hL.below
    obtain ⟨S, hF, _, _⟩ := hL
    exact (drive.new_bad hF g (fun h => hl (by have := h.2.2; simpa [Fl.fresh] using this))).mono fun e w2 k => later_from hbl k
  have hi1 : ¬ (100 : Int) < m := by omega
  have hi3 : ¬ (128 : Int) < l := by omega
  have HR := hid hr
  have HM := hid hm
  have HL := hid hl
  clear hr h1 h2 h3 h4 hm hl
  go_enter Try.func5, Try.ntmps5
  go_wp2_with fail
  rw [hw0.out]
  obtain ⟨hk0, _, _⟩ := HS.out w0 hb0
  go_wp2_with (first
    | (go_at_call 19; (with_reducible refine (c1 _ _ _ _ hb0).mono ?_); rintro e w1 ⟨rfl, hb1⟩; obtain ⟨hk1, _, _⟩ := HS.out w1 hb1)
    | (go_at_call 20; (with_reducible refine (c2 _ _ _ hb1).mono ?_); rintro e w2 ⟨rfl, hb2⟩; obtain ⟨hk2, _, _⟩ := HS.out w2 hb2)
    | (go_at_call 21; (with_reducible refine (c3 _ _ _ _ _ _ hb2).mono ?_); rintro e w3 ⟨rfl, hb3⟩; obtain ⟨hk3, _, _⟩ := HS.out w3 hb3)
    | (go_at_call 22; (with_reducible refine (c4 _ _ hb3).mono ?_); rintro e w4 ⟨rfl, hb4⟩; obtain ⟨hk4, _, _⟩ := HS.out w4 hb4)
    | (go_at_call 23; (with_reducible refine (c5 _ _ _ _ _ hb4).mono ?_); rintro e w5 ⟨rfl, hb5⟩; obtain ⟨hk5, _, _⟩ := HS.out w5 hb5)
    | (go_at_call 24; (with_reducible refine (c6 _ hb5).mono ?_); rintro e w6 ⟨rfl, hb6⟩; obtain ⟨hk6, _, _⟩ := HS.out w6 hb6)
    | (go_at_call 10; (with_reducible refine (cn _ hb6).mono ?_); rintro e w7 ⟨b, rfl, hL7⟩; obtain ⟨hk7, _, _⟩ := HS.out w7 hL7.below)
    | (go_at_call 11; (with_reducible refine (cd _ _ hL7).mono ?_); rintro e w8 ⟨rfl, hb8⟩))
  obtain ⟨hk8, hB8, _⟩ := HS.out w8 hb8
  have hb := below_drewN hb8 1
  have hblk := hB8.drewN 1
  clear c1 c2 c3 c4 c5 c6 cn cd hk1 hk2 hk3 hk4 hk5 hk6 hk7 hb1 hb2 hb3 hb4 hb5 hb6
  refine plan.region (by kernel_rfl) ?_
  refine plan.Rest.first 0 _ (.agg #[.int .i64 g.sector, .int .i64 g.slot, .int .i64 g.data, .int .i64 g.quota, .int .i64 g.tries, .int .i64 g.life]) rfl (by kernel_rfl) (by kernel_rfl) (by kernel_rfl) (by kernel_rfl) (fun w' hb' => plan.exec_load rfl (by kernel_rfl) (hblk.later hb').whole Try.underlying23 rfl HLL.out) ?_
  refine plan.Rest.call 1 _ 25 #[.agg #[.int .i64 g.sector, .int .i64 g.slot, .int .i64 g.data, .int .i64 g.quota, .int .i64 g.tries, .int .i64 g.life]] rfl (by kernel_rfl) (by kernel_rfl) (by kernel_rfl) ((right_yes g HR.out w8.drew).mono ?_)
  rintro e W1 ⟨rfl, hn⟩
  have hb := hb.trans (hn.mono hb.size)
  have hblk := hblk.later hn
  refine ⟨_, rfl, hn, ?_⟩
  refine plan.Rest.first 2 _ (.bool false) rfl (by kernel_rfl) (by kernel_rfl) (by kernel_rfl) (by kernel_rfl) (fun w' hb' => (by kernel_rfl)) ?_
  refine plan.Rest.first 3 _ (.bool false) rfl (by kernel_rfl) (by kernel_rfl) (by kernel_rfl) (by kernel_rfl) (fun w' hb' => (by kernel_rfl)) ?_
  refine plan.Rest.first 4 _ (.pointer (some ⟨w.heap.size + 1, 0, none⟩)) rfl (by kernel_rfl) (by kernel_rfl) (by kernel_rfl) (by kernel_rfl) (fun w' hb' => (by kernel_rfl)) ?_
  refine plan.Rest.first 5 _ (.int .i64 (m : Int)) rfl (by kernel_rfl) (by kernel_rfl) (by kernel_rfl) (by kernel_rfl) (fun w' hb' => plan.exec_load_int rfl (by kernel_rfl) (HS.out w' (hb.trans (hb'.mono hb.size))).1.2.2.2.2.2.2.1 agg_int) ?_
  refine plan.Rest.first 6 _ (.agg #[.int .i64 g.sector, .int .i64 g.slot, .int .i64 g.data, .int .i64 g.quota, .int .i64 g.tries, .int .i64 g.life]) rfl (by kernel_rfl) (by kernel_rfl) (by kernel_rfl) (by kernel_rfl) (fun w' hb' => plan.exec_load rfl (by kernel_rfl) (hblk.later hb').whole Try.underlying23 rfl HLL.out) ?_
  refine plan.Rest.call 7 _ 9 #[.agg #[.int .i64 g.sector, .int .i64 g.slot, .int .i64 g.data, .int .i64 g.quota, .int .i64 g.tries, .int .i64 g.life]] rfl (by kernel_rfl) (by kernel_rfl) (by kernel_rfl) ((map_this g m HM.out W1 W1 (Below.refl _ _)).mono ?_)
  rintro e W2 ⟨ma, mc, rfl, hn⟩
  have hb := hb.trans (hn.mono hb.size)
  have hblk := hblk.later hn
  refine ⟨_, rfl, hn, ?_⟩
  refine plan.Rest.first 8 _ (.int .i64 (m : Int)) rfl (by kernel_rfl) (by kernel_rfl) (by kernel_rfl) (by kernel_rfl) (fun w' hb' => (by kernel_rfl)) ?_
  refine plan.Rest.first 9 _ (.bool false) rfl (by kernel_rfl) (by kernel_rfl) (by kernel_rfl) (by kernel_rfl) (fun w' hb' => (exec_neq (k := .i64) (n := (m : Int)) (m := (m : Int)) rfl (by kernel_rfl) (by kernel_rfl) (neq_no _ _))) ?_
  refine plan.Rest.first 10 _ (.bool false) rfl (by kernel_rfl) (by kernel_rfl) (by kernel_rfl) (by kernel_rfl) (fun w' hb' => (by kernel_rfl)) ?_
  refine plan.Rest.first 11 _ (.bool false) rfl (by kernel_rfl) (by kernel_rfl) (by kernel_rfl) (by kernel_rfl) (fun w' hb' => (by kernel_rfl)) ?_
  refine plan.Rest.first 12 _ (.pointer (some ⟨w.heap.size + 1, 1, none⟩)) rfl (by kernel_rfl) (by kernel_rfl) (by kernel_rfl) (by kernel_rfl) (fun w' hb' => (by kernel_rfl)) ?_
  refine plan.Rest.first 13 _ (.int .i64 (l : Int)) rfl (by kernel_rfl) (by kernel_rfl) (by kernel_rfl) (by kernel_rfl) (fun w' hb' => plan.exec_load_int rfl (by kernel_rfl) (HS.out w' (hb.trans (hb'.mono hb.size))).1.2.2.2.2.2.2.2.1 agg_int) ?_
  refine plan.Rest.first 14 _ (.pointer (some ⟨w.heap.size, 0, none⟩)) rfl (by kernel_rfl) (by kernel_rfl) (by kernel_rfl) (by kernel_rfl) (fun w' hb' => (by kernel_rfl)) ?_
  refine plan.Rest.first 15 _ (.int .i64 g.sector) rfl (by kernel_rfl) (by kernel_rfl) (by kernel_rfl) (by kernel_rfl) (fun w' hb' => plan.exec_load_int rfl (by kernel_rfl) (HS.out w' (hb.trans (hb'.mono hb.size))).1.1 agg_int) ?_
  refine plan.Rest.first 16 _ (.bool true) rfl (by kernel_rfl) (by kernel_rfl) (by kernel_rfl) (by kernel_rfl) (fun w' hb' => (exec_neq (k := .i64) (n := (l : Int)) (m := g.sector) rfl (by kernel_rfl) (by kernel_rfl) (neq_yes _ _ HL.out _))) ?_
  refine plan.Rest.first 17 _ (.bool true) rfl (by kernel_rfl) (by kernel_rfl) (by kernel_rfl) (by kernel_rfl) (fun w' hb' => (by kernel_rfl)) ?_
  refine plan.Rest.done (by kernel_rfl) ?_
  walk_nrm
  go_wp2_with (go_at_call 8; (with_reducible refine (ca _ hb).mono ?_); rintro e w9 ⟨rfl, hb9⟩)
  go_ret
  exact ⟨rfl, (HS.out _ hb9).2.2⟩
set_option maxHeartbeats 8000000 in
set_option maxRecDepth 20000 in
theorem good3 (g : Geo) (m l : Nat) (k s a n : Int) (pw : Option Addr) (len cap : Nat) (w : World) (h : ¬ 200 < len) (h1 : 1 ≤ m) (h2 : m ≤ 100) (h3 : 1 ≤ l) (h4 : l ≤ 128) (hr : g.Right) (hm : (m : Int) = g.sectors) (hl : (l : Int) = g.sector) : Calls Try.prog 5 #[.agg #[.int .i64 g.sector, .int .i64 g.slot, .int .i64 g.data, .int .i64 g.quota, .int .i64 g.tries, .int .i64 g.life], .agg #[.int .i64 (m : Int), .int .i64 (l : Int)], .agg #[.int .i64 k, .int .i64 s, .int .i64 a, .int .i64 n, .slice pw len cap]] w (Yes w) := by
  have HS := held g m l k s a n pw len cap w
  obtain ⟨w0, hw0⟩ : ∃ z, Hid ((((w.alloc (.cells #[.int .i64 g.sector, .int .i64 g.slot, .int .i64 g.data, .int .i64 g.quota, .int .i64 g.tries, .int .i64 g.life] 23)).alloc (.cells #[.int .i64 (m : Int), .int .i64 (l : Int)] 57)).alloc (.cells #[.int .i64 k, .int .i64 s, .int .i64 a, .int .i64 n, .slice pw len cap] 43)) = z) := ⟨_, rfl⟩
  rw [hw0.out] at HS
  have hb0 : Below w0.heap.size w0 w0 := Below.refl _ _
  have ca := fun w' hb => awake_at w0 w' hb
  have c1 := fun s a n w' (hb : Below w0.heap.size w0 w') => (read_none s a n w').mono fun e w2 k => none_from hb k
  have c2 := fun s a w' (hb : Below w0.heap.size w0 w') => (blank_none s a w').mono fun e w2 k => later_from hb k
  have c3 := fun s a x n c w' (hb : Below w0.heap.size w0 w') => (write_none s a x n c w').mono fun e w2 k => none_from hb k
  have c4 := fun s w' (hb : Below w0.heap.size w0 w') => (clean_none s w').mono fun e w2 k => later_from hb k
  have c5 := fun s x n c w' (hb : Below w0.heap.size w0 w') => (fresh_none s x n c w').mono fun e w2 k => none_from hb k
  have c6 := fun w' (hb : Below w0.heap.size w0 w') => (geometry_nil w').mono fun e w2 k => later_from hb k
  have hz := neq_zero
  have HLL := info_geo
  have cn := fun w' (hb : Below w0.heap.size w0 w') => new_live m l h1 (by omega) h3 (by omega) hb
  have ft : Fit (Fl.fresh m l) g := ⟨hr, by simpa [Fl.fresh] using hm, by simpa [Fl.fresh] using hl⟩
  have cd : ∀ b w', Live w0 b (Fl.fresh m l) w' → Calls Try.prog 11 #[.pointer (some ⟨b, 0, none⟩), .agg #[.int .i64 g.sector, .int .i64 g.slot, .int .i64 g.data, .int .i64 g.quota, .int .i64 g.tries, .int .i64 g.life]] w' fun e w2 => ∃ d, e = .returned (.tuple #[.pointer (some ⟨d, 0, none⟩), .int .i64 0]) ∧ Below w0.heap.size w0 w2 := fun b w' hb =>
    (new_own hb ft).mono fun e w2 ⟨d, he, ho⟩ => ⟨d, he, ho.below⟩
  have hi1 : ¬ (100 : Int) < m := by omega
  have hi3 : ¬ (128 : Int) < l := by omega
  have HR := hid hr
  have HM := hid hm
  have HL := hid hl
  clear hr h1 h2 h3 h4 hm hl ft
  go_enter Try.func5, Try.ntmps5
  go_wp2_with fail
  rw [hw0.out]
  obtain ⟨hk0, _, _⟩ := HS.out w0 hb0
  go_wp2_with (first
    | (go_at_call 19; (with_reducible refine (c1 _ _ _ _ hb0).mono ?_); rintro e w1 ⟨rfl, hb1⟩; obtain ⟨hk1, _, _⟩ := HS.out w1 hb1)
    | (go_at_call 20; (with_reducible refine (c2 _ _ _ hb1).mono ?_); rintro e w2 ⟨rfl, hb2⟩; obtain ⟨hk2, _, _⟩ := HS.out w2 hb2)
    | (go_at_call 21; (with_reducible refine (c3 _ _ _ _ _ _ hb2).mono ?_); rintro e w3 ⟨rfl, hb3⟩; obtain ⟨hk3, _, _⟩ := HS.out w3 hb3)
    | (go_at_call 22; (with_reducible refine (c4 _ _ hb3).mono ?_); rintro e w4 ⟨rfl, hb4⟩; obtain ⟨hk4, _, _⟩ := HS.out w4 hb4)
    | (go_at_call 23; (with_reducible refine (c5 _ _ _ _ _ hb4).mono ?_); rintro e w5 ⟨rfl, hb5⟩; obtain ⟨hk5, _, _⟩ := HS.out w5 hb5)
    | (go_at_call 24; (with_reducible refine (c6 _ hb5).mono ?_); rintro e w6 ⟨rfl, hb6⟩; obtain ⟨hk6, _, _⟩ := HS.out w6 hb6)
    | (go_at_call 10; (with_reducible refine (cn _ hb6).mono ?_); rintro e w7 ⟨b, rfl, hL7⟩; obtain ⟨hk7, _, _⟩ := HS.out w7 hL7.below)
    | (go_at_call 11; (with_reducible refine (cd _ _ hL7).mono ?_); rintro e w8 ⟨d, rfl, hb8⟩))
  obtain ⟨hk8, hB8, _⟩ := HS.out w8 hb8
  have hb := below_drewN hb8 1
  have hblk := hB8.drewN 1
  clear c1 c2 c3 c4 c5 c6 cn cd hk1 hk2 hk3 hk4 hk5 hk6 hk7 hb1 hb2 hb3 hb4 hb5 hb6
  refine plan.region (by kernel_rfl) ?_
  refine plan.Rest.first 0 _ (.agg #[.int .i64 g.sector, .int .i64 g.slot, .int .i64 g.data, .int .i64 g.quota, .int .i64 g.tries, .int .i64 g.life]) rfl (by kernel_rfl) (by kernel_rfl) (by kernel_rfl) (by kernel_rfl) (fun w' hb' => plan.exec_load rfl (by kernel_rfl) (hblk.later hb').whole Try.underlying23 rfl HLL.out) ?_
  refine plan.Rest.call 1 _ 25 #[.agg #[.int .i64 g.sector, .int .i64 g.slot, .int .i64 g.data, .int .i64 g.quota, .int .i64 g.tries, .int .i64 g.life]] rfl (by kernel_rfl) (by kernel_rfl) (by kernel_rfl) ((right_yes g HR.out w8.drew).mono ?_)
  rintro e W1 ⟨rfl, hn⟩
  have hb := hb.trans (hn.mono hb.size)
  have hblk := hblk.later hn
  refine ⟨_, rfl, hn, ?_⟩
  refine plan.Rest.first 2 _ (.bool false) rfl (by kernel_rfl) (by kernel_rfl) (by kernel_rfl) (by kernel_rfl) (fun w' hb' => (by kernel_rfl)) ?_
  refine plan.Rest.first 3 _ (.bool false) rfl (by kernel_rfl) (by kernel_rfl) (by kernel_rfl) (by kernel_rfl) (fun w' hb' => (by kernel_rfl)) ?_
  refine plan.Rest.first 4 _ (.pointer (some ⟨w.heap.size + 1, 0, none⟩)) rfl (by kernel_rfl) (by kernel_rfl) (by kernel_rfl) (by kernel_rfl) (fun w' hb' => (by kernel_rfl)) ?_
  refine plan.Rest.first 5 _ (.int .i64 (m : Int)) rfl (by kernel_rfl) (by kernel_rfl) (by kernel_rfl) (by kernel_rfl) (fun w' hb' => plan.exec_load_int rfl (by kernel_rfl) (HS.out w' (hb.trans (hb'.mono hb.size))).1.2.2.2.2.2.2.1 agg_int) ?_
  refine plan.Rest.first 6 _ (.agg #[.int .i64 g.sector, .int .i64 g.slot, .int .i64 g.data, .int .i64 g.quota, .int .i64 g.tries, .int .i64 g.life]) rfl (by kernel_rfl) (by kernel_rfl) (by kernel_rfl) (by kernel_rfl) (fun w' hb' => plan.exec_load rfl (by kernel_rfl) (hblk.later hb').whole Try.underlying23 rfl HLL.out) ?_
  refine plan.Rest.call 7 _ 9 #[.agg #[.int .i64 g.sector, .int .i64 g.slot, .int .i64 g.data, .int .i64 g.quota, .int .i64 g.tries, .int .i64 g.life]] rfl (by kernel_rfl) (by kernel_rfl) (by kernel_rfl) ((map_this g m HM.out W1 W1 (Below.refl _ _)).mono ?_)
  rintro e W2 ⟨ma, mc, rfl, hn⟩
  have hb := hb.trans (hn.mono hb.size)
  have hblk := hblk.later hn
  refine ⟨_, rfl, hn, ?_⟩
  refine plan.Rest.first 8 _ (.int .i64 (m : Int)) rfl (by kernel_rfl) (by kernel_rfl) (by kernel_rfl) (by kernel_rfl) (fun w' hb' => (by kernel_rfl)) ?_
  refine plan.Rest.first 9 _ (.bool false) rfl (by kernel_rfl) (by kernel_rfl) (by kernel_rfl) (by kernel_rfl) (fun w' hb' => (exec_neq (k := .i64) (n := (m : Int)) (m := (m : Int)) rfl (by kernel_rfl) (by kernel_rfl) (neq_no _ _))) ?_
  refine plan.Rest.first 10 _ (.bool false) rfl (by kernel_rfl) (by kernel_rfl) (by kernel_rfl) (by kernel_rfl) (fun w' hb' => (by kernel_rfl)) ?_
  refine plan.Rest.first 11 _ (.bool false) rfl (by kernel_rfl) (by kernel_rfl) (by kernel_rfl) (by kernel_rfl) (fun w' hb' => (by kernel_rfl)) ?_
  refine plan.Rest.first 12 _ (.pointer (some ⟨w.heap.size + 1, 1, none⟩)) rfl (by kernel_rfl) (by kernel_rfl) (by kernel_rfl) (by kernel_rfl) (fun w' hb' => (by kernel_rfl)) ?_
  refine plan.Rest.first 13 _ (.int .i64 (l : Int)) rfl (by kernel_rfl) (by kernel_rfl) (by kernel_rfl) (by kernel_rfl) (fun w' hb' => plan.exec_load_int rfl (by kernel_rfl) (HS.out w' (hb.trans (hb'.mono hb.size))).1.2.2.2.2.2.2.2.1 agg_int) ?_
  refine plan.Rest.first 14 _ (.pointer (some ⟨w.heap.size, 0, none⟩)) rfl (by kernel_rfl) (by kernel_rfl) (by kernel_rfl) (by kernel_rfl) (fun w' hb' => (by kernel_rfl)) ?_
  refine plan.Rest.first 15 _ (.int .i64 g.sector) rfl (by kernel_rfl) (by kernel_rfl) (by kernel_rfl) (by kernel_rfl) (fun w' hb' => plan.exec_load_int rfl (by kernel_rfl) (HS.out w' (hb.trans (hb'.mono hb.size))).1.1 agg_int) ?_
  refine plan.Rest.first 16 _ (.bool false) rfl (by kernel_rfl) (by kernel_rfl) (by kernel_rfl) (by kernel_rfl) (fun w' hb' => (exec_neq (k := .i64) (n := (l : Int)) (m := g.sector) rfl (by kernel_rfl) (by kernel_rfl) (by rw [HL.out]; exact neq_no _ _))) ?_
  refine plan.Rest.first 17 _ (.bool false) rfl (by kernel_rfl) (by kernel_rfl) (by kernel_rfl) (by kernel_rfl) (fun w' hb' => (by kernel_rfl)) ?_
  refine plan.Rest.done (by kernel_rfl) ?_
  walk_nrm
  go_wp2_with (go_at_call 8; (with_reducible refine (ca _ hb).mono ?_); rintro e w9 ⟨rfl, hb9⟩)
  go_ret
  exact ⟨rfl, (HS.out _ hb9).2.2⟩
end Go.Proofs.Ytcigijhoeghnnaa.driveNone
/- DriveNone: for every geometry, size and act: a drive that is none does nothing; there is none over another flash, or a geometry that may not be. No condition. -/
namespace Go.Proofs.Ytcigijhoeghnnaa.driveNone
open Go.RowKit Go.Proofs.Ytcigijhoeghnnaa.drive Go.Proofs.Ytcigijhoeghnnaa.geom Go.Proofs.Ytcigijhoeghnnaa.flash
set_option linter.unusedVariables false

theorem walk (g : Geo) (x y : Int) (p : DAct) (w : World) (hg : g.Fits) (bx : -9223372036854775808 ≤ x ∧ x ≤ 9223372036854775807) (by_ : -9223372036854775808 ≤ y ∧ y ≤ 9223372036854775807) (hp : p.Good w) : Calls Try.prog 5 #[.agg #[.int .i64 g.sector, .int .i64 g.slot, .int .i64 g.data, .int .i64 g.quota, .int .i64 g.tries, .int .i64 g.life], .agg #[.int .i64 x, .int .i64 y], p.val] w (Yes w) := by
  by_cases h : 200 < p.wLen
  · exact big0 g x y p.k p.s p.a p.n p.w p.wLen p.wCap w h
  by_cases h1 : 100 < x
  · by_cases h2 : x ≤ 512
    · exact big1 g x y p.k p.s p.a p.n p.w p.wLen p.wCap w h h1 h2
    by_cases h3 : 128 < y
    · by_cases h4 : y ≤ 1024
      · exact big3 g x y p.k p.s p.a p.n p.w p.wLen p.wCap w h h1 h2 h3 h4
      · exact bad3 g x y p.k p.s p.a p.n p.w p.wLen p.wCap w h h1 h2 h3 h4 (by omega)
    · exact bad1 g x y p.k p.s p.a p.n p.w p.wLen p.wCap w h h1 h2 h3 (by omega)
  by_cases h3 : 128 < y
  · by_cases h4 : y ≤ 1024
    · exact big2 g x y p.k p.s p.a p.n p.w p.wLen p.wCap w h h1 h3 h4
    · exact bad2 g x y p.k p.s p.a p.n p.w p.wLen p.wCap w h h1 h3 h4 (by omega)
  by_cases h5 : x < 1 ∨ y < 1
  · exact bad0 g x y p.k p.s p.a p.n p.w p.wLen p.wCap w h h1 h3 (by omega)
  obtain ⟨m, rfl⟩ := Int.eq_ofNat_of_zero_le (show 0 ≤ x by omega)
  obtain ⟨l, rfl⟩ := Int.eq_ofNat_of_zero_le (show 0 ≤ y by omega)
  have i1 : 1 ≤ m := by omega
  have i2 : m ≤ 100 := by omega
  have i3 : 1 ≤ l := by omega
  have i4 : l ≤ 128 := by omega
  by_cases hr : g.Right
  · by_cases hm : (m : Int) = g.sectors
    · by_cases hl : (l : Int) = g.sector
      · exact good3 g m l p.k p.s p.a p.n p.w p.wLen p.wCap w h i1 i2 i3 i4 hr hm hl
      · exact good2 g m l p.k p.s p.a p.n p.w p.wLen p.wCap w h i1 i2 i3 i4 hr hm hl
    · exact good1 g m l p.k p.s p.a p.n p.w p.wLen p.wCap w h i1 i2 i3 i4 hr hm
  · exact good0 g m l p.k p.s p.a p.n p.w p.wLen p.wCap w h i1 i2 i3 i4 hr
end Go.Proofs.Ytcigijhoeghnnaa.driveNone
/- What a list of strings, an array of two ints and a list of pairs of ints that came in read as. No condition. -/
namespace Go.Proofs.Ytcigijhoeghnnaa
open Go.ChangeShapes Go.WideShapes Go.ChangeAt Go.RowKit Go.Deep
set_option linter.unusedVariables false

section
variable {H : Type} {enc : TypeId × Value → H} {P : Program} {W : World}

theorem open_strs_arg {t e : TypeId} {a : Option Addr} {len cap : Nat} {d : DataW H} {pl : List MemPlace} (ht : P.underlying t = some (.slice e)) (he : P.underlying e = some .string) (hC : P.cellsOf e = 1)
    (h0 : DataW.Trod enc P W 0 (fun _ => true) true t (.slice a len cap) d pl) : ∃ ss : List ByteArray, len = ss.length ∧ Vals W a ss.length (ss.map Value.string) ∧ len ≤ cap ∧ cap ≤ maxLen := by
  obtain ⟨fuel, hf⟩ := h0
  have hf2 : DataW.trod enc P W 0 (fun _ => true) true fuel t [.slice a len cap] = some (d, pl) := by simpa [Value.cells] using hf
  rcases open_strs ht he hC hf2 with ⟨hcs, _⟩ | ⟨A, len', cap', m, Sx, hcs, _, hlc, hcm, hm, _, hcell⟩
  · simp at hcs
    obtain ⟨rfl, rfl, rfl⟩ := hcs
    exact ⟨[], rfl, Vals.nil, Nat.le_refl _, by omega⟩
  · simp at hcs
    obtain ⟨rfl, rfl, rfl⟩ := hcs
    simp only [if_true] at hm
    refine ⟨(List.range len).map Sx, by simp, ⟨by simp, ?_⟩, hlc, hcm⟩
    by_cases hz : len = 0
    · exact .inl (by simpa using hz)
    · right
      obtain ⟨b, off, spot⟩ := A
      have hc0 := (hcell 0 (by omega)).1
      have hspot : spot = none := by simpa [Addr.add] using World.cell?_spot hc0
      subst hspot
      have hb : b < W.heap.size := by
        have := World.block_lt_of_cell? W _ hc0
        simpa [Addr.add] using this
      refine ⟨b, off, rfl, hb, fun i v hv => ?_⟩
      have hi : i < len := by have := (List.getElem?_eq_some_iff.1 hv).1; simpa using this
      simp [hi] at hv
      subst hv
      have := (hcell i (by omega)).1
      rwa [Addr.add_lit] at this

theorem open_two {r : Reach} {b0 : Nat} {t e : TypeId} {v : Value} {d : DataW H} {pl : List MemPlace} (ht : P.underlying t = some (.array 2 e)) (he : P.underlying e = some (.int .i64)) (hC : P.cellsOf e = 1) (hT : P.cellsOf t = 2)
    (hwf : ∀ n, (Lit.int .i64 n).wf = true → -9223372036854775808 ≤ n ∧ n ≤ 9223372036854775807) (hv : Value.okWide P W r b0 t v) (h : DataW.Trod enc P W 0 (fun _ => true) true t v d pl) :
    ∃ x y : Int, (-9223372036854775808 ≤ x ∧ x ≤ 9223372036854775807) ∧ (-9223372036854775808 ≤ y ∧ y ≤ 9223372036854775807) ∧ v = .agg #[.int .i64 x, .int .i64 y] := by
  simp only [Value.okWide, ht] at hv
  obtain ⟨cs, rfl, hsz, _⟩ := hv
  obtain ⟨fuel, hf⟩ := h
  obtain ⟨xs, m, _, _, hl, hlen, hx⟩ := DataW.trod_array ht hf
  rw [hT] at hl
  match cs, hl with
  | ⟨[c0, c1]⟩, _ =>
    match xs, hlen with
    | [y0, y1], _ =>
      have h0 := hx 0 (by omega)
      have h1 := hx 1 (by omega)
      simp [Value.cells, hC] at h0 h1
      obtain ⟨k, e0, _, w0⟩ := DataW.trod_int he h0
      obtain ⟨n, e1, _, w1⟩ := DataW.trod_int he h1
      simp at e0 e1
      subst e0; subst e1
      exact ⟨k, n, hwf _ w0, hwf _ w1, rfl⟩

/-- the slice at a reads as the pairs l -/
def Pairs (w : World) (a : Option Addr) (l : List (Int × Int)) : Prop :=
  l = [] ∨ ∃ b off, a = some ⟨b, off, none⟩ ∧ b < w.heap.size ∧ ∀ i p, l[i]? = some p → w.cell? ⟨b, off + i * 2, none⟩ = some (.int .i64 p.1) ∧ w.cell? ⟨b, off + i * 2 + 1, none⟩ = some (.int .i64 p.2)
theorem open_pairs {t e : TypeId} {f0 f1 : Field} {a : Option Addr} {len cap : Nat} {d : DataW H} {pl : List MemPlace} (ht : P.underlying t = some (.slice e)) (he : P.underlying e = some (.struct #[f0, f1])) (hone : oneCellFields P #[f0, f1] = true) (hC : P.cellsOf e = 2)
    (u0 : P.underlying f0.type = some (.int .i64)) (u1 : P.underlying f1.type = some (.int .i64)) (h0 : DataW.Trod enc P W 0 (fun _ => true) true t (.slice a len cap) d pl) : ∃ l : List (Int × Int), len = l.length ∧ Pairs W a l ∧ len ≤ cap ∧ cap ≤ maxLen := by
  obtain ⟨fuel, hf⟩ := h0
  have hf2 : DataW.trod enc P W 0 (fun _ => true) true fuel t [.slice a len cap] = some (d, pl) := by simpa [Value.cells] using hf
  rcases open_slice ht hf2 with ⟨hcs, _⟩ | ⟨A, len', cap', m, n, D, Pl, hcs, _, hlc, hcm, hm, hx, hrow⟩
  · simp at hcs
    obtain ⟨rfl, rfl, rfl⟩ := hcs
    exact ⟨[], rfl, .inl rfl, Nat.le_refl _, by omega⟩
  · simp at hcs
    obtain ⟨rfl, rfl, rfl⟩ := hcs
    simp only [if_true] at hm
    have each : ∀ r, r < len → ∃ p : Int × Int, W.cell? (A.add (r * 2)) = some (.int .i64 p.1) ∧ W.cell? (A.add (r * 2 + 1)) = some (.int .i64 p.2) := by
      intro r hr
      obtain ⟨cs', h1, h2⟩ := hrow r (by omega)
      rw [hC] at h1
      obtain ⟨_, hlen, hcell⟩ := World.cells?_some h1
      obtain ⟨y0, y1, n', _, hl, g0, g1⟩ := trod_struct2 he h2
      obtain ⟨o0, k0⟩ := hone_of hone 0 f0 rfl
      obtain ⟨o1, k1⟩ := hone_of hone 1 f1 rfl
      rw [hC] at hl
      match cs', hl with
      | [c0, c1], _ =>
        obtain ⟨k, e0, _, _⟩ := DataW.trod_int u0 (by simpa [o0, k0] using g0)
        obtain ⟨j, e1, _, _⟩ := DataW.trod_int u1 (by simpa [o1, k1] using g1)
        have q0 := hcell 0 (by omega)
        have q1 := hcell 1 (by omega)
        rw [add_add] at q0 q1
        refine ⟨(k, j), ?_, ?_⟩
        · have : c0 = .int .i64 k := by simpa using e0
          simpa [this] using q0
        · have : c1 = .int .i64 j := by simpa using e1
          simpa [this] using q1
    obtain ⟨y, hy⟩ := choose_lt each
    refine ⟨(List.range len).map y, by simp, ?_, hlc, hcm⟩
    by_cases hz : len = 0
    · subst hz; exact .inl rfl
    · right
      obtain ⟨b, off, spot⟩ := A
      have hc0 := (hy 0 (by omega)).1
      have hspot : spot = none := by simpa [Addr.add] using World.cell?_spot hc0
      subst hspot
      have hb : b < W.heap.size := by
        have := World.block_lt_of_cell? W _ hc0
        simpa [Addr.add] using this
      refine ⟨b, off, rfl, hb, fun i p hp => ?_⟩
      have hi : i < len := by have := (List.getElem?_eq_some_iff.1 hp).1; simpa using this
      simp [hi] at hp
      subst hp
      have e0 := (hy i hi).1
      have e1 := (hy i hi).2
      rw [Addr.add_lit] at e0 e1
      exact ⟨e0, by rw [Nat.add_assoc]; exact e1⟩
theorem Pairs.below {w w' : World} {a : Option Addr} {l : List (Int × Int)} (h : Pairs w a l) (hb : Below w.heap.size w w') : Pairs w' a l := by
  rcases h with h | ⟨b, off, ha, hlt, hc⟩
  · exact .inl h
  · exact .inr ⟨b, off, ha, Nat.lt_of_lt_of_le hlt hb.size, fun i p hp => by rw [hb.cell (p := ⟨b, off + i * 2, none⟩) hlt, hb.cell (p := ⟨b, off + i * 2 + 1, none⟩) hlt]; exact hc i p hp⟩
theorem Pairs.at {w : World} {a : Option Addr} {l : List (Int × Int)} (h : Pairs w a l) {i : Nat} (hi : i < l.length) :
    ∃ b off p, a = some ⟨b, off, none⟩ ∧ b < w.heap.size ∧ l[i]? = some p ∧ w.cell? ⟨b, off + i * 2, none⟩ = some (.int .i64 p.1) ∧ w.cell? ⟨b, off + i * 2 + 1, none⟩ = some (.int .i64 p.2) := by
  rcases h with rfl | ⟨b, off, ha, hlt, hc⟩
  · simp at hi
  · have hp := List.getElem?_eq_getElem hi
    exact ⟨b, off, _, ha, hlt, hp, hc i _ hp⟩
end
end Go.Proofs.Ytcigijhoeghnnaa
