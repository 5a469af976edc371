/- GeomPlaces: whether any geometry is right, and where any slot's ledger, any chunk and any page lies, is as the reference says. No condition. -/
import Derived.Test.YtkkogoiboanepaaGeomFind
import Derived.Test.YtkkogoiboanepaaGeomAwake
import Derived.Test.YtkkogoiboanepaaPlanMore
import Derived.Test.YtkkogoiboanepaaGeomOpen
namespace Go.Proofs.Ytkkogoiboanepaa.geomPlaces
open Go.RowKit Go.Proofs.Ytkkogoiboanepaa.geom
set_option linter.unusedVariables false

theorem eqs (x : Int) (w : World) : (binOp .eql 3 (.int .i64 x) (.int .i64 x)).run Try.prog w = .ok (.bool true) w := by simp [go_sem]
theorem eqn (x : Int) (n : Nat) (h : (n : Int) = x) (w : World) : (binOp .eql 3 (.int .i64 x) (.int .i64 (n : Int))).run Try.prog w = .ok (.bool true) w := by rw [h]; exact eqs x w
theorem info_geo : Hid ((Try.prog.info? 23).map (·.size) = some 6) := by show _ = _; kernel_rfl
set_option maxRecDepth 20000 in
theorem walk0 (g : Geo) (a b : Int) (w : World) : Calls Try.prog 3 #[.agg #[.int .i64 g.sector, .int .i64 g.slot, .int .i64 g.data, .int .i64 g.quota, .int .i64 g.tries, .int .i64 g.life], .int .i64 a, .int .i64 b] w (Yes w) := by
  have HLL := info_geo
  have HBL := hid (Block.new w 23 [.int .i64 g.sector, .int .i64 g.slot, .int .i64 g.data, .int .i64 g.quota, .int .i64 g.tries, .int .i64 g.life])
  have HB := hid (belowNew g w)
  obtain ⟨w0, hw0⟩ : ∃ x, Hid ((w.alloc (.cells #[.int .i64 g.sector, .int .i64 g.slot, .int .i64 g.data, .int .i64 g.quota, .int .i64 g.tries, .int .i64 g.life] 23)) = x) := ⟨_, rfl⟩
  have HB2 : Hid (∀ w', Below w0.heap.size w0 w' → Below w.heap.size w w') := hid (by rw [← hw0.out]; exact HB.out)
  have HBL2 : Hid (Block w0.drew w.heap.size 23 [.int .i64 g.sector, .int .i64 g.slot, .int .i64 g.data, .int .i64 g.quota, .int .i64 g.tries, .int .i64 g.life]) := hid (by rw [← hw0.out]; exact HBL.out.drewN 1)
  go_enter Try.func3, Try.ntmps3
  go_wp2
  rw [hw0.out]
  clear HBL HB hw0
  have hb : Below w0.heap.size w0 w0.drew := below_drewN (Below.refl _ _) 1
  have hblk := HBL2.out
  refine plan.region (by kernel_rfl) ?_
  by_cases h : g.Right
  · refine plan.Rest.first 0 _ (.agg #[.int .i64 g.sector, .int .i64 g.slot, .int .i64 g.data, .int .i64 g.quota, .int .i64 g.tries, .int .i64 g.life]) rfl (by kernel_rfl) (by kernel_rfl) (by kernel_rfl) (by kernel_rfl) (fun w' hb' => plan.exec_load rfl (by kernel_rfl) (hblk.later hb').whole Try.underlying23 rfl HLL.out) ?_
    refine plan.Rest.first 3 _ (.agg #[.int .i64 g.sector, .int .i64 g.slot, .int .i64 g.data, .int .i64 g.quota, .int .i64 g.tries, .int .i64 g.life]) rfl (by kernel_rfl) (by kernel_rfl) (by kernel_rfl) (by kernel_rfl) (fun w' hb' => plan.exec_load rfl (by kernel_rfl) (hblk.later hb').whole Try.underlying23 rfl HLL.out) ?_
    refine plan.Rest.call 1 _ 5 #[.agg #[.int .i64 g.sector, .int .i64 g.slot, .int .i64 g.data, .int .i64 g.quota, .int .i64 g.tries, .int .i64 g.life]] rfl (by kernel_rfl) (by kernel_rfl) (by kernel_rfl) ((check_yes g h w0.drew).mono ?_)
    rintro e W1 ⟨rfl, hn⟩
    have hb := hb.trans (hn.mono hb.size)
    have hblk := hblk.later hn
    refine ⟨_, rfl, hn, ?_⟩
    refine plan.Rest.first 2 _ (.bool true) rfl (by kernel_rfl) (by kernel_rfl) (by kernel_rfl) (by kernel_rfl) (fun w' hb' => (by kernel_rfl)) ?_
    refine plan.Rest.call 4 _ 6 #[.agg #[.int .i64 g.sector, .int .i64 g.slot, .int .i64 g.data, .int .i64 g.quota, .int .i64 g.tries, .int .i64 g.life]] rfl (by kernel_rfl) (by kernel_rfl) (by kernel_rfl) ((right_yes g h W1).mono ?_)
    rintro e W2 ⟨rfl, hn⟩
    have hb := hb.trans (hn.mono hb.size)
    have hblk := hblk.later hn
    refine ⟨_, rfl, hn, ?_⟩
    refine plan.Rest.first 5 _ (.bool true) rfl (by kernel_rfl) (by kernel_rfl) (by kernel_rfl) (by kernel_rfl) (fun w' hb' => (by kernel_rfl)) ?_
    refine plan.Rest.first 6 _ (.bool true) rfl (by kernel_rfl) (by kernel_rfl) (by kernel_rfl) (by kernel_rfl) (fun w' hb' => (by kernel_rfl)) ?_
    refine plan.Rest.first 7 _ (.agg #[.int .i64 g.sector, .int .i64 g.slot, .int .i64 g.data, .int .i64 g.quota, .int .i64 g.tries, .int .i64 g.life]) rfl (by kernel_rfl) (by kernel_rfl) (by kernel_rfl) (by kernel_rfl) (fun w' hb' => plan.exec_load rfl (by kernel_rfl) (hblk.later hb').whole Try.underlying23 rfl HLL.out) ?_
    refine plan.Rest.call 8 _ 5 #[.agg #[.int .i64 g.sector, .int .i64 g.slot, .int .i64 g.data, .int .i64 g.quota, .int .i64 g.tries, .int .i64 g.life]] rfl (by kernel_rfl) (by kernel_rfl) (by kernel_rfl) ((check_yes g h W2).mono ?_)
    rintro e W3 ⟨rfl, hn⟩
    have hb := hb.trans (hn.mono hb.size)
    have hblk := hblk.later hn
    refine ⟨_, rfl, hn, ?_⟩
    refine plan.Rest.first 9 _ (.bool true) rfl (by kernel_rfl) (by kernel_rfl) (by kernel_rfl) (by kernel_rfl) (fun w' hb' => (by kernel_rfl)) ?_
    refine plan.Rest.first 10 _ (.bool true) rfl (by kernel_rfl) (by kernel_rfl) (by kernel_rfl) (by kernel_rfl) (fun w' hb' => (by kernel_rfl)) ?_
    refine plan.Rest.skip 11 _ rfl (by kernel_rfl) (by kernel_rfl) (by kernel_rfl) (by kernel_rfl) ?_
    refine plan.Rest.skip 12 _ rfl (by kernel_rfl) (by kernel_rfl) (by kernel_rfl) (by kernel_rfl) ?_
    refine plan.Rest.skip 13 _ rfl (by kernel_rfl) (by kernel_rfl) (by kernel_rfl) (by kernel_rfl) ?_
    refine plan.Rest.first 14 _ (.bool true) rfl (by kernel_rfl) (by kernel_rfl) (by kernel_rfl) (by kernel_rfl) (fun w' hb' => (by kernel_rfl)) ?_
    refine plan.Rest.first 15 _ (.bool true) rfl (by kernel_rfl) (by kernel_rfl) (by kernel_rfl) (by kernel_rfl) (fun w' hb' => (by kernel_rfl)) ?_
    refine plan.Rest.first 16 _ (.bool true) rfl (by kernel_rfl) (by kernel_rfl) (by kernel_rfl) (by kernel_rfl) (fun w' hb' => (by kernel_rfl)) ?_
    refine plan.Rest.first 17 _ (.agg #[.int .i64 g.sector, .int .i64 g.slot, .int .i64 g.data, .int .i64 g.quota, .int .i64 g.tries, .int .i64 g.life]) rfl (by kernel_rfl) (by kernel_rfl) (by kernel_rfl) (by kernel_rfl) (fun w' hb' => plan.exec_load rfl (by kernel_rfl) (hblk.later hb').whole Try.underlying23 rfl HLL.out) ?_
    refine plan.Rest.first 19 _ (.agg #[.int .i64 g.sector, .int .i64 g.slot, .int .i64 g.data, .int .i64 g.quota, .int .i64 g.tries, .int .i64 g.life]) rfl (by kernel_rfl) (by kernel_rfl) (by kernel_rfl) (by kernel_rfl) (fun w' hb' => plan.exec_load rfl (by kernel_rfl) (hblk.later hb').whole Try.underlying23 rfl HLL.out) ?_
    refine plan.Rest.call 18 _ 7 #[.agg #[.int .i64 g.sector, .int .i64 g.slot, .int .i64 g.data, .int .i64 g.quota, .int .i64 g.tries, .int .i64 g.life]] rfl (by kernel_rfl) (by kernel_rfl) (by kernel_rfl) ((sectors_any g W3).mono ?_)
    rintro e W4 ⟨rfl, hn⟩
    have hb := hb.trans (hn.mono hb.size)
    have hblk := hblk.later hn
    refine ⟨_, rfl, hn, ?_⟩
    refine plan.Rest.call 20 _ 8 #[.agg #[.int .i64 g.sector, .int .i64 g.slot, .int .i64 g.data, .int .i64 g.quota, .int .i64 g.tries, .int .i64 g.life]] rfl (by kernel_rfl) (by kernel_rfl) (by kernel_rfl) ((map_any g W4).mono ?_)
    rintro e W5 ⟨ra, rc, n, rfl, hz, _, hn⟩
    have hb := hb.trans (hn.mono hb.size)
    have hblk := hblk.later hn
    have heq := eqn g.sectors n hz
    refine ⟨_, rfl, hn, ?_⟩
    refine plan.Rest.first 21 _ (.int .i64 (n : Int)) rfl (by kernel_rfl) (by kernel_rfl) (by kernel_rfl) (by kernel_rfl) (fun w' hb' => (by kernel_rfl)) ?_
    refine plan.Rest.first 22 _ (.bool true) rfl (by kernel_rfl) (by kernel_rfl) (by kernel_rfl) (by kernel_rfl) (fun w' hb' => (plan.exec_eql (vx := .int .i64 g.sectors) (vy := .int .i64 (n : Int)) rfl (by kernel_rfl) (by kernel_rfl) (plan.eqg _ _ _ _ _ _ _ _) (heq _))) ?_
    refine plan.Rest.first 23 _ (.bool true) rfl (by kernel_rfl) (by kernel_rfl) (by kernel_rfl) (by kernel_rfl) (fun w' hb' => (by kernel_rfl)) ?_
    refine plan.Rest.first 24 _ (.bool true) rfl (by kernel_rfl) (by kernel_rfl) (by kernel_rfl) (by kernel_rfl) (fun w' hb' => (by kernel_rfl)) ?_
    refine plan.Rest.first 25 _ (.agg #[.int .i64 g.sector, .int .i64 g.slot, .int .i64 g.data, .int .i64 g.quota, .int .i64 g.tries, .int .i64 g.life]) rfl (by kernel_rfl) (by kernel_rfl) (by kernel_rfl) (by kernel_rfl) (fun w' hb' => plan.exec_load rfl (by kernel_rfl) (hblk.later hb').whole Try.underlying23 rfl HLL.out) ?_
    refine plan.Rest.first 26 _ (.int .i64 a) rfl (by kernel_rfl) (by kernel_rfl) (by kernel_rfl) (by kernel_rfl) (fun w' hb' => (by kernel_rfl)) ?_
    refine plan.Rest.first 28 _ (.agg #[.int .i64 g.sector, .int .i64 g.slot, .int .i64 g.data, .int .i64 g.quota, .int .i64 g.tries, .int .i64 g.life]) rfl (by kernel_rfl) (by kernel_rfl) (by kernel_rfl) (by kernel_rfl) (fun w' hb' => plan.exec_load rfl (by kernel_rfl) (hblk.later hb').whole Try.underlying23 rfl HLL.out) ?_
    refine plan.Rest.first 29 _ (.int .i64 a) rfl (by kernel_rfl) (by kernel_rfl) (by kernel_rfl) (by kernel_rfl) (fun w' hb' => (by kernel_rfl)) ?_
    refine plan.Rest.call 27 _ 9 #[.agg #[.int .i64 g.sector, .int .i64 g.slot, .int .i64 g.data, .int .i64 g.quota, .int .i64 g.tries, .int .i64 g.life], .int .i64 a] rfl (by kernel_rfl) (by kernel_rfl) (by kernel_rfl) ((ledger_any g a W5).mono ?_)
    rintro e W6 ⟨rfl, hn⟩
    have hb := hb.trans (hn.mono hb.size)
    have hblk := hblk.later hn
    refine ⟨_, rfl, hn, ?_⟩
    refine plan.Rest.call 30 _ 10 #[.agg #[.int .i64 g.sector, .int .i64 g.slot, .int .i64 g.data, .int .i64 g.quota, .int .i64 g.tries, .int .i64 g.life], .int .i64 1, .int .i64 a, .int .i64 0] rfl (by kernel_rfl) (by kernel_rfl) (by kernel_rfl) ((find_ledger_at g a W6 W6 (Below.refl _ _)).mono ?_)
    rintro e W7 ⟨rfl, hn⟩
    have hb := hb.trans (hn.mono hb.size)
    have hblk := hblk.later hn
    refine ⟨_, rfl, hn, ?_⟩
    refine plan.Rest.first 31 _ (.bool true) rfl (by kernel_rfl) (by kernel_rfl) (by kernel_rfl) (by kernel_rfl) (fun w' hb' => (plan.exec_eql (vx := .int .i64 (g.ledger a)) (vy := .int .i64 (g.ledger a)) rfl (by kernel_rfl) (by kernel_rfl) (plan.eqg _ _ _ _ _ _ _ _) (eqs _ _))) ?_
    refine plan.Rest.first 32 _ (.bool true) rfl (by kernel_rfl) (by kernel_rfl) (by kernel_rfl) (by kernel_rfl) (fun w' hb' => (by kernel_rfl)) ?_
    refine plan.Rest.first 33 _ (.bool true) rfl (by kernel_rfl) (by kernel_rfl) (by kernel_rfl) (by kernel_rfl) (fun w' hb' => (by kernel_rfl)) ?_
    refine plan.Rest.first 34 _ (.agg #[.int .i64 g.sector, .int .i64 g.slot, .int .i64 g.data, .int .i64 g.quota, .int .i64 g.tries, .int .i64 g.life]) rfl (by kernel_rfl) (by kernel_rfl) (by kernel_rfl) (by kernel_rfl) (fun w' hb' => plan.exec_load rfl (by kernel_rfl) (hblk.later hb').whole Try.underlying23 rfl HLL.out) ?_
    refine plan.Rest.first 35 _ (.int .i64 a) rfl (by kernel_rfl) (by kernel_rfl) (by kernel_rfl) (by kernel_rfl) (fun w' hb' => (by kernel_rfl)) ?_
    refine plan.Rest.first 36 _ (.int .i64 b) rfl (by kernel_rfl) (by kernel_rfl) (by kernel_rfl) (by kernel_rfl) (fun w' hb' => (by kernel_rfl)) ?_
    refine plan.Rest.first 38 _ (.agg #[.int .i64 g.sector, .int .i64 g.slot, .int .i64 g.data, .int .i64 g.quota, .int .i64 g.tries, .int .i64 g.life]) rfl (by kernel_rfl) (by kernel_rfl) (by kernel_rfl) (by kernel_rfl) (fun w' hb' => plan.exec_load rfl (by kernel_rfl) (hblk.later hb').whole Try.underlying23 rfl HLL.out) ?_
    refine plan.Rest.first 39 _ (.int .i64 a) rfl (by kernel_rfl) (by kernel_rfl) (by kernel_rfl) (by kernel_rfl) (fun w' hb' => (by kernel_rfl)) ?_
    refine plan.Rest.first 40 _ (.int .i64 b) rfl (by kernel_rfl) (by kernel_rfl) (by kernel_rfl) (by kernel_rfl) (fun w' hb' => (by kernel_rfl)) ?_
    refine plan.Rest.call 37 _ 11 #[.agg #[.int .i64 g.sector, .int .i64 g.slot, .int .i64 g.data, .int .i64 g.quota, .int .i64 g.tries, .int .i64 g.life], .int .i64 a, .int .i64 b] rfl (by kernel_rfl) (by kernel_rfl) (by kernel_rfl) ((chunk_any g a b W7).mono ?_)
    rintro e W8 ⟨rfl, hn⟩
    have hb := hb.trans (hn.mono hb.size)
    have hblk := hblk.later hn
    refine ⟨_, rfl, hn, ?_⟩
    refine plan.Rest.call 41 _ 10 #[.agg #[.int .i64 g.sector, .int .i64 g.slot, .int .i64 g.data, .int .i64 g.quota, .int .i64 g.tries, .int .i64 g.life], .int .i64 2, .int .i64 a, .int .i64 b] rfl (by kernel_rfl) (by kernel_rfl) (by kernel_rfl) ((find_chunk_at g a b W8 W8 (Below.refl _ _)).mono ?_)
    rintro e W9 ⟨rfl, hn⟩
    have hb := hb.trans (hn.mono hb.size)
    have hblk := hblk.later hn
    refine ⟨_, rfl, hn, ?_⟩
    refine plan.Rest.first 42 _ (.bool true) rfl (by kernel_rfl) (by kernel_rfl) (by kernel_rfl) (by kernel_rfl) (fun w' hb' => (plan.exec_eql (vx := .int .i64 (g.chunk a b)) (vy := .int .i64 (g.chunk a b)) rfl (by kernel_rfl) (by kernel_rfl) (plan.eqg _ _ _ _ _ _ _ _) (eqs _ _))) ?_
    refine plan.Rest.first 43 _ (.bool true) rfl (by kernel_rfl) (by kernel_rfl) (by kernel_rfl) (by kernel_rfl) (fun w' hb' => (by kernel_rfl)) ?_
    refine plan.Rest.first 44 _ (.bool true) rfl (by kernel_rfl) (by kernel_rfl) (by kernel_rfl) (by kernel_rfl) (fun w' hb' => (by kernel_rfl)) ?_
    refine plan.Rest.first 45 _ (.agg #[.int .i64 g.sector, .int .i64 g.slot, .int .i64 g.data, .int .i64 g.quota, .int .i64 g.tries, .int .i64 g.life]) rfl (by kernel_rfl) (by kernel_rfl) (by kernel_rfl) (by kernel_rfl) (fun w' hb' => plan.exec_load rfl (by kernel_rfl) (hblk.later hb').whole Try.underlying23 rfl HLL.out) ?_
    refine plan.Rest.first 46 _ (.int .i64 b) rfl (by kernel_rfl) (by kernel_rfl) (by kernel_rfl) (by kernel_rfl) (fun w' hb' => (by kernel_rfl)) ?_
    refine plan.Rest.first 48 _ (.agg #[.int .i64 g.sector, .int .i64 g.slot, .int .i64 g.data, .int .i64 g.quota, .int .i64 g.tries, .int .i64 g.life]) rfl (by kernel_rfl) (by kernel_rfl) (by kernel_rfl) (by kernel_rfl) (fun w' hb' => plan.exec_load rfl (by kernel_rfl) (hblk.later hb').whole Try.underlying23 rfl HLL.out) ?_
    refine plan.Rest.first 49 _ (.int .i64 b) rfl (by kernel_rfl) (by kernel_rfl) (by kernel_rfl) (by kernel_rfl) (fun w' hb' => (by kernel_rfl)) ?_
    refine plan.Rest.call 47 _ 12 #[.agg #[.int .i64 g.sector, .int .i64 g.slot, .int .i64 g.data, .int .i64 g.quota, .int .i64 g.tries, .int .i64 g.life], .int .i64 b] rfl (by kernel_rfl) (by kernel_rfl) (by kernel_rfl) ((page_any g b W9).mono ?_)
    rintro e W10 ⟨rfl, hn⟩
    have hb := hb.trans (hn.mono hb.size)
    have hblk := hblk.later hn
    refine ⟨_, rfl, hn, ?_⟩
    refine plan.Rest.call 50 _ 10 #[.agg #[.int .i64 g.sector, .int .i64 g.slot, .int .i64 g.data, .int .i64 g.quota, .int .i64 g.tries, .int .i64 g.life], .int .i64 3, .int .i64 0, .int .i64 b] rfl (by kernel_rfl) (by kernel_rfl) (by kernel_rfl) ((find_page_at g b W10 W10 (Below.refl _ _)).mono ?_)
    rintro e W11 ⟨rfl, hn⟩
    have hb := hb.trans (hn.mono hb.size)
    have hblk := hblk.later hn
    refine ⟨_, rfl, hn, ?_⟩
    refine plan.Rest.first 51 _ (.bool true) rfl (by kernel_rfl) (by kernel_rfl) (by kernel_rfl) (by kernel_rfl) (fun w' hb' => (plan.exec_eql (vx := .int .i64 (g.page b)) (vy := .int .i64 (g.page b)) rfl (by kernel_rfl) (by kernel_rfl) (plan.eqg _ _ _ _ _ _ _ _) (eqs _ _))) ?_
    refine plan.Rest.first 52 _ (.bool true) rfl (by kernel_rfl) (by kernel_rfl) (by kernel_rfl) (by kernel_rfl) (fun w' hb' => (by kernel_rfl)) ?_
    refine plan.Rest.first 53 _ (.bool true) rfl (by kernel_rfl) (by kernel_rfl) (by kernel_rfl) (by kernel_rfl) (fun w' hb' => (by kernel_rfl)) ?_
    refine plan.Rest.call 54 _ 13 #[] rfl (by kernel_rfl) (by kernel_rfl) (by kernel_rfl) ((awake_any W11).mono ?_)
    rintro e W12 ⟨rfl, hn⟩
    have hb := hb.trans (hn.mono hb.size)
    have hblk := hblk.later hn
    refine ⟨_, rfl, hn, ?_⟩
    refine plan.Rest.first 55 _ (.bool true) rfl (by kernel_rfl) (by kernel_rfl) (by kernel_rfl) (by kernel_rfl) (fun w' hb' => (by kernel_rfl)) ?_
    refine plan.Rest.value 56 _ (.bool true) rfl (by kernel_rfl) (by kernel_rfl) (by kernel_rfl) ?_
    refine plan.Rest.done (by kernel_rfl) ?_
    go_wp2
    exact bodyPost_ret (v := .bool true) (by kernel_rfl) (by kernel_rfl) ⟨rfl, HB2.out _ hb⟩
  · refine plan.Rest.first 0 _ (.agg #[.int .i64 g.sector, .int .i64 g.slot, .int .i64 g.data, .int .i64 g.quota, .int .i64 g.tries, .int .i64 g.life]) rfl (by kernel_rfl) (by kernel_rfl) (by kernel_rfl) (by kernel_rfl) (fun w' hb' => plan.exec_load rfl (by kernel_rfl) (hblk.later hb').whole Try.underlying23 rfl HLL.out) ?_
    refine plan.Rest.first 3 _ (.agg #[.int .i64 g.sector, .int .i64 g.slot, .int .i64 g.data, .int .i64 g.quota, .int .i64 g.tries, .int .i64 g.life]) rfl (by kernel_rfl) (by kernel_rfl) (by kernel_rfl) (by kernel_rfl) (fun w' hb' => plan.exec_load rfl (by kernel_rfl) (hblk.later hb').whole Try.underlying23 rfl HLL.out) ?_
    refine plan.Rest.call 1 _ 5 #[.agg #[.int .i64 g.sector, .int .i64 g.slot, .int .i64 g.data, .int .i64 g.quota, .int .i64 g.tries, .int .i64 g.life]] rfl (by kernel_rfl) (by kernel_rfl) (by kernel_rfl) ((check_no g h w0.drew).mono ?_)
    rintro e W1 ⟨rfl, hn⟩
    have hb := hb.trans (hn.mono hb.size)
    have hblk := hblk.later hn
    refine ⟨_, rfl, hn, ?_⟩
    refine plan.Rest.first 2 _ (.bool false) rfl (by kernel_rfl) (by kernel_rfl) (by kernel_rfl) (by kernel_rfl) (fun w' hb' => (by kernel_rfl)) ?_
    refine plan.Rest.call 4 _ 6 #[.agg #[.int .i64 g.sector, .int .i64 g.slot, .int .i64 g.data, .int .i64 g.quota, .int .i64 g.tries, .int .i64 g.life]] rfl (by kernel_rfl) (by kernel_rfl) (by kernel_rfl) ((right_no g h W1).mono ?_)
    rintro e W2 ⟨rfl, hn⟩
    have hb := hb.trans (hn.mono hb.size)
    have hblk := hblk.later hn
    refine ⟨_, rfl, hn, ?_⟩
    refine plan.Rest.first 5 _ (.bool true) rfl (by kernel_rfl) (by kernel_rfl) (by kernel_rfl) (by kernel_rfl) (fun w' hb' => (by kernel_rfl)) ?_
    refine plan.Rest.first 6 _ (.bool true) rfl (by kernel_rfl) (by kernel_rfl) (by kernel_rfl) (by kernel_rfl) (fun w' hb' => (by kernel_rfl)) ?_
    refine plan.Rest.first 7 _ (.agg #[.int .i64 g.sector, .int .i64 g.slot, .int .i64 g.data, .int .i64 g.quota, .int .i64 g.tries, .int .i64 g.life]) rfl (by kernel_rfl) (by kernel_rfl) (by kernel_rfl) (by kernel_rfl) (fun w' hb' => plan.exec_load rfl (by kernel_rfl) (hblk.later hb').whole Try.underlying23 rfl HLL.out) ?_
    refine plan.Rest.call 8 _ 5 #[.agg #[.int .i64 g.sector, .int .i64 g.slot, .int .i64 g.data, .int .i64 g.quota, .int .i64 g.tries, .int .i64 g.life]] rfl (by kernel_rfl) (by kernel_rfl) (by kernel_rfl) ((check_no g h W2).mono ?_)
    rintro e W3 ⟨rfl, hn⟩
    have hb := hb.trans (hn.mono hb.size)
    have hblk := hblk.later hn
    refine ⟨_, rfl, hn, ?_⟩
    refine plan.Rest.first 9 _ (.bool false) rfl (by kernel_rfl) (by kernel_rfl) (by kernel_rfl) (by kernel_rfl) (fun w' hb' => (by kernel_rfl)) ?_
    refine plan.Rest.first 10 _ (.bool false) rfl (by kernel_rfl) (by kernel_rfl) (by kernel_rfl) (by kernel_rfl) (fun w' hb' => (by kernel_rfl)) ?_
    refine plan.Rest.first 11 _ (.agg #[.int .i64 g.sector, .int .i64 g.slot, .int .i64 g.data, .int .i64 g.quota, .int .i64 g.tries, .int .i64 g.life]) rfl (by kernel_rfl) (by kernel_rfl) (by kernel_rfl) (by kernel_rfl) (fun w' hb' => plan.exec_load rfl (by kernel_rfl) (hblk.later hb').whole Try.underlying23 rfl HLL.out) ?_
    refine plan.Rest.call 12 _ 5 #[.agg #[.int .i64 g.sector, .int .i64 g.slot, .int .i64 g.data, .int .i64 g.quota, .int .i64 g.tries, .int .i64 g.life]] rfl (by kernel_rfl) (by kernel_rfl) (by kernel_rfl) ((check_no g h W3).mono ?_)
    rintro e W4 ⟨rfl, hn⟩
    have hb := hb.trans (hn.mono hb.size)
    have hblk := hblk.later hn
    refine ⟨_, rfl, hn, ?_⟩
    refine plan.Rest.first 13 _ (.bool true) rfl (by kernel_rfl) (by kernel_rfl) (by kernel_rfl) (by kernel_rfl) (fun w' hb' => (by kernel_rfl)) ?_
    refine plan.Rest.first 14 _ (.bool true) rfl (by kernel_rfl) (by kernel_rfl) (by kernel_rfl) (by kernel_rfl) (fun w' hb' => (by kernel_rfl)) ?_
    refine plan.Rest.first 15 _ (.bool true) rfl (by kernel_rfl) (by kernel_rfl) (by kernel_rfl) (by kernel_rfl) (fun w' hb' => (by kernel_rfl)) ?_
    refine plan.Rest.first 16 _ (.bool true) rfl (by kernel_rfl) (by kernel_rfl) (by kernel_rfl) (by kernel_rfl) (fun w' hb' => (by kernel_rfl)) ?_
    refine plan.Rest.first 17 _ (.agg #[.int .i64 g.sector, .int .i64 g.slot, .int .i64 g.data, .int .i64 g.quota, .int .i64 g.tries, .int .i64 g.life]) rfl (by kernel_rfl) (by kernel_rfl) (by kernel_rfl) (by kernel_rfl) (fun w' hb' => plan.exec_load rfl (by kernel_rfl) (hblk.later hb').whole Try.underlying23 rfl HLL.out) ?_
    refine plan.Rest.first 19 _ (.agg #[.int .i64 g.sector, .int .i64 g.slot, .int .i64 g.data, .int .i64 g.quota, .int .i64 g.tries, .int .i64 g.life]) rfl (by kernel_rfl) (by kernel_rfl) (by kernel_rfl) (by kernel_rfl) (fun w' hb' => plan.exec_load rfl (by kernel_rfl) (hblk.later hb').whole Try.underlying23 rfl HLL.out) ?_
    refine plan.Rest.call 18 _ 7 #[.agg #[.int .i64 g.sector, .int .i64 g.slot, .int .i64 g.data, .int .i64 g.quota, .int .i64 g.tries, .int .i64 g.life]] rfl (by kernel_rfl) (by kernel_rfl) (by kernel_rfl) ((sectors_any g W4).mono ?_)
    rintro e W5 ⟨rfl, hn⟩
    have hb := hb.trans (hn.mono hb.size)
    have hblk := hblk.later hn
    refine ⟨_, rfl, hn, ?_⟩
    refine plan.Rest.call 20 _ 8 #[.agg #[.int .i64 g.sector, .int .i64 g.slot, .int .i64 g.data, .int .i64 g.quota, .int .i64 g.tries, .int .i64 g.life]] rfl (by kernel_rfl) (by kernel_rfl) (by kernel_rfl) ((map_any g W5).mono ?_)
    rintro e W6 ⟨ra, rc, n, rfl, hz, _, hn⟩
    have hb := hb.trans (hn.mono hb.size)
    have hblk := hblk.later hn
    have heq := eqn g.sectors n hz
    refine ⟨_, rfl, hn, ?_⟩
    refine plan.Rest.first 21 _ (.int .i64 (n : Int)) rfl (by kernel_rfl) (by kernel_rfl) (by kernel_rfl) (by kernel_rfl) (fun w' hb' => (by kernel_rfl)) ?_
    refine plan.Rest.first 22 _ (.bool true) rfl (by kernel_rfl) (by kernel_rfl) (by kernel_rfl) (by kernel_rfl) (fun w' hb' => (plan.exec_eql (vx := .int .i64 g.sectors) (vy := .int .i64 (n : Int)) rfl (by kernel_rfl) (by kernel_rfl) (plan.eqg _ _ _ _ _ _ _ _) (heq _))) ?_
    refine plan.Rest.first 23 _ (.bool true) rfl (by kernel_rfl) (by kernel_rfl) (by kernel_rfl) (by kernel_rfl) (fun w' hb' => (by kernel_rfl)) ?_
    refine plan.Rest.first 24 _ (.bool true) rfl (by kernel_rfl) (by kernel_rfl) (by kernel_rfl) (by kernel_rfl) (fun w' hb' => (by kernel_rfl)) ?_
    refine plan.Rest.first 25 _ (.agg #[.int .i64 g.sector, .int .i64 g.slot, .int .i64 g.data, .int .i64 g.quota, .int .i64 g.tries, .int .i64 g.life]) rfl (by kernel_rfl) (by kernel_rfl) (by kernel_rfl) (by kernel_rfl) (fun w' hb' => plan.exec_load rfl (by kernel_rfl) (hblk.later hb').whole Try.underlying23 rfl HLL.out) ?_
    refine plan.Rest.first 26 _ (.int .i64 a) rfl (by kernel_rfl) (by kernel_rfl) (by kernel_rfl) (by kernel_rfl) (fun w' hb' => (by kernel_rfl)) ?_
    refine plan.Rest.first 28 _ (.agg #[.int .i64 g.sector, .int .i64 g.slot, .int .i64 g.data, .int .i64 g.quota, .int .i64 g.tries, .int .i64 g.life]) rfl (by kernel_rfl) (by kernel_rfl) (by kernel_rfl) (by kernel_rfl) (fun w' hb' => plan.exec_load rfl (by kernel_rfl) (hblk.later hb').whole Try.underlying23 rfl HLL.out) ?_
    refine plan.Rest.first 29 _ (.int .i64 a) rfl (by kernel_rfl) (by kernel_rfl) (by kernel_rfl) (by kernel_rfl) (fun w' hb' => (by kernel_rfl)) ?_
    refine plan.Rest.call 27 _ 9 #[.agg #[.int .i64 g.sector, .int .i64 g.slot, .int .i64 g.data, .int .i64 g.quota, .int .i64 g.tries, .int .i64 g.life], .int .i64 a] rfl (by kernel_rfl) (by kernel_rfl) (by kernel_rfl) ((ledger_any g a W6).mono ?_)
    rintro e W7 ⟨rfl, hn⟩
    have hb := hb.trans (hn.mono hb.size)
    have hblk := hblk.later hn
    refine ⟨_, rfl, hn, ?_⟩
    refine plan.Rest.call 30 _ 10 #[.agg #[.int .i64 g.sector, .int .i64 g.slot, .int .i64 g.data, .int .i64 g.quota, .int .i64 g.tries, .int .i64 g.life], .int .i64 1, .int .i64 a, .int .i64 0] rfl (by kernel_rfl) (by kernel_rfl) (by kernel_rfl) ((find_ledger_at g a W7 W7 (Below.refl _ _)).mono ?_)
    rintro e W8 ⟨rfl, hn⟩
    have hb := hb.trans (hn.mono hb.size)
    have hblk := hblk.later hn
    refine ⟨_, rfl, hn, ?_⟩
    refine plan.Rest.first 31 _ (.bool true) rfl (by kernel_rfl) (by kernel_rfl) (by kernel_rfl) (by kernel_rfl) (fun w' hb' => (plan.exec_eql (vx := .int .i64 (g.ledger a)) (vy := .int .i64 (g.ledger a)) rfl (by kernel_rfl) (by kernel_rfl) (plan.eqg _ _ _ _ _ _ _ _) (eqs _ _))) ?_
    refine plan.Rest.first 32 _ (.bool true) rfl (by kernel_rfl) (by kernel_rfl) (by kernel_rfl) (by kernel_rfl) (fun w' hb' => (by kernel_rfl)) ?_
    refine plan.Rest.first 33 _ (.bool true) rfl (by kernel_rfl) (by kernel_rfl) (by kernel_rfl) (by kernel_rfl) (fun w' hb' => (by kernel_rfl)) ?_
    refine plan.Rest.first 34 _ (.agg #[.int .i64 g.sector, .int .i64 g.slot, .int .i64 g.data, .int .i64 g.quota, .int .i64 g.tries, .int .i64 g.life]) rfl (by kernel_rfl) (by kernel_rfl) (by kernel_rfl) (by kernel_rfl) (fun w' hb' => plan.exec_load rfl (by kernel_rfl) (hblk.later hb').whole Try.underlying23 rfl HLL.out) ?_
    refine plan.Rest.first 35 _ (.int .i64 a) rfl (by kernel_rfl) (by kernel_rfl) (by kernel_rfl) (by kernel_rfl) (fun w' hb' => (by kernel_rfl)) ?_
    refine plan.Rest.first 36 _ (.int .i64 b) rfl (by kernel_rfl) (by kernel_rfl) (by kernel_rfl) (by kernel_rfl) (fun w' hb' => (by kernel_rfl)) ?_
    refine plan.Rest.first 38 _ (.agg #[.int .i64 g.sector, .int .i64 g.slot, .int .i64 g.data, .int .i64 g.quota, .int .i64 g.tries, .int .i64 g.life]) rfl (by kernel_rfl) (by kernel_rfl) (by kernel_rfl) (by kernel_rfl) (fun w' hb' => plan.exec_load rfl (by kernel_rfl) (hblk.later hb').whole Try.underlying23 rfl HLL.out) ?_
    refine plan.Rest.first 39 _ (.int .i64 a) rfl (by kernel_rfl) (by kernel_rfl) (by kernel_rfl) (by kernel_rfl) (fun w' hb' => (by kernel_rfl)) ?_
    refine plan.Rest.first 40 _ (.int .i64 b) rfl (by kernel_rfl) (by kernel_rfl) (by kernel_rfl) (by kernel_rfl) (fun w' hb' => (by kernel_rfl)) ?_
    refine plan.Rest.call 37 _ 11 #[.agg #[.int .i64 g.sector, .int .i64 g.slot, .int .i64 g.data, .int .i64 g.quota, .int .i64 g.tries, .int .i64 g.life], .int .i64 a, .int .i64 b] rfl (by kernel_rfl) (by kernel_rfl) (by kernel_rfl) ((chunk_any g a b W8).mono ?_)
    rintro e W9 ⟨rfl, hn⟩
    have hb := hb.trans (hn.mono hb.size)
    have hblk := hblk.later hn
    refine ⟨_, rfl, hn, ?_⟩
    refine plan.Rest.call 41 _ 10 #[.agg #[.int .i64 g.sector, .int .i64 g.slot, .int .i64 g.data, .int .i64 g.quota, .int .i64 g.tries, .int .i64 g.life], .int .i64 2, .int .i64 a, .int .i64 b] rfl (by kernel_rfl) (by kernel_rfl) (by kernel_rfl) ((find_chunk_at g a b W9 W9 (Below.refl _ _)).mono ?_)
    rintro e W10 ⟨rfl, hn⟩
    have hb := hb.trans (hn.mono hb.size)
    have hblk := hblk.later hn
    refine ⟨_, rfl, hn, ?_⟩
    refine plan.Rest.first 42 _ (.bool true) rfl (by kernel_rfl) (by kernel_rfl) (by kernel_rfl) (by kernel_rfl) (fun w' hb' => (plan.exec_eql (vx := .int .i64 (g.chunk a b)) (vy := .int .i64 (g.chunk a b)) rfl (by kernel_rfl) (by kernel_rfl) (plan.eqg _ _ _ _ _ _ _ _) (eqs _ _))) ?_
    refine plan.Rest.first 43 _ (.bool true) rfl (by kernel_rfl) (by kernel_rfl) (by kernel_rfl) (by kernel_rfl) (fun w' hb' => (by kernel_rfl)) ?_
    refine plan.Rest.first 44 _ (.bool true) rfl (by kernel_rfl) (by kernel_rfl) (by kernel_rfl) (by kernel_rfl) (fun w' hb' => (by kernel_rfl)) ?_
    refine plan.Rest.first 45 _ (.agg #[.int .i64 g.sector, .int .i64 g.slot, .int .i64 g.data, .int .i64 g.quota, .int .i64 g.tries, .int .i64 g.life]) rfl (by kernel_rfl) (by kernel_rfl) (by kernel_rfl) (by kernel_rfl) (fun w' hb' => plan.exec_load rfl (by kernel_rfl) (hblk.later hb').whole Try.underlying23 rfl HLL.out) ?_
    refine plan.Rest.first 46 _ (.int .i64 b) rfl (by kernel_rfl) (by kernel_rfl) (by kernel_rfl) (by kernel_rfl) (fun w' hb' => (by kernel_rfl)) ?_
    refine plan.Rest.first 48 _ (.agg #[.int .i64 g.sector, .int .i64 g.slot, .int .i64 g.data, .int .i64 g.quota, .int .i64 g.tries, .int .i64 g.life]) rfl (by kernel_rfl) (by kernel_rfl) (by kernel_rfl) (by kernel_rfl) (fun w' hb' => plan.exec_load rfl (by kernel_rfl) (hblk.later hb').whole Try.underlying23 rfl HLL.out) ?_
    refine plan.Rest.first 49 _ (.int .i64 b) rfl (by kernel_rfl) (by kernel_rfl) (by kernel_rfl) (by kernel_rfl) (fun w' hb' => (by kernel_rfl)) ?_
    refine plan.Rest.call 47 _ 12 #[.agg #[.int .i64 g.sector, .int .i64 g.slot, .int .i64 g.data, .int .i64 g.quota, .int .i64 g.tries, .int .i64 g.life], .int .i64 b] rfl (by kernel_rfl) (by kernel_rfl) (by kernel_rfl) ((page_any g b W10).mono ?_)
    rintro e W11 ⟨rfl, hn⟩
    have hb := hb.trans (hn.mono hb.size)
    have hblk := hblk.later hn
    refine ⟨_, rfl, hn, ?_⟩
    refine plan.Rest.call 50 _ 10 #[.agg #[.int .i64 g.sector, .int .i64 g.slot, .int .i64 g.data, .int .i64 g.quota, .int .i64 g.tries, .int .i64 g.life], .int .i64 3, .int .i64 0, .int .i64 b] rfl (by kernel_rfl) (by kernel_rfl) (by kernel_rfl) ((find_page_at g b W11 W11 (Below.refl _ _)).mono ?_)
    rintro e W12 ⟨rfl, hn⟩
    have hb := hb.trans (hn.mono hb.size)
    have hblk := hblk.later hn
    refine ⟨_, rfl, hn, ?_⟩
    refine plan.Rest.first 51 _ (.bool true) rfl (by kernel_rfl) (by kernel_rfl) (by kernel_rfl) (by kernel_rfl) (fun w' hb' => (plan.exec_eql (vx := .int .i64 (g.page b)) (vy := .int .i64 (g.page b)) rfl (by kernel_rfl) (by kernel_rfl) (plan.eqg _ _ _ _ _ _ _ _) (eqs _ _))) ?_
    refine plan.Rest.first 52 _ (.bool true) rfl (by kernel_rfl) (by kernel_rfl) (by kernel_rfl) (by kernel_rfl) (fun w' hb' => (by kernel_rfl)) ?_
    refine plan.Rest.first 53 _ (.bool true) rfl (by kernel_rfl) (by kernel_rfl) (by kernel_rfl) (by kernel_rfl) (fun w' hb' => (by kernel_rfl)) ?_
    refine plan.Rest.call 54 _ 13 #[] rfl (by kernel_rfl) (by kernel_rfl) (by kernel_rfl) ((awake_any W12).mono ?_)
    rintro e W13 ⟨rfl, hn⟩
    have hb := hb.trans (hn.mono hb.size)
    have hblk := hblk.later hn
    refine ⟨_, rfl, hn, ?_⟩
    refine plan.Rest.first 55 _ (.bool true) rfl (by kernel_rfl) (by kernel_rfl) (by kernel_rfl) (by kernel_rfl) (fun w' hb' => (by kernel_rfl)) ?_
    refine plan.Rest.value 56 _ (.bool true) rfl (by kernel_rfl) (by kernel_rfl) (by kernel_rfl) ?_
    refine plan.Rest.done (by kernel_rfl) ?_
    go_wp2
    exact bodyPost_ret (v := .bool true) (by kernel_rfl) (by kernel_rfl) ⟨rfl, HB2.out _ hb⟩
theorem walk (g : Geo) (a b : Int) (w : World) (hg : g.Fits) (a0 : -9223372036854775808 ≤ a) (a1 : a ≤ 9223372036854775807) (b0 : -9223372036854775808 ≤ b) (b1 : b ≤ 9223372036854775807) : Calls Try.prog 3 #[.agg #[.int .i64 g.sector, .int .i64 g.slot, .int .i64 g.data, .int .i64 g.quota, .int .i64 g.tries, .int .i64 g.life], .int .i64 a, .int .i64 b] w (Yes w) := walk0 g a b w
end Go.Proofs.Ytkkogoiboanepaa.geomPlaces
