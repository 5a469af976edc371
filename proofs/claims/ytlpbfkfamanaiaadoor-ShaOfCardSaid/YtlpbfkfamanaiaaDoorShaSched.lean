/- Contract of schedule of layer 3, for every block of 64 bytes. -/
import Derived.Test.YtlpbfkfamanaiaaDoorShaBits
import Derived.Test.YtlpbfkfamanaiaaDoorOpen
import Derived.Test.YtlpbfkfamanaiaaDoorArr
import Derived.Test.YtlpbfkfamanaiaaDoorPerm
namespace Go.Proofs.YtlpbfkfamanaiaaDoor.sha
open Go.RowKit Go.Proofs.YtlpbfkfamanaiaaDoor.word
set_option linter.unusedVariables false

def u32s (xs : List Nat) : List Value := xs.map fun x : Nat => Value.int .u32 (x : Int)
theorem info64 : (Tryd.prog.info? 52).map (fun i => (i.zero, i.size)) = some (some (.agg (u32s (List.replicate 64 0)).toArray), 64) := by kernel_rfl
theorem info24 : (Tryd.prog.info? 24).map (·.size) = some 1 := by kernel_rfl
set_option maxHeartbeats 1600000 in
theorem schedule_any (a : Option Addr) (cap : Nat) (xs : List Nat) (w : World) (hr : Reads .u8 w a 64 xs) (hx : ∀ x ∈ xs, x < 256) :
    Calls Tryd.prog 25 #[.slice a 64 cap] w fun e w' => e = .returned (.agg (u32s (sched xs 48)).toArray) ∧ Below w.heap.size w w' := by
  obtain ⟨hz, hsz⟩ := zero_of_info info64
  have HZ : ∃ Z, Hid (u32s (List.replicate 64 0) = Z) := ⟨_, rfl⟩
  obtain ⟨Z, hZ⟩ := HZ
  rw [hZ.out] at hz
  go_enter Tryd.func25, Tryd.ntmps25
  go_wp2
  have hb0 : Below w.heap.size w ((w.alloc (.cells Z.toArray 52)).alloc (.cells Z.toArray 52)) := ((Below.refl _ _).alloc (Nat.le_refl _) _).alloc (by simp) _
  have hb1 : Block ((w.alloc (.cells Z.toArray 52)).alloc (.cells Z.toArray 52)) w.heap.size 52 Z := (Block.new _ _ _).alloc _
  have hb2 : Block ((w.alloc (.cells Z.toArray 52)).alloc (.cells Z.toArray 52)) (w.heap.size + 1) 52 Z := by
    have := Block.new (w.alloc (.cells Z.toArray 52)) 52 Z
    simpa using this
  generalize (w.alloc (.cells Z.toArray 52)).alloc (.cells Z.toArray 52) = w2 at *
  have hsl : ∀ w', (Instr.sliceAt 52 (.pointer (some ⟨w.heap.size + 1, 0, none⟩)) none none none).run Tryd.prog w' = .ok (.slice (some ⟨w.heap.size + 1, 0, none⟩) 64 64) w' := fun _ => by kernel_rfl
  refine perm.region [0, 1] [2, 3, 4] (by kernel_rfl) (by kernel_rfl) ?_
  simp only [perm.pickOps, perm.nth, List.cons_append, List.nil_append]
  repeat (go_big_quiet_step (fail))
  refine wpQuiet_nil ?_
  have hP : ∀ w', Below w.heap.size w w' → Calls Tryd.prog 32 #[.slice a 64 cap] w' fun e w'' => ∃ g c, e = .returned (.slice (some ⟨g, 0, none⟩) 16 c) ∧ w'.heap.size ≤ g ∧ w''.rangeAt g 0 (u32s (packed xs 16)) ∧ Below w'.heap.size w' w'' := fun w' hb =>
    (pack_n a 64 cap 16 xs w' (hr.below hb) hx (by omega) (by omega) (by omega)).mono fun e w'' ⟨v, he, ho, hb'⟩ => by
      obtain ⟨g, c, rfl, h1, _, _⟩ := ownsRow_form ho (by decide)
      exact ⟨g, c, he, h1, fun j v hj => by
        have hl : j < 16 := by
          have := (List.getElem?_eq_some_iff.1 hj).1
          simpa [u32s, packed_length] using this
        rw [Nat.zero_add, ho.cellAt j (by omega)]; exact hj, hb'⟩
  go_wp2_with (go_at_call 32; refine (hP _ (hb0.drew)).mono ?_)
  rintro e w3 ⟨g, c, rfl, hg, hcs, hb3⟩
  have hB3 : Below w.heap.size w w3 := (hb0.drew).trans (hb3.mono hb0.size)
  have k1 : Block w3 w.heap.size 52 Z := (show Block w2.drew _ _ _ from hb1).later hb3
  have k2 : Block w3 (w.heap.size + 1) 52 Z := (show Block w2.drew _ _ _ from hb2).later hb3
  have hZl : Z.length = 64 := by rw [← hZ.out]; simp [u32s]
  have hcl : (u32s (packed xs 16)).length = 16 := by simp [u32s, packed_length]
  have hth := k2.there 0 16 (by omega)
  rw [← hcl] at hth
  have HTH := hid hth
  have HCS := hid (show ∀ j v, (u32s (packed xs 16))[j]? = some v → w3.cell? ((⟨g, 0, none⟩ : Addr).add j) = some v from fun j v hj => by rw [Addr.add_lit]; exact hcs j v hj)
  have HN := hid (show (u32s (packed xs 16)).length = Nat.min 16 64 by rw [hcl]; decide)
  have H1 := hid (show ∀ v ∈ u32s (packed xs 16), v.oneCell' = true by intro v hv; obtain ⟨x, _, rfl⟩ := List.mem_map.1 hv; rfl)
  have k3 : Block (w3.setCells (w.heap.size + 1) 0 (u32s (packed xs 16))) (w.heap.size + 1) 52 (u32s (sched xs 0 ++ List.replicate 48 0)) := by
    have := k2.setCells (vs := u32s (packed xs 16)) (o := 0)
    have e := put_mid [] (u32s (List.replicate 16 0)) (u32s (List.replicate 48 0)) (u32s (packed xs 16)) (by simp [u32s, packed_length])
    have e2 : Z = [] ++ u32s (List.replicate 16 0) ++ u32s (List.replicate 48 0) := by rw [← hZ.out]; rfl
    rw [← e2] at e
    rw [show (0 : Nat) = ([] : List Value).length from rfl, e] at this
    simpa [u32s, sched] using this
  have k4 := k1.aparts (w.heap.size + 1) 0 (u32s (packed xs 16)) (by omega)
  have hB4 : Below w.heap.size w (w3.setCells (w.heap.size + 1) 0 (u32s (packed xs 16))) := below_setCells hB3 (by omega) _ _
  have hpl : ((u32s (packed xs 16)).length : Int) = 16 := by rw [hcl]; rfl
  clear hcs hth hcl
  generalize u32s (packed xs 16) = P16 at *
  go_wp2_with (with_reducible refine wpList_copy_block rfl (.tmp 6) (.tmp 8) 37 37 rfl 24 Tryd.underlying37 info24 (w.heap.size + 1) 0 64 64 ⟨g, 0, none⟩ 16 c rfl rfl P16 HN.out HCS.out HTH.out H1.out ?_)
  refine NoPanic.normal ?_
  clear HTH HCS HN H1 hP hsl hz hb0 hb1 hb2 hb3 hB3 k1 k2 hg
  generalize w3.setCells (w.heap.size + 1) 0 P16 = w4 at *
  clear hpl
  go_wp2
  go_loopw [5] (fun t wr => ∃ k : Nat, k ≤ 48 ∧ t = .int .i64 ((k : Int) + 16) ∧ Block wr (w.heap.size + 1) 52 (u32s (sched xs k ++ List.replicate (48 - k) 0)) ∧ Block wr w.heap.size 52 Z ∧ Below w.heap.size w wr)
    (fun t _ => 64 - (intOf t).toNat)
  case atStart => exact ⟨0, by decide, rfl, k3, k4, hB4⟩
  case round =>
    obtain ⟨k, hk, rfl, ho, hz, hb⟩ := hrel
    by_cases hlt : k < 48
    · have cellv : ∀ j, j < 16 + k → wr.cell? ⟨w.heap.size + 1, j, none⟩ = some (.int .u32 (((sched xs k).getD j 0 : Nat) : Int)) := fun j hj => by
        rw [ho.cell]
        have hl := sched_length xs k
        simp only [u32s, List.map_append]
        rw [List.getElem?_append_left (by simp; omega), List.getElem?_map, List.getElem?_eq_getElem (by omega), List.getD_eq_getElem?_getD, List.getElem?_eq_getElem (by omega)]
        rfl
      have c1 := cellv k (by omega)
      have c2 := cellv (k + 1) (by omega)
      have c3 := cellv (k + 9) (by omega)
      have c4 := cellv (k + 14) (by omega)
      have c5 : wr.cell? ⟨w.heap.size + 1, k + 16, none⟩ = some (.int .u32 0) := by
        rw [ho.cell]
        have hl := sched_length xs k
        simp only [u32s, List.map_append]
        rw [List.getElem?_append_right (by simp; omega), List.getElem?_map, List.getElem?_replicate, if_pos (by simp; omega)]
        rfl
      have f5 := ho.frozen (k + 16)
      have hn : nextW (sched xs k) (16 + k) = ((sched xs k).getD k 0 + twoAnd ((sched xs k).getD (k + 1) 0) 7 18 3 + (sched xs k).getD (k + 9) 0 + twoAnd ((sched xs k).getD (k + 14) 0) 17 19 10) % 4294967296 := by
        unfold nextW
        rw [show 16 + k - 16 = k by omega, show 16 + k - 15 = k + 1 by omega, show 16 + k - 7 = k + 9 by omega, show 16 + k - 2 = k + 14 by omega]
      have HS := hid (sched_lt xs hx k)
      have x1 := get32 HS.out k
      have x2 := get32 HS.out (k + 1)
      have x3 := get32 HS.out (k + 9)
      have x4 := get32 HS.out (k + 14)
      have g1 : ∀ w', Calls Tryd.prog 33 #[.int .u32 ((sched xs k).getD (k + 1) 0 : Nat), .int .i64 7, .int .i64 18, .int .i64 3] w' (Quiet (.int .u32 (twoAnd ((sched xs k).getD (k + 1) 0) 7 18 3 : Nat)) w') := fun w' => shifted_any _ 7 18 3 x2 (by decide) (by decide) (by decide) w'
      have g2 : ∀ w', Calls Tryd.prog 33 #[.int .u32 ((sched xs k).getD (k + 14) 0 : Nat), .int .i64 17, .int .i64 19, .int .i64 10] w' (Quiet (.int .u32 (twoAnd ((sched xs k).getD (k + 14) 0) 17 19 10 : Nat)) w') := fun w' => shifted_any _ 17 19 10 x4 (by decide) (by decide) (by decide) w'
      have y2 := twoAnd_lt 7 18 3 x2
      have y4 := twoAnd_lt 17 19 10 x4
      have HNX := hid hn
      have HO := hid ho
      have HZ := hid hz
      have HB := hid hb
      clear cellv ho hz hn hx hb
      generalize twoAnd ((sched xs k).getD (k + 1) 0) 7 18 3 = v2 at *
      generalize twoAnd ((sched xs k).getD (k + 14) 0) 17 19 10 = v4 at *
      generalize (sched xs k).getD k 0 = v1 at *
      generalize (sched xs k).getD (k + 1) 0 = a1 at *
      generalize (sched xs k).getD (k + 9) 0 = v3 at *
      generalize (sched xs k).getD (k + 14) 0 = a4 at *
      have i0 : (k : Int) + 16 < 64 := by omega
      have i1 : (0 : Int) ≤ k := by omega
      go_wp2
      refine tail.region 23 (by kernel_rfl) (by kernel_rfl) ?_
      simp only [List.take_succ_cons, List.take_zero, List.drop_succ_cons, List.drop_zero]
      repeat (go_big_quiet_step (first
        | (go_at_call 33; with_reducible exact quietAt (g1 _))
        | (go_at_call 33; with_reducible exact quietAt (g2 _))))
      refine wpQuiet_nil ?_
      rintro _ ⟨nq, rfl⟩
      go_wp2
      have e : ((v1 : Int) + v2 + v3 + v4) % 4294967296 = ((nextW (sched xs k) (16 + k) : Nat) : Int) := by rw [HNX.out]; omega
      rw [e]
      have hst := (HO.out.drewN nq).setCell (k + 16) (.int .u32 (nextW (sched xs k) (16 + k) : Nat))
      have hset : (u32s (sched xs k ++ List.replicate (48 - k) 0)).set (k + 16) (.int .u32 (nextW (sched xs k) (16 + k) : Nat)) = u32s (sched xs (k + 1) ++ List.replicate (48 - (k + 1)) 0) := by
        have hl := sched_length xs k
        rw [show 48 - k = (48 - (k + 1)) + 1 by omega, List.replicate_succ]
        simp only [u32s, List.map_append, List.map_cons]
        rw [List.set_append_right _ _ (by simp; omega), List.length_map, show k + 16 - (sched xs k).length = 0 by omega]
        simp [sched, grow]
      rw [hset] at hst
      exact ⟨⟨k + 1, by omega, by go_num, hst, (HZ.out.drewN nq).apart _ _ _ (by omega), (below_drewN HB.out nq).setCell (by simp) _⟩, by simp [intOf]; omega⟩
    · obtain rfl : k = 48 := by omega
      have ho' : wr.rangeAt (w.heap.size + 1) 0 (u32s (sched xs 48)) := by have := ho.whole; simpa using this
      have hl48 : (u32s (sched xs 48)).length = 64 := by simp [u32s, sched_length]
      have hs48 : (u32s (sched xs 48)).toArray.size = 64 := by rw [List.size_toArray]; exact hl48
      have hth : wr.there w.heap.size 0 (u32s (sched xs 48)).toArray.size := by rw [hs48]; exact hz.there 0 64 (by omega)
      have hfin : Block (wr.setCells w.heap.size 0 (u32s (sched xs 48))) w.heap.size 52 (u32s (sched xs 48)) := by
        have := hz.setCells (vs := u32s (sched xs 48)) (o := 0)
        rwa [put_all _ _ (by omega)] at this
      have hB := below_setCells hb (Nat.le_refl _) 0 (u32s (sched xs 48))
      have H1 := hid (show (u32s (sched xs 48)).toArray.all (·.oneCell') = true from all_oneCell_toArray (by intro v hv; obtain ⟨x, _, rfl⟩ := List.mem_map.1 hv; rfl))
      have HL := hid (show (Tryd.prog.info? 52).map (·.size) = some (u32s (sched xs 48)).length by rw [hl48]; exact hsz)
      have HL2 := hid (show (Tryd.prog.info? 52).map (·.size) = some (u32s (sched xs 48)).toArray.size by rw [hs48]; exact hsz)
      have HTH := hid hth
      have HR := hid ho'
      clear hth ho' hl48 hs48
      generalize hP48 : u32s (sched xs 48) = P48 at *
      have HP := hid hP48
      clear hP48
      go_wp2_with (first
        | (with_reducible refine wpList_load_mid rfl 52 (.tmp 3) rfl (w.heap.size + 1) 0 rfl P48 _ HR.out Tryd.underlying52 rfl HL.out ?_)
        | (with_reducible refine wpList_store_mid rfl 52 (.tmp 2) (.tmp 38) rfl w.heap.size 0 P48.toArray rfl rfl HTH.out HL2.out H1.out ?_))
      exact bodyPost_ret (results_cell rfl rfl hfin.whole Tryd.underlying52 rfl HL.out) rfl ⟨by rw [HP.out], hB⟩
end Go.Proofs.YtlpbfkfamanaiaaDoor.sha
