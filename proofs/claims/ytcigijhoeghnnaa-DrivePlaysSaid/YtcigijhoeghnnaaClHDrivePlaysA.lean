/- Lemmas of the claim HDrivePlays. Each says its own conditions. -/
import Derived.Test.YtcigijhoeghnnaaCmD
import Derived.Test.YtcigijhoeghnnaaCmE
import Derived.Test.YtcigijhoeghnnaaCmC
import Derived.Test.YtcigijhoeghnnaaCmB
import Derived.BigQuiet
import Derived.Handy
import Derived.Test.YtcigijhoeghnnaaCmA
import Derived.Test.YtcigijhoeghnnaaCmF
/- Contract of the law file's do of layer 9: for every act. No condition but a flash with fewer than 2^60 writes. -/
namespace Go.Proofs.Ytcigijhoeghnnaa.drive
open Go.RowKit Go.Proofs.Ytcigijhoeghnnaa.flash Go.Proofs.Ytcigijhoeghnnaa.geom Go.Proofs.Ytcigijhoeghnnaa.word
set_option linter.unusedVariables false

theorem read_this {S : Nat → Prop} {d b : Nat} {g : Geo} {F : Fl} {w : World} (h : DriveAt S d b g F w) (ok : F.Ok) (ft : Fit F g) (s a n : Int) (ha : a ≤ 9223372036854775807) :
    Calls Try.prog 19 #[.pointer (some ⟨d, 0, none⟩), .int .i64 s, .int .i64 a, .int .i64 n] w fun e w' => ∃ x c, e = .returned (.tuple #[.slice x (read F g s a n).1.length c, .int .i64 (read F g s a n).2]) ∧
      Reads .u32 w' x (read F g s a n).1.length (read F g s a n).1 ∧ ((read F g s a n).1.length = 0 ∨ ∃ y, x = some y ∧ w.heap.size ≤ y.block) ∧ Below w.heap.size w w' := by
  unfold read
  by_cases hz : bad F g s a n = 0
  · rw [if_neg (fun h => h hz)]
    obtain ⟨N, rfl⟩ := Int.eq_ofNat_of_zero_le (bad_zero hz).1.2.2.2.1
    refine (read_good h ok ft s a N hz).mono ?_
    rintro e w' ⟨q, rfl, hq, hr, hb⟩
    rw [Int.toNat_natCast]
    simp only [span_length]
    exact ⟨_, _, rfl, hr, .inr ⟨_, rfl, hq⟩, hb⟩
  · rw [if_pos hz]
    refine (read_bad h ft.right s a n ha hz).mono ?_
    rintro e w' ⟨rfl, hb⟩
    exact ⟨_, _, rfl, Reads.nil, .inl rfl, hb⟩
/-- what the law file's do answers -/
def Done (S : Nat → Prop) (b : Nat) (r : (List Nat × Bool × Int) × Fl) (w : World) (e : Ending) (w' : World) : Prop :=
  ∃ x c, e = .returned (.tuple #[.slice x r.1.1.length c, .bool r.1.2.1, .int .i64 r.1.2.2]) ∧ Reads .u32 w' x r.1.1.length r.1.1 ∧ (r.1.1.length = 0 ∨ ∃ y, x = some y ∧ w.heap.size ≤ y.block) ∧ Turn S b r.2 w w'
theorem Done.nil {S : Nat → Prop} {b : Nat} {v : Bool} {z : Int} {G : Fl} {w w' : World} (k : Turn S b G w w') : Done S b (([], v, z), G) w (.returned (.tuple #[.slice none 0 0, .bool v, .int .i64 z])) w' :=
  ⟨_, _, rfl, Reads.nil, .inl rfl, k⟩
set_option maxHeartbeats 4000000 in
theorem do_this {S : Nat → Prop} {d b : Nat} {g : Geo} {F : Fl} {w : World} (h : DriveAt S d b g F w) (ok : F.Ok) (ft : Fit F g) (hc : F.count < 1152921504606846976) (k s a n : Int) (x : Option Addr) (len cap : Nat) (W : List Nat)
    (ha : a ≤ 9223372036854775807) (hn : n ≤ 9223372036854775807) (hr : Reads .u32 w x len W) (hW : ∀ y ∈ W, y < 4294967296) (hlc : len ≤ cap) (hcap : cap ≤ maxLen) (hlen : len ≤ 140737488355328) (hsep : len = 0 ∨ ∃ y, x = some y ∧ ¬ S y.block) :
    Calls Try.prog 13 #[.pointer (some ⟨b, 0, none⟩), .pointer (some ⟨d, 0, none⟩), .agg #[.int .i64 k, .int .i64 s, .int .i64 a, .int .i64 n, .slice x len cap]] w (Done S b (step F g k s a n W) w) := by
  have hb : Below w.heap.size w (w.alloc (.cells #[.int .i64 k, .int .i64 s, .int .i64 a, .int .i64 n, .slice x len cap] 43)) := (Below.refl _ _).alloc (Nat.le_refl _) _
  have h1 := h.later hb
  have cre := read_this h1 ok ft s a n ha
  have cwr := write_this h1 ok ft (by omega) s a ha x len cap W (hr.below hb) hW hsep
  have cbl := blank_this h1 ok ft s a ha
  have ccl := clean_this h1 ok ft (by omega) s
  have cfr := fresh_this h1 ok ft hc s x len cap W (hr.below hb) hW hsep
  have car := arm_did h1.fl ok n hn x len cap W (hr.below hb) hlc hlen hcap hsep
  have cpo := power_did h1.fl
  have HB := hid hb
  have HF := hid h.fl
  have HF1 := hid h1.fl
  clear h hr ok ft hsep h1 hb
  unfold step
  by_cases k0 : k = 0
  · subst k0
    rw [if_pos rfl]
    generalize read F g s a n = R at *
    go_enter Try.func13, Try.ntmps13
    go_wp2_with (go_at_call 19; (with_reducible refine cre.mono ?_); rintro e w1 ⟨x1, c1, rfl, hr1, hs1, hb1⟩)
    go_returns
    exact ⟨x1, c1, rfl, hr1, hs1.imp id fun ⟨y, hy, hl⟩ => ⟨y, hy, Nat.le_trans HB.out.size hl⟩, Turn.before HB.out (Turn.of HF1.out hb1)⟩
  rw [if_neg k0]
  by_cases k1 : k = 1 ∨ k = 2
  · rw [if_pos k1]
    generalize write F g s a W = R at *
    rcases k1 with rfl | rfl
    all_goals
      go_enter Try.func13, Try.ntmps13
      go_wp2_with (go_at_call 21; (with_reducible refine cwr.mono ?_); rintro e w1 ⟨rfl, hd⟩)
      go_returns
      exact Done.nil (Turn.before HB.out hd)
  rw [if_neg k1]
  have k1a : ¬ k = 1 := fun h => k1 (.inl h)
  have k1b : ¬ k = 2 := fun h => k1 (.inr h)
  clear k1
  by_cases k3 : k = 3
  · subst k3
    rw [if_pos rfl]
    generalize blankAt F g s a = R at *
    go_enter Try.func13, Try.ntmps13
    go_wp2_with (go_at_call 20; (with_reducible refine cbl.mono ?_); rintro e w1 ⟨rfl, hb1⟩)
    go_returns
    exact Done.nil (Turn.before HB.out (Turn.of HF1.out hb1))
  rw [if_neg k3]
  by_cases k4 : k = 4
  · subst k4
    rw [if_pos rfl]
    generalize clean F g s = R at *
    go_enter Try.func13, Try.ntmps13
    go_wp2_with (go_at_call 22; (with_reducible refine ccl.mono ?_); rintro e w1 ⟨rfl, hd⟩)
    go_returns
    exact Done.nil (Turn.before HB.out hd)
  rw [if_neg k4]
  by_cases k5 : k = 5
  · subst k5
    rw [if_pos rfl]
    generalize fresh F g s W = R at *
    go_enter Try.func13, Try.ntmps13
    go_wp2_with (go_at_call 23; (with_reducible refine cfr.mono ?_); rintro e w1 ⟨rfl, hd⟩)
    go_returns
    exact Done.nil (Turn.before HB.out hd)
  rw [if_neg k5]
  by_cases k6 : k = 6
  · subst k6
    rw [if_pos rfl]
    generalize F.arm n W = G at *
    go_enter Try.func13, Try.ntmps13
    go_wp2_with (go_at_call 31; (with_reducible refine car.mono ?_); rintro e w1 ⟨rfl, hd⟩)
    go_returns
    exact Done.nil (Turn.before HB.out hd)
  rw [if_neg k6]
  by_cases k7 : k = 7
  · subst k7
    rw [if_pos rfl]
    generalize F.power = G at *
    go_enter Try.func13, Try.ntmps13
    go_wp2_with (go_at_call 18; (with_reducible refine cpo.mono ?_); rintro e w1 ⟨rfl, hd⟩)
    go_returns
    exact Done.nil (Turn.before HB.out hd)
  rw [if_neg k7]
  clear cre cwr cbl ccl cfr car cpo
  go_enter Try.func13, Try.ntmps13
  go_wp2
  go_returns
  exact Done.nil (Turn.of HF.out HB.out)
end Go.Proofs.Ytcigijhoeghnnaa.drive
/- Contract of the reference's Read of layer 9. No condition. -/
namespace Go.Proofs.Ytcigijhoeghnnaa.drive
open Go.RowKit Go.Proofs.Ytcigijhoeghnnaa.flash Go.Proofs.Ytcigijhoeghnnaa.geom Go.Proofs.Ytcigijhoeghnnaa.word
set_option linter.unusedVariables false

theorem span_succ (F : Fl) (A k : Nat) : nums .u32 (span F A (k + 1)) = nums .u32 (span F A k) ++ [.int .u32 ((F.ws.getD (A + k) 0 : Nat) : Int)] := by
  unfold nums span
  rw [List.range_succ, List.map_append, List.map_append]; rfl
theorem refRead_bad {S : Nat → Prop} {d b : Nat} {g : Geo} {F : Fl} {w : World} (h : RDriveAt S d b g F w) (hr : g.Right) (s a n : Int) (ha : a ≤ 9223372036854775807) (hz : bad F g s a n ≠ 0) :
    Calls Try.prog 32 #[.pointer (some ⟨d, 0, none⟩), .int .i64 s, .int .i64 a, .int .i64 n] w fun e w' => e = .returned (.tuple #[.slice none 0 0, .int .i64 (bad F g s a n)]) ∧ Below w.heap.size w w' := by
  have cr := refBad_any h hr s a n ha
  have ho := bad_or F g s a n
  generalize bad F g s a n = z at *
  clear h hr
  rcases ho with rfl | rfl | rfl
  · exact absurd rfl hz
  all_goals
    clear hz
    go_enter Try.func32, Try.ntmps32
    go_wp2_with (go_at_call 50; (with_reducible refine cr.mono ?_); rintro e w1 ⟨rfl, hb1⟩)
    go_ret2
    exact ⟨rfl, hb1⟩
/-- what a later world still shows of the reference's words -/
def Words (d b : Nat) (g : Geo) (F : Fl) (w : World) (gW cW : Nat) : Prop :=
  ∀ w', Below w.heap.size w w' → w'.cell? ⟨d, 0, none⟩ = some (.pointer (some ⟨b, 0, none⟩)) ∧ w'.cell? ⟨d, 1, none⟩ = some (.int .i64 g.sector) ∧ w'.cell? ⟨b, 0, none⟩ = some (.slice (some ⟨gW, 0, none⟩) F.ws.length cW) ∧ ∀ i, i < F.ws.length → w'.cell? ⟨gW, i, none⟩ = some (.int .u32 ((F.ws.getD i 0 : Nat) : Int))
theorem RDriveAt.words {S : Nat → Prop} {d b : Nat} {g : Geo} {F : Fl} {w : World} (h : RDriveAt S d b g F w) : ∃ gW cW, Words d b g F w gW cW := by
  obtain ⟨cm, gW, cW, gV, cV, h1⟩ := h.fl
  refine ⟨gW, cW, fun w' hb => ⟨(h.later hb).cells.1, (h.later hb).cells.2.1, (h1.later hb).cell.1, fun i hi => (h1.later hb).ws.get hi⟩⟩
set_option maxHeartbeats 4000000 in
set_option maxRecDepth 20000 in
theorem refRead_good {S : Nat → Prop} {d b : Nat} {g : Geo} {F : Fl} {w : World} (h : RDriveAt S d b g F w) (ok : F.Ok) (ft : Fit F g) (s a : Int) (N : Nat) (hz : bad F g s a N = 0) :
    Calls Try.prog 32 #[.pointer (some ⟨d, 0, none⟩), .int .i64 s, .int .i64 a, .int .i64 (N : Int)] w fun e w' => ∃ x c, e = .returned (.tuple #[.slice x N c, .int .i64 0]) ∧ Reads .u32 w' x N (span F (addr g s a) N) ∧ Below w.heap.size w w' := by
  obtain ⟨hin, hd⟩ := bad_zero hz
  obtain ⟨hA, hlen, p0, p1, n1, a1⟩ := addr_in ok ft hin
  have cr := refBad_any h ft.right s a N (by omega)
  rw [hz] at cr
  rw [Int.toNat_natCast] at hlen
  obtain ⟨q1, q2, q3, q4, q5⟩ := hin
  obtain ⟨gW, cW, hW⟩ := h.words
  have HW := hid hW
  have hws := ok.ws_le
  obtain ⟨P, hP⟩ := Int.eq_ofNat_of_zero_le p0
  obtain ⟨a', rfl⟩ := Int.eq_ofNat_of_zero_le q3
  have hAP : addr g s a' = P + a' := by omega
  rw [hAP] at hlen ⊢
  obtain ⟨i0, hi, hz0, hz1, hz2⟩ := info_parts u32_info
  clear h ok ft hz hA hd hW q1 q2 q5 p0 p1 hAP
  go_enter Try.func32, Try.ntmps32
  go_wp2_with (first
    | (go_at_call 50; (with_reducible refine cr.mono ?_); rintro e w1 ⟨rfl, hb1⟩))
  have HB1 := hid hb1
  clear hb1 cr
  go_loopw [11, 12] (fun v i wr => ∃ k : Nat, k ≤ N ∧ i = .int .i64 (k : Int) ∧ Hid (wr.ownsRow w.heap.size 55 1 v k (nums .u32 (span F (P + a') k))) ∧ Hid (Below w.heap.size w wr)) (fun _ i _ => N - (intOf i).toNat)
  case atStart => exact ⟨0, Nat.zero_le _, rfl, World.ownsRow_nil _ _ _ _, HB1⟩
  case round =>
    obtain ⟨k, hk, rfl, ho, hb⟩ := hrel
    by_cases hlt : k < N
    · obtain ⟨va, vc, rfl, hvc⟩ := ownsRow_slice ho.out
      obtain ⟨d0, d1, d2, d3⟩ := HW.out wr hb.out
      have d4 := d3 (P + a' + k) (by omega)
      have i1 : (k : Int) < N := by omega
      have i2 : (P : Int) + a' + k < F.ws.length := by omega
      have HSU := hid (span_succ F (P + a') k)
      clear d3
      generalize F.ws.getD (P + a' + k) 0 = x1 at *
      generalize hwl : F.ws.length = wl at *
      clear hwl
      go_wp2
      refine tail.regionFrom 1 21 (by kernel_rfl) (by kernel_rfl) ?_
      simp only [List.take_succ_cons, List.take_zero, List.drop_succ_cons, List.drop_zero]
      repeat (go_big_quiet_step (fail))
      refine wpQuiet_nil ?_
      rintro _ ⟨nq, rfl⟩
      have hbA : Below wr.heap.size wr ((wr.drewN nq).alloc (.cells #[.int .u32 (x1 : Int)] 55)) := (below_drewN (Below.refl _ _) nq).alloc (Nat.le_refl _) _
      have HOW : Hid (((wr.drewN nq).alloc (.cells #[.int .u32 (x1 : Int)] 55)).ownsRow w.heap.size 55 1 (.slice va k vc) k (nums .u32 (span F (P + a') k))) := hid (ownsRow_same ho.out fun x hx => hbA.block x (World.ownsRow.lt ho.out x hx).2)
      have HBA : Hid (Below w.heap.size w ((wr.drewN nq).alloc (.cells #[.int .u32 (x1 : Int)] 55))) := hid (hb.out.trans (hbA.mono hb.out.size))
      clear hbA ho
      go_wp2_with (at_builtin; refine wpList_append_at_from rfl _ _ 39 rfl w.heap.size 55 i0 (.int .u32 0) 4 Try.underlying39 hi hz0 hz1 hz2 rfl (.slice va k vc) k (nums .u32 (span F (P + a') k)) rfl HOW.out (some ⟨wr.heap.size, 0, none⟩) 1 1 [.int .u32 (x1 : Int)] rfl rfl (.inr ⟨_, rfl, one_new (wr.drewN nq) 55 (.int .u32 (x1 : Int))⟩) (one_cell rfl) (by unfold maxLen; omega) (by omega) HBA.out.size ?_)
      intro v' w3 ho3 hg3 _
      rw [← HSU.out] at ho3
      have HO3 := hid ho3
      have HB3 : Hid (Below w.heap.size w w3) := hid (HBA.out.grown hg3 HBA.out.size (fun k hk => (World.ownsRow.lt HOW.out k hk).1))
      clear ho3 hg3 HOW HBA
      go_wp2
      refine NoPanic.normal ?_
      go_wp2
      exact ⟨⟨k + 1, by omega, by go_num, HO3, HB3⟩, by simp [intOf]; omega⟩
    · obtain rfl : k = N := by omega
      obtain ⟨va, vc, rfl, hvc⟩ := ownsRow_slice ho.out
      go_wp2
      go_ret2
      exact ⟨va, vc, rfl, Reads.own ho.out, hb.out⟩
end Go.Proofs.Ytcigijhoeghnnaa.drive
/- Contract of the reference's Write of layer 9. No condition but a flash with fewer than 2^61 writes. -/
namespace Go.Proofs.Ytcigijhoeghnnaa.drive
open Go.RowKit Go.Proofs.Ytcigijhoeghnnaa.flash Go.Proofs.Ytcigijhoeghnnaa.geom Go.Proofs.Ytcigijhoeghnnaa.word
set_option linter.unusedVariables false

theorem refProgram_did {S : Nat → Prop} {b : Nat} {F : Fl} {w : World} (h : RefAt S b F w) (ok : F.Ok) (hc : F.count < 4611686018427387904) (a : Int) (x : Nat) (hx : x < 4294967296) :
    Calls Try.prog 52 #[.pointer (some ⟨b, 0, none⟩), .int .i64 a, .int .u32 x] w (RDid S b (F.program a x).2 (.int .i64 (F.program a x).1) w) := by
  obtain ⟨cm, gW, cW, gV, cV, h⟩ := h
  exact refProgram_any h ok hc a x hx
theorem refWrite_bad {S : Nat → Prop} {d b : Nat} {g : Geo} {F : Fl} {w : World} (h : RDriveAt S d b g F w) (hr : g.Right) (s a : Int) (ha : a ≤ 9223372036854775807) (x : Option Addr) (n c : Nat) (hz : bad F g s a n ≠ 0) :
    Calls Try.prog 33 #[.pointer (some ⟨d, 0, none⟩), .int .i64 s, .int .i64 a, .slice x n c] w (RDid S b F (.int .i64 (bad F g s a n)) w) := by
  have cr := refBad_any h hr s a n ha
  have ho := bad_or F g s a n
  have HF := hid h.fl
  generalize bad F g s a n = z at *
  clear h hr
  rcases ho with rfl | rfl | rfl
  · exact absurd rfl hz
  all_goals
    clear hz
    go_enter Try.func33, Try.ntmps33
    go_wp2_with (go_at_call 50; (with_reducible refine cr.mono ?_); rintro e w1 ⟨rfl, hb1⟩)
    go_ret
    exact ⟨rfl, RTurn.of HF.out hb1⟩
set_option maxHeartbeats 8000000 in
set_option maxRecDepth 20000 in
theorem refWrite_good {S : Nat → Prop} {d b : Nat} {g : Geo} {F : Fl} {w : World} (h : RDriveAt S d b g F w) (ok : F.Ok) (ft : Fit F g) (hc : F.count < 2305843009213693952) (s a : Int) (x : Option Addr) (n c : Nat) (W : List Nat)
    (hr : Reads .u32 w x n W) (hW : ∀ y ∈ W, y < 4294967296) (hsep : n = 0 ∨ ∃ y, x = some y ∧ ¬ S y.block) (hz : bad F g s a n = 0) :
    Calls Try.prog 33 #[.pointer (some ⟨d, 0, none⟩), .int .i64 s, .int .i64 a, .slice x n c] w (RDid S b (if ¬ fits F (addr g s a) W then (11, F) else prog F (addr g s a) W).2 (.int .i64 (if ¬ fits F (addr g s a) W then (11, F) else prog F (addr g s a) W).1) w) := by
  obtain ⟨hin, hd⟩ := bad_zero hz
  obtain ⟨hA, hlen, p0, p1, n1, a1⟩ := addr_in ok ft hin
  have cr := refBad_any h ft.right s a n (by omega)
  rw [hz] at cr
  rw [Int.toNat_natCast] at hlen
  obtain ⟨q1, q2, q3, q4, q5⟩ := hin
  have hws := ok.ws_le
  have hWl := hr.1
  obtain ⟨P, hP⟩ := Int.eq_ofNat_of_zero_le p0
  obtain ⟨a', rfl⟩ := Int.eq_ofNat_of_zero_le q3
  have hAP : addr g s a' = P + a' := by omega
  rw [hAP] at hlen ⊢
  obtain ⟨R, hR⟩ : ∃ R, Hid ((if ¬ fits F (P + a') W then (11, F) else prog F (P + a') W) = R) := ⟨_, rfl⟩
  rw [hR.out]
  have H := hid h
  have HR := hid hr
  have HL := hid hlen
  have HW := hid hW
  have HOK := hid ok
  have HFT := hid ft
  have HSEP := hid hsep
  have HCT := hid hc
  have HWL := hid hWl
  have hk0 := fun w1 hb => H.out.words.choose_spec.choose_spec w1 hb
  generalize H.out.words.choose_spec.choose = cW0 at hk0
  generalize H.out.words.choose = gW0 at hk0
  have HK0 := hid hk0
  clear h ok ft hz hA hd q1 q2 q5 p0 p1 hAP hr hW hsep hc hWl hk0
  go_enter Try.func33, Try.ntmps33
  go_wp2_with (first
    | (go_at_call 50; (with_reducible refine cr.mono ?_); rintro e w1 ⟨rfl, hb1⟩; obtain ⟨e0, e1, e2, e3⟩ := HK0.out w1 hb1))
  have HB1 := hid hb1
  clear cr hb1 e0 e1 e2 e3
  go_loopw [11] (fun i wr => ∃ k : Nat, k ≤ n ∧ i = .int .i64 (k : Int) ∧ Hid (Below w.heap.size w wr) ∧ Hid (∀ i, i < k → clr (W.getD i 0) (F.ws.getD (P + a' + i) 0) = 0)) (fun i _ => n - (intOf i).toNat)
  case atStart => exact ⟨0, Nat.zero_le _, rfl, HB1, hid (fun i h => by omega)⟩
  case round =>
    obtain ⟨k, hk, rfl, HBM, hall⟩ := hrel
    by_cases hlt : k < n
    · obtain ⟨wb, wo, rfl, _, cW⟩ := (HR.out.below HBM.out).at hlt
      have c1 := cW k hlt
      obtain ⟨e0, e1, e2, e3⟩ := HK0.out _ HBM.out
      have e4 := e3 (P + a' + k) (by have := HL.out; omega)
      have hwi := fun w' => refClr_any (W.getD k 0) (F.ws.getD (P + a' + k) 0) (getD_lt HW.out (by decide) k) (getD_lt HOK.out.w (by decide) _) w'
      have i1 : (k : Int) < n := by omega
      have i2 : (P : Int) + a' + k < F.ws.length := by have := HL.out; omega
      clear cW e3
      generalize hwl : F.ws.length = wl at *
      clear hwl
      by_cases hz : clr (W.getD k 0) (F.ws.getD (P + a' + k) 0) = 0
      · have hnx : Hid (∀ i, i < k + 1 → clr (W.getD i 0) (F.ws.getD (P + a' + i) 0) = 0) := hid (fun i hi => by
          by_cases h : i < k
          · exact hall.out i h
          · rw [show i = k by omega]; exact hz)
        rw [hz] at hwi
        clear hz
        generalize W.getD k 0 = x1 at *
        generalize F.ws.getD (P + a' + k) 0 = x2 at *
        go_wp2
        go_quiet ((go_at_call 51; (with_reducible exact quietAt (hwi _))))
        go_wp2
        exact ⟨⟨k + 1, by omega, by go_num, hid (below_drewN HBM.out nq), hnx⟩, by simp [intOf]; omega⟩
      · have hno : Hid (¬ fits F (P + a') W) := hid (fun h => hz (h k (by rw [HWL.out]; exact hlt)))
        have hne : ((clr (W.getD k 0) (F.ws.getD (P + a' + k) 0) : Nat) : Int) ≠ 0 := by omega
        clear hz
        generalize clr (W.getD k 0) (F.ws.getD (P + a' + k) 0) = x3 at *
        generalize W.getD k 0 = x1 at *
        generalize F.ws.getD (P + a' + k) 0 = x2 at *
        go_wp2
        go_quiet ((go_at_call 51; (with_reducible exact quietAt (hwi _))))
        go_wp2
        go_ret
        have hfin : RDid S b R.2 (.int .i64 R.1) w (.returned (.int .i64 11)) (wr.drewN nq) := by
          rw [← hR.out, if_pos hno.out]
          exact ⟨rfl, RTurn.of H.out.fl (below_drewN HBM.out nq)⟩
        exact hfin
    · obtain rfl : n = k := by omega
      have hyes : Hid (fits F (P + a') W) := hid (fun i hi => hall.out i (by rw [HWL.out] at hi; exact hi))
      have hR2 : Hid (prog F (P + a') W = R) := hid (by rw [← hR.out, if_neg (fun h => h hyes.out)])
      clear hR hyes
      obtain ⟨w2, hw2⟩ : ∃ y, Hid (wr = y) := ⟨_, rfl⟩
      have hb2 := HBM.out
      have hw3 := hw2.out.symm
      clear hw2
      subst hw3
      have HB2 := hid hb2
      have HD1 : RDriveAt (fun y => S y ∧ y < w.heap.size) d b g F w2 := ⟨(H.out.later hb2).blk, (RefAt.clip H.out.fl).later hb2, fun hs => H.out.nd hs.1⟩
      have HDH := hid HD1
      have HTU : Hid (RTurn (fun y => S y ∧ y < w.heap.size) b F w2 w2) := hid (RTurn.of HD1.fl (Below.refl _ _))
      clear hall HBM hb2 HD1 HK0
      go_wp2
      go_loopw [12] (fun i wr => ∃ k : Nat, k ≤ n ∧ i = .int .i64 (k : Int) ∧ ∃ G, Hid (Half F (P + a') W k G) ∧ Hid (RTurn (fun y => S y ∧ y < w.heap.size) b G w2 wr)) (fun i _ => n - (intOf i).toNat)
      case atStart => exact ⟨0, Nat.zero_le _, rfl, F, hid (Half.zero HOK.out), HTU⟩
      case round =>
        obtain ⟨k, hk, rfl, G, hH, hT⟩ := hrel
        clear HTU
        by_cases hlt : k < n
        · obtain ⟨S', hDA, hS', hO⟩ := HDH.out.turn hT.out
          have rW : Reads .u32 wr x n W := reads_only (HR.out.below HB2.out) hO (HSEP.out.imp id fun ⟨y, hy, hn⟩ => ⟨y, hy, fun hs => hn hs.1⟩)
          obtain ⟨wb, wo, rfl, _, cW⟩ := rW.at hlt
          obtain ⟨gW, cW2, hWW⟩ := hDA.words
          have hGl : G.ws.length = F.ws.length := hH.out.st.like.ws HOK.out hH.out.st.ok
          have HWW := hid hWW
          obtain ⟨e0, e1, e2, e3⟩ := hWW wr (Below.refl _ _)
          have e4 := e3 (P + a' + k) (by have := HL.out; omega)
          rw [hH.out.rest k (Nat.le_refl _)] at e4
          rw [hGl] at e2
          have c1 := cW k hlt
          have i1 : (k : Int) < n := by omega
          have i2 : (P : Int) + a' + k < F.ws.length := by have := HL.out; omega
          have hkW : Hid (k < W.length) := hid (by rw [HWL.out]; exact hlt)
          have hx2 : W.getD k 0 < 4294967296 := getD_lt HW.out (by decide) k
          by_cases hxy : F.ws.getD (P + a' + k) 0 = W.getD k 0
          · have hH2 := hid (hH.out.skip hkW.out hxy)
            have HT2 : Hid (∀ m, RTurn (fun y => S y ∧ y < w.heap.size) b G w2 (wr.drewN m)) := hid (fun m => hT.out.later (below_drewN (Below.refl _ _) m))
            rw [hxy] at e4
            clear hH hxy cW rW hDA hS' hO hWW e3 hT hGl
            generalize W.getD k 0 = x1 at *
            generalize hwl : F.ws.length = wl at *
            clear hwl
            go_wp2
            go_quiet (fail)
            go_wp2
            exact ⟨⟨k + 1, by omega, by go_num, G, hH2, hid (HT2.out nq)⟩, by simp [intOf]; omega⟩
          · have cp : ∀ m, Calls Try.prog 52 #[.pointer (some ⟨b, 0, none⟩), .int .i64 ((P : Int) + (a' : Int) + (k : Int)), .int .u32 (W.getD k 0 : Nat)] (wr.drewN m) (RDid S' b (G.program ((P + a' + k : Nat) : Int) (W.getD k 0)).2 (.int .i64 (G.program ((P + a' + k : Nat) : Int) (W.getD k 0)).1) (wr.drewN m)) := fun m =>
              refProgram_did (hDA.fl.later (below_drewN (Below.refl _ _) m)) hH.out.st.ok (by have := hH.out.st.c2; have := HCT.out; omega) _ _ hx2
            have HJ : Hid (∀ m w' H, RTurn S' b H (wr.drewN m) w' → RTurn S b H w w' ∧ RTurn (fun y => S y ∧ y < w.heap.size) b H w2 w') := hid (fun m w' H ht => by
              have h1 := RTurn.join hS' hO (RTurn.before (below_drewN (Below.refl _ _) m) ht)
              exact ⟨RTurn.before HB2.out (h1.wide fun y hy => hy.1), h1⟩)
            have hne : ((F.ws.getD (P + a' + k) 0 : Nat) : Int) ≠ ((W.getD k 0 : Nat) : Int) := by omega
            by_cases hpz : (G.program ((P + a' + k : Nat) : Int) (W.getD k 0)).1 = 0
            · have hH2 := hid (hH.out.on HW.out hkW.out hxy hpz)
              rw [hpz] at cp
              clear hH hxy cW rW hDA hS' hO hWW e3 hT hGl hpz
              generalize (G.program ((P + a' + k : Nat) : Int) (W.getD k 0)).2 = G2 at *
              generalize W.getD k 0 = x1 at *
              generalize F.ws.getD (P + a' + k) 0 = x2 at *
              generalize hwl : F.ws.length = wl at *
              clear hwl
              go_wp2
              go_quiet (fail)
              go_wp2
              refine tail.region 11 (by kernel_rfl) (by kernel_rfl) ?_
              simp only [List.take_succ_cons, List.take_zero, List.drop_succ_cons, List.drop_zero]
              repeat (go_big_quiet_step (fail))
              refine wpQuiet_nil ?_
              rintro _ ⟨nq2, rfl⟩
              go_wp2_with (go_at_call 52; (with_reducible refine (cp _).mono ?_); rintro e w4 ⟨rfl, ht⟩)
              exact ⟨⟨k + 1, by omega, by go_num, G2, hH2, hid (HJ.out _ _ _ ht).2⟩, by simp [intOf]; omega⟩
            · have hH2 : Hid (R = G.program ((P + a' + k : Nat) : Int) (W.getD k 0)) := hid (by rw [← hR2.out]; exact hH.out.err hkW.out hxy hpz)
              clear hH hxy cW rW hDA hS' hO hWW e3 hT hGl hR2
              generalize (G.program ((P + a' + k : Nat) : Int) (W.getD k 0)) = R2 at *
              obtain ⟨z, G2⟩ := R2
              simp only at cp hpz
              generalize W.getD k 0 = x1 at *
              generalize F.ws.getD (P + a' + k) 0 = x2 at *
              generalize hwl : F.ws.length = wl at *
              clear hwl
              go_wp2
              go_quiet (fail)
              go_wp2
              refine tail.region 11 (by kernel_rfl) (by kernel_rfl) ?_
              simp only [List.take_succ_cons, List.take_zero, List.drop_succ_cons, List.drop_zero]
              repeat (go_big_quiet_step (fail))
              refine wpQuiet_nil ?_
              rintro _ ⟨nq2, rfl⟩
              go_wp2_with (go_at_call 52; (with_reducible refine (cp _).mono ?_); rintro e w4 ⟨rfl, ht⟩)
              go_ret
              have hfin : RDid S b R.2 (.int .i64 R.1) w (.returned (.int .i64 z)) w4 := by
                rw [hH2.out]
                exact ⟨rfl, (HJ.out _ _ _ ht).1⟩
              exact hfin
        · obtain rfl : n = k := by omega
          have hE : Hid (R = (0, G)) := hid (by have h1 := HWL.out; rw [← hR2.out]; have h2 := hH.out; rw [← h1] at h2; exact h2.done)
          have HF : Hid (RTurn S b G w wr) := hid (RTurn.before HB2.out (hT.out.wide fun y hy => hy.1))
          clear hH hR2
          go_wp2
          go_ret
          have hfin : RDid S b R.2 (.int .i64 R.1) w (.returned (.int .i64 0)) wr := by
            rw [hE.out]
            exact ⟨rfl, HF.out⟩
          exact hfin
theorem refWrite_this {S : Nat → Prop} {d b : Nat} {g : Geo} {F : Fl} {w : World} (h : RDriveAt S d b g F w) (ok : F.Ok) (ft : Fit F g) (hc : F.count < 2305843009213693952) (s a : Int) (ha : a ≤ 9223372036854775807) (x : Option Addr) (n c : Nat) (W : List Nat)
    (hr : Reads .u32 w x n W) (hW : ∀ y ∈ W, y < 4294967296) (hsep : n = 0 ∨ ∃ y, x = some y ∧ ¬ S y.block) :
    Calls Try.prog 33 #[.pointer (some ⟨d, 0, none⟩), .int .i64 s, .int .i64 a, .slice x n c] w (RDid S b (write F g s a W).2 (.int .i64 (write F g s a W).1) w) := by
  have hl := hr.1
  unfold write
  rw [hl]
  by_cases hz : bad F g s a n = 0
  · rw [if_neg (fun h => h hz)]
    exact refWrite_good h ok ft hc s a x n c W hr hW hsep hz
  · rw [if_pos hz]
    exact refWrite_bad h ft.right s a ha x n c hz
end Go.Proofs.Ytcigijhoeghnnaa.drive
/- Contracts of the reference's Blank, Clean and Fresh of layer 9. No condition but a flash with fewer than 2^60 writes. -/
namespace Go.Proofs.Ytcigijhoeghnnaa.drive
open Go.RowKit Go.Proofs.Ytcigijhoeghnnaa.flash Go.Proofs.Ytcigijhoeghnnaa.geom Go.Proofs.Ytcigijhoeghnnaa.word
set_option linter.unusedVariables false

set_option maxHeartbeats 1600000 in
theorem refBlank_bad {S : Nat → Prop} {d b : Nat} {g : Geo} {F : Fl} {w : World} (h : RDriveAt S d b g F w) (hr : g.Right) (s a : Int) (ha : a ≤ 9223372036854775807) (hz : bad F g s a (g.sector - a) ≠ 0) :
    Calls Try.prog 34 #[.pointer (some ⟨d, 0, none⟩), .int .i64 s, .int .i64 a] w fun e w' => e = .returned (.tuple #[.bool false, .int .i64 (bad F g s a (g.sector - a))]) ∧ Below w.heap.size w w' := by
  have hk0 := h.cells
  obtain ⟨⟨r1, r2⟩, _⟩ := id hr
  by_cases h0 : a < 0
  · have hb3 : bad F g s a (g.sector - a) = 3 := by unfold bad; rw [if_neg (by omega)]
    rw [hb3]
    clear h hr hz hb3
    go_enter Try.func34, Try.ntmps34
    go_wp2
    go_ret2
    exact ⟨rfl, Below.refl _ _⟩
  by_cases h1 : g.sector < a
  · have hb3 : bad F g s a (g.sector - a) = 3 := by unfold bad; rw [if_neg (by omega)]
    rw [hb3]
    clear h hr hz hb3
    go_enter Try.func34, Try.ntmps34
    go_wp2
    go_ret2
    exact ⟨rfl, Below.refl _ _⟩
  have cr := refRead_bad h hr s a (g.sector - a) ha hz
  have ho := bad_or F g s a (g.sector - a)
  generalize bad F g s a (g.sector - a) = z at *
  clear h hr
  rcases ho with rfl | rfl | rfl
  · exact absurd rfl hz
  all_goals
    clear hz
    go_enter Try.func34, Try.ntmps34
    go_wp2_with (first
      | (go_at_call 32; (with_reducible refine cr.mono ?_); rintro e w2 ⟨rfl, hb2⟩))
    have HB := hid hb2
    clear hb2 cr
    go_loopw [10] (fun i wr => i = .int .i64 0 ∧ wr = w2) (fun i _ => 0)
    case atStart => exact ⟨rfl, rfl⟩
    case round =>
      obtain ⟨rfl, rfl⟩ := hrel
      go_wp2
      go_ret2
      exact ⟨rfl, HB.out⟩
set_option maxHeartbeats 1600000 in
theorem refBlank_good {S : Nat → Prop} {d b : Nat} {g : Geo} {F : Fl} {w : World} (h : RDriveAt S d b g F w) (ok : F.Ok) (ft : Fit F g) (s a : Int) (hz : bad F g s a (g.sector - a) = 0) :
    Calls Try.prog 34 #[.pointer (some ⟨d, 0, none⟩), .int .i64 s, .int .i64 a] w fun e w' => e = .returned (.tuple #[.bool (ones F (addr g s a) (g.sector - a).toNat), .int .i64 0]) ∧ Below w.heap.size w w' := by
  have hk0 := h.cells
  obtain ⟨hin, hd⟩ := bad_zero hz
  obtain ⟨hA, hlen, p0, p1, n1, a1⟩ := addr_in ok ft hin
  obtain ⟨q1, q2, q3, q4, q5⟩ := hin
  obtain ⟨N, hN⟩ : ∃ N : Nat, g.sector - a = (N : Int) := Int.eq_ofNat_of_zero_le q4
  rw [hN] at hz ⊢
  rw [Int.toNat_natCast]
  have cr : Calls Try.prog 32 #[.pointer (some ⟨d, 0, none⟩), .int .i64 s, .int .i64 a, .int .i64 (N : Int)] w fun e w2 => ∃ q c, e = .returned (.tuple #[.slice q N c, .int .i64 0]) ∧ Reads .u32 w2 q N (span F (addr g s a) N) ∧ Below w.heap.size w w2 := refRead_good h ok ft s a N hz
  have hws : ∀ j, F.ws.getD j 0 < 4294967296 := fun j => getD_lt ok.w (by decide) j
  have hs1 : g.sector ≤ 1024 := ft.right.1.2
  have HS := hid hws
  clear h ok ft hz hA hlen hd hws q1 q2 q5 p0 p1
  generalize addr g s a = A at *
  go_enter Try.func34, Try.ntmps34
  go_wp2_with (first
    | (go_at_call 32; (with_reducible refine cr.mono ?_); rintro e w2 ⟨q, qc, rfl, hq, hb2⟩))
  have HQ := hid hq
  have HB := hid hb2
  clear hq hb2 cr
  go_loopw [10] (fun i wr => ∃ k : Nat, k ≤ N ∧ i = .int .i64 (k : Int) ∧ Hid (Below w2.heap.size w2 wr) ∧ Hid (∀ j, j < k → F.ws.getD (A + j) 0 = 4294967295)) (fun i _ => N - (intOf i).toNat)
  case atStart => exact ⟨0, Nat.zero_le _, rfl, hid (Below.refl _ _), hid (fun i h => by omega)⟩
  case round =>
    obtain ⟨k, hk, rfl, hbr, hall⟩ := hrel
    have HBR : Hid (Below w.heap.size w wr) := hid (HB.out.trans (hbr.out.mono HB.out.size))
    by_cases hlt : k < N
    · obtain ⟨qb, qo, rfl, _, cQ⟩ := (HQ.out.below hbr.out).at hlt
      have c2 := cQ k hlt
      rw [span_getD _ _ _ _ hlt] at c2
      have i1 : (k : Int) < N := by omega
      have hxl := HS.out (A + k)
      clear cQ
      by_cases hx : F.ws.getD (A + k) 0 = 4294967295
      · have hnx : Hid (∀ j, j < k + 1 → F.ws.getD (A + j) 0 = 4294967295) := hid (fun i hi => by
          by_cases h : i < k
          · exact hall.out i h
          · rw [show i = k by omega]; exact hx)
        rw [hx] at c2
        clear hx hxl
        go_wp2
        exact ⟨⟨k + 1, by omega, by go_num, hbr, hnx⟩, by simp [intOf]; omega⟩
      · have hvf := hid (ones_no hlt hx)
        have hne : ((F.ws.getD (A + k) 0 : Nat) : Int) ≠ 4294967295 := by omega
        clear hx
        generalize F.ws.getD (A + k) 0 = x1 at *
        go_wp2
        go_ret2
        exact ⟨by rw [hvf.out]; rfl, HBR.out⟩
    · obtain rfl : N = k := by omega
      have hvt := hid (ones_yes hall.out)
      go_wp2
      go_ret2
      exact ⟨by rw [hvt.out]; rfl, HBR.out⟩
theorem refBlank_this {S : Nat → Prop} {d b : Nat} {g : Geo} {F : Fl} {w : World} (h : RDriveAt S d b g F w) (ok : F.Ok) (ft : Fit F g) (s a : Int) (ha : a ≤ 9223372036854775807) :
    Calls Try.prog 34 #[.pointer (some ⟨d, 0, none⟩), .int .i64 s, .int .i64 a] w fun e w' => e = .returned (.tuple #[.bool (blankAt F g s a).1, .int .i64 (blankAt F g s a).2]) ∧ Below w.heap.size w w' := by
  unfold blankAt
  by_cases hz : bad F g s a (g.sector - a) = 0
  · rw [if_neg (fun h => h hz)]
    exact refBlank_good h ok ft s a hz
  · rw [if_pos hz]
    exact refBlank_bad h ft.right s a ha hz
theorem refErase_did {S : Nat → Prop} {b : Nat} {F : Fl} {w : World} (h : RefAt S b F w) (ok : F.Ok) (hc : F.count < 4611686018427387904) (s : Int) :
    Calls Try.prog 53 #[.pointer (some ⟨b, 0, none⟩), .int .i64 s] w (RDid S b (F.erase s).2 (.int .i64 (F.erase s).1) w) := by
  obtain ⟨cm, gW, cW, gV, cV, h⟩ := h
  exact refErase_any h ok hc s
theorem refClean_this {S : Nat → Prop} {d b : Nat} {g : Geo} {F : Fl} {w : World} (h : RDriveAt S d b g F w) (ok : F.Ok) (ft : Fit F g) (hc : F.count < 2305843009213693952) (s : Int) :
    Calls Try.prog 35 #[.pointer (some ⟨d, 0, none⟩), .int .i64 s] w (RDid S b (clean F g s).2 (.int .i64 (clean F g s).1) w) := by
  have cb := refBlank_this h ok ft s 0 (by omega)
  have hbo := blank_or F g s 0
  have ce : ∀ w', Below w.heap.size w w' → Calls Try.prog 53 #[.pointer (some ⟨b, 0, none⟩), .int .i64 s] w' (RDid S b (F.erase s).2 (.int .i64 (F.erase s).1) w') := fun w' hb => refErase_did (h.later hb).fl ok (by omega) s
  have HS := h.seen
  have HF := hid h.fl
  have HD : Hid (∀ w' H, RTurn S b H w' w' → True) := hid fun _ _ _ => trivial
  unfold clean
  clear h ok ft HD
  generalize blankAt F g s 0 = R at *
  obtain ⟨v, z⟩ := R
  simp only at *
  by_cases hz : z = 0
  · subst hz
    clear hbo
    cases v with
    | true =>
      rw [if_pos (.inr rfl)]
      clear ce
      go_enter Try.func35, Try.ntmps35
      go_wp2_with (go_at_call 34; (with_reducible refine cb.mono ?_); rintro e w1 ⟨rfl, hb1⟩)
      go_ret
      exact ⟨rfl, RTurn.of HF.out hb1⟩
    | false =>
      rw [if_neg (by simp)]
      generalize F.erase s = E at *
      go_enter Try.func35, Try.ntmps35
      go_wp2_with (first
        | (go_at_call 34; (with_reducible refine cb.mono ?_); rintro e w1 ⟨rfl, hb1⟩; have hk1 := HS.out w1 hb1)
        | (go_at_call 53; (with_reducible refine (ce _ hb1).mono ?_); rintro e w2 ⟨rfl, ht⟩))
      go_ret
      exact ⟨rfl, RTurn.before hb1 ht⟩
  · rw [if_pos (.inl hz)]
    clear ce
    rcases hbo with rfl | rfl | rfl
    · exact absurd rfl hz
    all_goals
      clear hz
      go_enter Try.func35, Try.ntmps35
      go_wp2_with (go_at_call 34; (with_reducible refine cb.mono ?_); rintro e w1 ⟨rfl, hb1⟩)
      go_ret
      exact ⟨rfl, RTurn.of HF.out hb1⟩
/-- what a row of words that came in is still there behind a call that turned the flash -/
theorem RTurn.reads {S S' : Nat → Prop} {w w' : World} {x : Option Addr} {n : Nat} {W : List Nat} (hr : Reads .u32 w x n W) (hsep : n = 0 ∨ ∃ y, x = some y ∧ ¬ S y.block) (h2 : ∀ y, S' y → y < w'.heap.size ∧ (S y ∨ w.heap.size ≤ y)) (h3 : Only S w w') :
    Reads .u32 w' x n W ∧ (n = 0 ∨ ∃ y, x = some y ∧ ¬ S' y.block) := by
  refine ⟨reads_only hr h3 hsep, ?_⟩
  rcases hsep with h0 | ⟨y, hy, hn⟩
  · exact .inl h0
  · rcases hr.2 with h0 | ⟨b, off, hx, hlt, _⟩
    · exact .inl h0
    · rw [hy] at hx
      cases hx
      refine .inr ⟨_, hy, fun hs => ?_⟩
      rcases (h2 _ hs).2 with h | h
      · exact hn h
      · simp at h; omega
theorem refFresh_this {S : Nat → Prop} {d b : Nat} {g : Geo} {F : Fl} {w : World} (h : RDriveAt S d b g F w) (ok : F.Ok) (ft : Fit F g) (hc : F.count < 1152921504606846976) (s : Int) (x : Option Addr) (n c : Nat) (W : List Nat)
    (hr : Reads .u32 w x n W) (hW : ∀ y ∈ W, y < 4294967296) (hsep : n = 0 ∨ ∃ y, x = some y ∧ ¬ S y.block) :
    Calls Try.prog 36 #[.pointer (some ⟨d, 0, none⟩), .int .i64 s, .slice x n c] w (RDid S b (fresh F g s W).2 (.int .i64 (fresh F g s W).1) w) := by
  have hl := hr.1
  have cy := refBad_any h ft.right s 0 n (by omega)
  have hbo := bad_or F g s 0 n
  have st := clean_step ok g s
  have cc : ∀ w', Below w.heap.size w w' → Calls Try.prog 35 #[.pointer (some ⟨d, 0, none⟩), .int .i64 s] w' (RDid S b (clean F g s).2 (.int .i64 (clean F g s).1) w') := fun w' hb => refClean_this (h.later hb) ok ft (by omega) s
  have cw : ∀ w1 w2, Below w.heap.size w w1 → RTurn S b (clean F g s).2 w1 w2 → Calls Try.prog 33 #[.pointer (some ⟨d, 0, none⟩), .int .i64 s, .int .i64 0, .slice x n c] w2 fun e w' => e = .returned (.int .i64 (write (clean F g s).2 g s 0 W).1) ∧ RTurn S b (write (clean F g s).2 g s 0 W).2 w w' := fun w1 w2 hb ht => by
    obtain ⟨S', hD, h2, h3⟩ := (h.later hb).turn ht
    obtain ⟨r1, r2⟩ := RTurn.reads (hr.below hb) hsep h2 h3
    refine (refWrite_this hD st.ok (ft.like st.like) (by have := st.c2; omega) s 0 (by omega) x n c W r1 hW r2).mono ?_
    rintro e w' ⟨he, k⟩
    exact ⟨he, RTurn.before hb (RTurn.join h2 h3 k)⟩
  have HF := hid h.fl
  unfold fresh
  rw [hl]
  clear h ok ft hr hW hsep st hl hc
  by_cases hz : bad F g s 0 n = 0
  · rw [hz] at cy
    rw [if_neg (fun h => h hz)]
    clear hbo hz
    generalize clean F g s = C at *
    obtain ⟨z, G⟩ := C
    simp only at *
    by_cases hz : z = 0
    · subst hz
      rw [if_neg (fun h => h rfl)]
      generalize write G g s 0 W = R at *
      go_enter Try.func36, Try.ntmps36
      go_wp2_with (first
        | (go_at_call 50; (with_reducible refine cy.mono ?_); rintro e w1 ⟨rfl, hb1⟩)
        | (go_at_call 35; (with_reducible refine (cc _ hb1).mono ?_); rintro e w2 ⟨rfl, ht0⟩; have ht : RTurn S b G w1 w2 := ht0)
        | (go_at_call 33; (with_reducible refine (cw _ _ hb1 ht).mono ?_); rintro e w3 ⟨rfl, ht2⟩))
      go_ret
      exact ⟨rfl, ht2⟩
    · rw [if_pos hz]
      clear cw
      go_enter Try.func36, Try.ntmps36
      go_wp2_with (first
        | (go_at_call 50; (with_reducible refine cy.mono ?_); rintro e w1 ⟨rfl, hb1⟩)
        | (go_at_call 35; (with_reducible refine (cc _ hb1).mono ?_); rintro e w2 ⟨rfl, ht⟩))
      go_ret
      exact ⟨rfl, RTurn.before hb1 ht⟩
  · rw [if_pos hz]
    generalize bad F g s 0 n = z at *
    clear cc cw
    rcases hbo with rfl | rfl | rfl
    · exact absurd rfl hz
    all_goals
      clear hz
      go_enter Try.func36, Try.ntmps36
      go_wp2_with (go_at_call 50; (with_reducible refine cy.mono ?_); rintro e w1 ⟨rfl, hb1⟩)
      go_ret
      exact ⟨rfl, RTurn.of HF.out hb1⟩
end Go.Proofs.Ytcigijhoeghnnaa.drive
/- Contract of the law file's told of layer 9: the reference's drive, for every act. No condition but a flash with fewer than 2^60 writes. -/
namespace Go.Proofs.Ytcigijhoeghnnaa.drive
open Go.RowKit Go.Proofs.Ytcigijhoeghnnaa.flash Go.Proofs.Ytcigijhoeghnnaa.geom Go.Proofs.Ytcigijhoeghnnaa.word
set_option linter.unusedVariables false

theorem refRead_this {S : Nat → Prop} {d b : Nat} {g : Geo} {F : Fl} {w : World} (h : RDriveAt S d b g F w) (ok : F.Ok) (ft : Fit F g) (s a n : Int) (ha : a ≤ 9223372036854775807) :
    Calls Try.prog 32 #[.pointer (some ⟨d, 0, none⟩), .int .i64 s, .int .i64 a, .int .i64 n] w fun e w' => ∃ x c, e = .returned (.tuple #[.slice x (read F g s a n).1.length c, .int .i64 (read F g s a n).2]) ∧
      Reads .u32 w' x (read F g s a n).1.length (read F g s a n).1 ∧ Below w.heap.size w w' := by
  unfold read
  by_cases hz : bad F g s a n = 0
  · rw [if_neg (fun h => h hz)]
    obtain ⟨N, rfl⟩ := Int.eq_ofNat_of_zero_le (bad_zero hz).1.2.2.2.1
    refine (refRead_good h ok ft s a N hz).mono ?_
    rintro e w' ⟨q, c, rfl, hr, hb⟩
    rw [Int.toNat_natCast]
    simp only [span_length]
    exact ⟨_, _, rfl, hr, hb⟩
  · rw [if_pos hz]
    refine (refRead_bad h ft.right s a n ha hz).mono ?_
    rintro e w' ⟨rfl, hb⟩
    exact ⟨_, _, rfl, Reads.nil, hb⟩
theorem refArm_did {S : Nat → Prop} {b : Nat} {F : Fl} {w : World} (h : RefAt S b F w) (n : Int) (hn : n ≤ 9223372036854775807) (hn2 : -9223372036854775808 ≤ n) (x : Option Addr) (len cap : Nat) (W : List Nat) (hr : Reads .u32 w x len W) (hlen : len * 4 ≤ 140737488355328) (hsep : len = 0 ∨ ∃ y, x = some y ∧ ¬ S y.block) :
    Calls Try.prog 37 #[.pointer (some ⟨b, 0, none⟩), .int .i64 n, .slice x len cap] w (RDid S b (F.arm n W) (.tuple #[]) w) := by
  obtain ⟨cm, gW, cW, gV, cV, h⟩ := h
  exact refArm_any h n hn hn2 x len cap W hr hlen hsep
theorem refPower_did {S : Nat → Prop} {b : Nat} {F : Fl} {w : World} (h : RefAt S b F w) : Calls Try.prog 38 #[.pointer (some ⟨b, 0, none⟩)] w (RDid S b F.power (.tuple #[]) w) := by
  obtain ⟨cm, gW, cW, gV, cV, h⟩ := h
  exact (refPower_any h).mono fun e w' k => k.did h
/-- what the law file's told answers -/
def RDone (S : Nat → Prop) (b : Nat) (r : (List Nat × Bool × Int) × Fl) (w : World) (e : Ending) (w' : World) : Prop :=
  ∃ x c, e = .returned (.tuple #[.slice x r.1.1.length c, .bool r.1.2.1, .int .i64 r.1.2.2]) ∧ Reads .u32 w' x r.1.1.length r.1.1 ∧ RTurn S b r.2 w w'
theorem RDone.nil {S : Nat → Prop} {b : Nat} {v : Bool} {z : Int} {G : Fl} {w w' : World} (k : RTurn S b G w w') : RDone S b (([], v, z), G) w (.returned (.tuple #[.slice none 0 0, .bool v, .int .i64 z])) w' :=
  ⟨_, _, rfl, Reads.nil, k⟩
set_option maxHeartbeats 4000000 in
theorem told_this {S : Nat → Prop} {d b : Nat} {g : Geo} {F : Fl} {w : World} (h : RDriveAt S d b g F w) (ok : F.Ok) (ft : Fit F g) (hc : F.count < 1152921504606846976) (k s a n : Int) (x : Option Addr) (len cap : Nat) (W : List Nat)
    (ha : a ≤ 9223372036854775807) (hn : n ≤ 9223372036854775807) (hn2 : -9223372036854775808 ≤ n) (hr : Reads .u32 w x len W) (hW : ∀ y ∈ W, y < 4294967296) (hlen : len ≤ 1048576) (hsep : len = 0 ∨ ∃ y, x = some y ∧ ¬ S y.block) :
    Calls Try.prog 14 #[.pointer (some ⟨d, 0, none⟩), .agg #[.int .i64 k, .int .i64 s, .int .i64 a, .int .i64 n, .slice x len cap]] w (RDone S b (step F g k s a n W) w) := by
  have hb : Below w.heap.size w (w.alloc (.cells #[.int .i64 k, .int .i64 s, .int .i64 a, .int .i64 n, .slice x len cap] 43)) := (Below.refl _ _).alloc (Nat.le_refl _) _
  have h1 := h.later hb
  have cre := refRead_this h1 ok ft s a n ha
  have cwr := refWrite_this h1 ok ft (by omega) s a ha x len cap W (hr.below hb) hW hsep
  have cbl := refBlank_this h1 ok ft s a ha
  have ccl := refClean_this h1 ok ft (by omega) s
  have cfr := refFresh_this h1 ok ft hc s x len cap W (hr.below hb) hW hsep
  have car := fun m => refArm_did (h1.fl.later (below_drewN (Below.refl _ _) m)) n hn hn2 x len cap W ((hr.below hb).drewN m) (by omega) hsep
  have cpo := refPower_did h1.fl
  have hd0 := h1.cells.1
  have HB := hid hb
  have HF := hid h.fl
  have HF1 := hid h1.fl
  clear h hr ok ft hsep h1 hb
  unfold step
  by_cases k0 : k = 0
  · subst k0
    rw [if_pos rfl]
    generalize read F g s a n = R at *
    go_enter Try.func14, Try.ntmps14
    go_wp2_with (go_at_call 32; (with_reducible refine cre.mono ?_); rintro e w1 ⟨x1, c1, rfl, hr1, hb1⟩)
    go_returns
    exact ⟨x1, c1, rfl, hr1, RTurn.before HB.out (RTurn.of HF1.out hb1)⟩
  rw [if_neg k0]
  by_cases k1 : k = 1 ∨ k = 2
  · rw [if_pos k1]
    generalize write F g s a W = R at *
    rcases k1 with rfl | rfl
    all_goals
      go_enter Try.func14, Try.ntmps14
      go_wp2_with (go_at_call 33; (with_reducible refine cwr.mono ?_); rintro e w1 ⟨rfl, hd⟩)
      go_returns
      exact RDone.nil (RTurn.before HB.out hd)
  rw [if_neg k1]
  have k1a : ¬ k = 1 := fun h => k1 (.inl h)
  have k1b : ¬ k = 2 := fun h => k1 (.inr h)
  clear k1
  by_cases k3 : k = 3
  · subst k3
    rw [if_pos rfl]
    generalize blankAt F g s a = R at *
    go_enter Try.func14, Try.ntmps14
    go_wp2_with (go_at_call 34; (with_reducible refine cbl.mono ?_); rintro e w1 ⟨rfl, hb1⟩)
    go_returns
    exact RDone.nil (RTurn.before HB.out (RTurn.of HF1.out hb1))
  rw [if_neg k3]
  by_cases k4 : k = 4
  · subst k4
    rw [if_pos rfl]
    generalize clean F g s = R at *
    go_enter Try.func14, Try.ntmps14
    go_wp2_with (go_at_call 35; (with_reducible refine ccl.mono ?_); rintro e w1 ⟨rfl, hd⟩)
    go_returns
    exact RDone.nil (RTurn.before HB.out hd)
  rw [if_neg k4]
  by_cases k5 : k = 5
  · subst k5
    rw [if_pos rfl]
    generalize fresh F g s W = R at *
    go_enter Try.func14, Try.ntmps14
    go_wp2_with (go_at_call 36; (with_reducible refine cfr.mono ?_); rintro e w1 ⟨rfl, hd⟩)
    go_returns
    exact RDone.nil (RTurn.before HB.out hd)
  rw [if_neg k5]
  by_cases k6 : k = 6
  · subst k6
    rw [if_pos rfl]
    generalize F.arm n W = G at *
    go_enter Try.func14, Try.ntmps14
    go_wp2
    refine tail.region 8 (by kernel_rfl) (by kernel_rfl) ?_
    simp only [List.take_succ_cons, List.take_zero, List.drop_succ_cons, List.drop_zero]
    repeat (go_big_quiet_step (fail))
    refine wpQuiet_nil ?_
    rintro _ ⟨nq, rfl⟩
    go_wp2_with (go_at_call 37; (with_reducible refine (car nq).mono ?_); rintro e w1 ⟨rfl, hd⟩)
    go_returns
    exact RDone.nil (RTurn.before HB.out (RTurn.before (below_drewN (Below.refl _ _) nq) hd))
  rw [if_neg k6]
  by_cases k7 : k = 7
  · subst k7
    rw [if_pos rfl]
    generalize F.power = G at *
    go_enter Try.func14, Try.ntmps14
    go_wp2_with (go_at_call 38; (with_reducible refine cpo.mono ?_); rintro e w1 ⟨rfl, hd⟩)
    go_returns
    exact RDone.nil (RTurn.before HB.out hd)
  rw [if_neg k7]
  clear cre cwr cbl ccl cfr car cpo
  go_enter Try.func14, Try.ntmps14
  go_wp2
  go_returns
  exact RDone.nil (RTurn.of HF.out HB.out)
end Go.Proofs.Ytcigijhoeghnnaa.drive
/- Contract of the reference's Same of layer 1 at two slices that read alike. -/
namespace Go.Proofs.Ytcigijhoeghnnaa.word
open Go.RowKit
set_option linter.unusedVariables false

set_option maxHeartbeats 1600000 in
theorem same_any (a b : Option Addr) (len ca cb : Nat) (xs : List Nat) (w : World) (ha : Reads .u32 w a len xs) (hb : Reads .u32 w b len xs) (hl : len * 4 ≤ 140737488355328) :
    Calls Try.prog 15 #[.slice a len ca, .slice b len cb] w (Quiet (.bool true) w) := by
  have hq : ((len : Int) != len) = false := by simp
  go_enter Try.func15, Try.ntmps15
  go_wp2
  go_loopw [5] (fun i wr => ∃ k : Nat, k ≤ len ∧ i = .int .i64 k ∧ ∃ m, wr = w.drewN m) (fun i _ => len - (intOf i).toNat)
  case atStart => exact ⟨0, Nat.zero_le _, rfl, 0, rfl⟩
  case round =>
    obtain ⟨k, hk, rfl, m, rfl⟩ := hrel
    by_cases hlt : k < len
    · obtain ⟨b1, o1, rfl, _, hc1⟩ := ha.at hlt
      obtain ⟨b2, o2, rfl, _, hc2⟩ := hb.at hlt
      have c1 := hc1 k hlt
      have c2 := hc2 k hlt
      have i1 : (k : Int) < len := by omega
      clear hc1 hc2
      generalize xs.getD k 0 = x1 at *
      have hn : ((x1 : Int) != x1) = false := by simp
      have c1' : (w.drewN m).cell? ⟨b1, o1 + k, none⟩ = some (.int .u32 (x1 : Int)) := c1
      have c2' : (w.drewN m).cell? ⟨b2, o2 + k, none⟩ = some (.int .u32 (x1 : Int)) := c2
      go_wp2
      go_quiet (fail)
      go_wp2
      exact ⟨⟨k + 1, by omega, by go_num, ⟨_, rfl⟩⟩, by simp [intOf]; omega⟩
    · go_wp2
      go_ret
      exact ⟨rfl, _, rfl⟩
end Go.Proofs.Ytcigijhoeghnnaa.word
/- A drive and the reference's drive, side by side: what an act on one of them leaves of the other. No condition but flashes with fewer than 2^60 writes. -/
namespace Go.Proofs.Ytcigijhoeghnnaa.drive
open Go.RowKit Go.Proofs.Ytcigijhoeghnnaa.flash Go.Proofs.Ytcigijhoeghnnaa.geom Go.Proofs.Ytcigijhoeghnnaa.word
set_option linter.unusedVariables false

/-- what lies in memory of the call's own -/
def Mine (w0 wr : World) (S : Nat → Prop) : Prop := ∀ x, S x → w0.heap.size ≤ x ∧ x < wr.heap.size
/-- the drive at d over the flash at b, and the reference's at e over its flash at c, apart -/
structure Two (w0 : World) (S T : Nat → Prop) (d b e c : Nat) (g : Geo) (F R : Fl) (wr : World) : Prop where
  dr : DriveAt S d b g F wr
  rf : RDriveAt T e c g R wr
  ms : Mine w0 wr S
  mt : Mine w0 wr T
  ap : ∀ x, S x → ¬ T x
  se : ¬ S e
  td : ¬ T d
  ld : w0.heap.size ≤ d
  le : w0.heap.size ≤ e
  bl : Below w0.heap.size w0 wr
def Play (w0 : World) (d b e c : Nat) (g : Geo) (F R : Fl) (wr : World) : Prop := ∃ S T, Two w0 S T d b e c g F R wr
section
variable {w0 wr w' : World} {S T : Nat → Prop} {d b e c : Nat} {g : Geo} {F R G : Fl}
theorem Mine.grow {S' : Nat → Prop} (h : Mine w0 wr S) (hb : Below w0.heap.size w0 wr) (k : ∀ x, S' x → x < w'.heap.size ∧ (S x ∨ wr.heap.size ≤ x)) : Mine w0 w' S' := fun x hx => ⟨by
  rcases (k x hx).2 with h1 | h1
  · exact (h x h1).1
  · have := hb.size; omega, (k x hx).1⟩
theorem Mine.wide (h : Mine w0 wr S) (hs : wr.heap.size ≤ w'.heap.size) : Mine w0 w' S := fun x hx => ⟨(h x hx).1, Nat.lt_of_lt_of_le (h x hx).2 hs⟩
theorem Two.later (h : Two w0 S T d b e c g F R wr) (k : Below wr.heap.size wr w') : Two w0 S T d b e c g F R w' :=
  ⟨h.dr.later k, h.rf.later k, h.ms.wide k.size, h.mt.wide k.size, h.ap, h.se, h.td, h.ld, h.le, h.bl.trans (k.mono h.bl.size)⟩
theorem Two.turn (h : Two w0 S T d b e c g F R wr) (k : Turn S b G wr w') : ∃ S', Two w0 S' T d b e c g G R w' ∧ Only S wr w' := by
  obtain ⟨S', hD, k2, k3⟩ := h.dr.turn k
  refine ⟨S', ⟨hD, ⟨h.rf.blk.only k3 h.se, h.rf.fl.only k3 h.ap, h.rf.nd⟩, h.ms.grow h.bl k2, h.mt.wide k3.size, fun x hx ht => ?_, fun hs => ?_, h.td, h.ld, h.le, h.bl.trans (k3.below h.bl.size fun x hx => (h.ms x hx).1)⟩, k3⟩
  · rcases (k2 x hx).2 with h1 | h1
    · exact h.ap x h1 ht
    · have := (h.mt x ht).2; omega
  · rcases (k2 e hs).2 with h1 | h1
    · exact h.se h1
    · have := h.rf.blk.lt; omega
theorem Two.rturn (h : Two w0 S T d b e c g F R wr) (k : RTurn T c G wr w') : ∃ T', Two w0 S T' d b e c g F G w' ∧ Only T wr w' := by
  obtain ⟨T', hD, k2, k3⟩ := h.rf.turn k
  refine ⟨T', ⟨⟨h.dr.blk.only k3 h.td, h.dr.fl.only k3 (fun x hx hs => h.ap x hs hx), h.dr.nd⟩, hD, h.ms.wide k3.size, h.mt.grow h.bl k2, fun x hs hx => ?_, h.se, fun ht => ?_, h.ld, h.le, h.bl.trans (k3.below h.bl.size fun x hx => (h.mt x hx).1)⟩, k3⟩
  · rcases (k2 x hx).2 with h1 | h1
    · exact h.ap x hs h1
    · have := (h.ms x hs).2; omega
  · rcases (k2 d ht).2 with h1 | h1
    · exact h.td h1
    · have := h.dr.blk.lt; omega
theorem Play.below (h : Play w0 d b e c g F R wr) : Below w0.heap.size w0 wr := by obtain ⟨S, T, h⟩ := h; exact h.bl
theorem Play.later (h : Play w0 d b e c g F R wr) (k : Below wr.heap.size wr w') : Play w0 d b e c g F R w' := by
  obtain ⟨S, T, h⟩ := h
  exact ⟨S, T, h.later k⟩
/-- behind an act on the drive: what it answered reads so, and the reference's flash does not hold it -/
def Half1 (w0 : World) (d b e c : Nat) (g : Geo) (F R : Fl) (x : Option Addr) (xs : List Nat) (wr : World) : Prop :=
  ∃ S T, Two w0 S T d b e c g F R wr ∧ Reads .u32 wr x xs.length xs ∧ (xs.length = 0 ∨ ∃ y, x = some y ∧ ¬ T y.block)
theorem Half1.below {x : Option Addr} {xs : List Nat} (h : Half1 w0 d b e c g F R x xs wr) : Below w0.heap.size w0 wr := by obtain ⟨S, T, h, _⟩ := h; exact h.bl
theorem Play.do (h : Play w0 d b e c g F R wr) (ok : F.Ok) (ft : Fit F g) (hc : F.count < 1152921504606846976) (k s a n : Int) (x : Option Addr) (len cap : Nat) (W : List Nat)
    (ha : a ≤ 9223372036854775807) (hn : n ≤ 9223372036854775807) (hr : Reads .u32 wr x len W) (hW : ∀ y ∈ W, y < 4294967296) (hlc : len ≤ cap) (hcap : cap ≤ maxLen) (hlen : len ≤ 140737488355328) (hsep : len = 0 ∨ ∃ y, x = some y ∧ y.block < w0.heap.size) :
    Calls Try.prog 13 #[.pointer (some ⟨b, 0, none⟩), .pointer (some ⟨d, 0, none⟩), .agg #[.int .i64 k, .int .i64 s, .int .i64 a, .int .i64 n, .slice x len cap]] wr fun o w' =>
      ∃ x c', o = .returned (.tuple #[.slice x (step F g k s a n W).1.1.length c', .bool (step F g k s a n W).1.2.1, .int .i64 (step F g k s a n W).1.2.2]) ∧ Half1 w0 d b e c g (step F g k s a n W).2 R x (step F g k s a n W).1.1 w' := by
  obtain ⟨S, T, h⟩ := h
  refine (do_this h.dr ok ft hc k s a n x len cap W ha hn hr hW hlc hcap hlen (hsep.imp id fun ⟨y, hy, ho⟩ => ⟨y, hy, fun hs => by have := (h.ms _ hs).1; omega⟩)).mono ?_
  rintro o w' ⟨x1, c1, he, hr1, hs1, ht⟩
  obtain ⟨S', h2, _⟩ := h.turn ht
  exact ⟨x1, c1, he, S', T, h2, hr1, hs1.imp id fun ⟨y, hy, hl⟩ => ⟨y, hy, fun ht => by have := (h.mt _ ht).2; omega⟩⟩
theorem Half1.told {z : Option Addr} {zs : List Nat} (h : Half1 w0 d b e c g F R z zs wr) (ok : R.Ok) (ft : Fit R g) (hc : R.count < 1152921504606846976) (k s a n : Int) (x : Option Addr) (len cap : Nat) (W : List Nat)
    (ha : a ≤ 9223372036854775807) (hn : n ≤ 9223372036854775807) (hn2 : -9223372036854775808 ≤ n) (hr : Reads .u32 wr x len W) (hW : ∀ y ∈ W, y < 4294967296) (hlen : len ≤ 1048576) (hsep : len = 0 ∨ ∃ y, x = some y ∧ y.block < w0.heap.size) :
    Calls Try.prog 14 #[.pointer (some ⟨e, 0, none⟩), .agg #[.int .i64 k, .int .i64 s, .int .i64 a, .int .i64 n, .slice x len cap]] wr fun o w' =>
      ∃ x c', o = .returned (.tuple #[.slice x (step R g k s a n W).1.1.length c', .bool (step R g k s a n W).1.2.1, .int .i64 (step R g k s a n W).1.2.2]) ∧ Play w0 d b e c g F (step R g k s a n W).2 w' ∧ Reads .u32 w' z zs.length zs ∧ Reads .u32 w' x (step R g k s a n W).1.1.length (step R g k s a n W).1.1 := by
  obtain ⟨S, T, h, hz, hzs⟩ := h
  refine (told_this h.rf ok ft hc k s a n x len cap W ha hn hn2 hr hW hlen (hsep.imp id fun ⟨y, hy, ho⟩ => ⟨y, hy, fun hs => by have := (h.mt _ hs).1; omega⟩)).mono ?_
  rintro o w' ⟨x1, c1, he, hr1, ht⟩
  obtain ⟨T', h2, hO⟩ := h.rturn ht
  exact ⟨x1, c1, he, ⟨S, T', h2⟩, reads_only hz hO hzs, hr1⟩
/-- what is seen of the two, in every world in which what there was stands -/
structure Seen (b e c : Nat) (F : Fl) (gW cW : Nat) (wr : World) : Prop where
  writes : ∀ w', Below wr.heap.size wr w' → Calls Try.prog 16 #[.pointer (some ⟨b, 0, none⟩)] w' (Quiet (.int .i64 F.count) w')
  words : ∀ w', Below wr.heap.size wr w' → Calls Try.prog 17 #[.pointer (some ⟨b, 0, none⟩)] w' fun e w2 => ∃ q c, e = .returned (.slice (some ⟨q, 0, none⟩) F.ws.length c) ∧ Reads .u32 w2 (some ⟨q, 0, none⟩) F.ws.length F.ws ∧ Below wr.heap.size wr w2
  same : ∀ q c w', Reads .u32 w' (some ⟨q, 0, none⟩) F.ws.length F.ws → Below wr.heap.size wr w' → Calls Try.prog 15 #[.slice (some ⟨q, 0, none⟩) F.ws.length c, .slice (some ⟨gW, 0, none⟩) F.ws.length cW] w' fun e w2 => e = .returned (.bool true) ∧ Below wr.heap.size wr w2
  cells : ∀ w', Below wr.heap.size wr w' → w'.cell? ⟨e, 0, none⟩ = some (.pointer (some ⟨c, 0, none⟩)) ∧ w'.cell? ⟨c, 0, none⟩ = some (.slice (some ⟨gW, 0, none⟩) F.ws.length cW) ∧ w'.cell? ⟨c, 3, none⟩ = some (.int .i64 (F.count : Int))
theorem Play.seen (h : Play w0 d b e c g F F wr) (ok : F.Ok) : ∃ gW cW, Seen b e c F gW cW wr := by
  obtain ⟨S, T, h⟩ := h
  obtain ⟨ca, cb, cm, bw, cw, bv, cv, h1⟩ := h.dr.fl
  obtain ⟨dm, gW, cW, gV, cV, h2⟩ := h.rf.fl
  refine ⟨gW, cW, ⟨fun w' hb => ?_, fun w' hb => ?_, fun q c w' hr hb => ?_, fun w' hb => ?_⟩⟩
  · exact writes_any b _ _ (h1.later hb).cell.2.2.2.2.2.2.1
  · refine (words_any (h1.later hb) ok).mono ?_
    rintro e w2 ⟨q, c, rfl, hq, hr, hb2⟩
    exact ⟨q, c, rfl, hr.reads, hb.trans (hb2.mono hb.size)⟩
  · refine (same_any _ _ F.ws.length c cW F.ws w' hr (h2.later hb).ws.reads (by have := ok.ws_le; omega)).mono fun e w2 k => ?_
    obtain ⟨he, n, rfl⟩ := k
    exact ⟨he, below_drewN hb n⟩
  · have hc := (h2.later hb).cell
    exact ⟨(h.rf.later hb).cells.1, hc.1, hc.2.2.2.1⟩
/-- the two at the start -/
theorem play_start (h : Own w0 d b g (first g) wr) (hr : g.Right) : Calls Try.prog 12 #[.agg #[.int .i64 g.sector, .int .i64 g.slot, .int .i64 g.data, .int .i64 g.quota, .int .i64 g.tries, .int .i64 g.life]] wr fun o w' => ∃ e c, o = .returned (.pointer (some ⟨e, 0, none⟩)) ∧ Play w0 d b e c g (first g) (first g) w' := by
  obtain ⟨S, h1, h2, h3, h4⟩ := h
  refine (refNew_this hr wr).mono ?_
  rintro o w' ⟨e, c, T, he, hR, hT, hle, hb⟩
  refine ⟨e, c, he, S, T, h1.later hb, hR, fun x hx => ⟨(h2 x hx).1, Nat.lt_of_lt_of_le (h2 x hx).2 hb.size⟩, fun x hx => ⟨Nat.le_trans h4.size (hT x hx).1, (hT x hx).2⟩, fun x hs ht => ?_, fun hs => ?_, fun ht => ?_, h3, Nat.le_trans h4.size hle, h4.trans (hb.mono h4.size)⟩
  · have := (h2 x hs).2; have := (hT x ht).1; omega
  · have := (h2 e hs).2; omega
  · have := (hT d ht).1; have := h1.lt; omega
end
end Go.Proofs.Ytcigijhoeghnnaa.drive
/- Contract of the law file's great of layer 9, for every list of acts. No condition. -/
namespace Go.Proofs.Ytcigijhoeghnnaa.drive
open Go.RowKit
set_option linter.unusedVariables false

def bigL (l : List DAct) : Bool := (l.take 61).any (fun q => decide (200 < q.wLen)) || decide (60 < l.length)
theorem not_big {l : List DAct} (h : bigL l = false) : l.length ≤ 60 ∧ ∀ q ∈ l, q.wLen ≤ 200 := by
  unfold bigL at h
  rw [Bool.or_eq_false_iff] at h
  obtain ⟨h1, h2⟩ := h
  have h3 : l.length ≤ 60 := by simpa using h2
  refine ⟨h3, fun q hq => ?_⟩
  rw [List.take_of_length_le (by omega), List.any_eq_false] at h1
  have := h1 q hq
  simpa using this
set_option maxHeartbeats 1600000 in
theorem great_any (a0 : Option Addr) (cap : Nat) (l : List DAct) (w : World) (ac : DActs w a0 l) (hcap : l.length ≤ maxLen) : Calls Try.prog 7 #[.slice a0 l.length cap] w (Quiet (.bool (bigL l)) w) := by
  have hml : (l.length : Int) ≤ 9223372036854775807 := by unfold maxLen at hcap; omega
  go_enter Try.func7, Try.ntmps7
  go_wp2
  go_loopw [3] (fun i wr => ∃ k : Nat, k ≤ l.length ∧ k ≤ 61 ∧ i = .int .i64 (k : Int) ∧ wr = w ∧ Hid ((l.take k).any (fun q => decide (200 < q.wLen)) = false)) (fun i _ => 61 - (intOf i).toNat)
  case atStart => exact ⟨0, Nat.zero_le _, Nat.zero_le _, rfl, rfl, hid (by simp)⟩
  case round =>
    obtain ⟨k, hk, hk2, rfl, rfl, hno⟩ := hrel
    by_cases h1 : k < l.length
    · by_cases h2 : k < 61
      · obtain ⟨b, off, p, rfl, hlt, hp, c0, c1, c2, c3, c4⟩ := ac.at h1
        have i1 : (k : Int) < l.length := by omega
        have hstep : (l.take (k + 1)).any (fun q => decide (200 < q.wLen)) = ((l.take k).any (fun q => decide (200 < q.wLen)) || decide (200 < p.wLen)) := by
          rw [List.take_add_one, hp]; simp
        rw [hno.out, Bool.false_or] at hstep
        have HST := hid hstep
        have HP := hid hp
        clear hstep hp ac c0 c1 c2 c3
        by_cases h3 : 200 < p.wLen
        · go_wp2
          go_ret
          refine ⟨ret_bool ?_, 0, rfl⟩
          unfold bigL
          rw [show (l.take 61).any (fun q => decide (200 < q.wLen)) = true from ?_, Bool.true_or]
          rw [List.any_eq_true]
          exact ⟨p, List.mem_of_getElem? (i := k) (by rw [List.getElem?_take, if_pos h2]; exact HP.out), by simpa using h3⟩
        · go_wp2
          exact ⟨⟨k + 1, by omega, by omega, by go_num, trivial, hid (by rw [HST.out]; simpa using h3)⟩, by simp [intOf]; omega⟩
      · obtain rfl : k = 61 := by omega
        have h4 : (60 : Int) < l.length := by omega
        have HE : Hid (bigL l = true) := hid (by unfold bigL; rw [show decide (60 < l.length) = true from decide_eq_true (by omega), Bool.or_true])
        clear ac
        go_wp2
        go_ret
        exact ⟨ret_bool HE.out.symm, 0, rfl⟩
    · obtain rfl : k = l.length := by omega
      have HE : Hid (bigL l = decide (60 < l.length)) := hid (by
        unfold bigL
        have := hno.out
        rw [List.take_of_length_le (Nat.le_refl _)] at this
        rw [List.take_of_length_le hk2, this, Bool.false_or])
      clear ac
      generalize l.length = n at *
      go_wp2
      go_ret
      exact ⟨ret_bool (by rw [HE.out]; by_cases h : 60 < n <;> simp <;> omega), 0, rfl⟩
end Go.Proofs.Ytcigijhoeghnnaa.drive
