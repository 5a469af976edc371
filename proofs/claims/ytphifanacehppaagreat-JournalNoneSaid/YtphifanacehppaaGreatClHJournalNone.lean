/- JournalNone: a journal that is none says nothing; there is none over a flash that has none. No condition. -/
import Derived.Test.YtphifanacehppaaGreatCmR
import Derived.Test.YtphifanacehppaaGreatCmA
import Derived.Test.YtphifanacehppaaGreatCmQ
/- JournalNone: a journal that is none says nothing; there is none over a flash that has none. No condition. -/
namespace Go.Proofs.YtphifanacehppaaGreat.journalNone
open Go Go.RowKit Go.Proofs.YtphifanacehppaaGreat.journal Go.Proofs.YtphifanacehppaaGreat.geom Go.Proofs.YtphifanacehppaaGreat.flash Go.Proofs.YtphifanacehppaaGreat.journalPlays
set_option linter.unusedVariables false

theorem first_said {g : Geo} (hr : g.Right) {s : Nat} (hs : s ≤ 1) : said (drive.first g) g s = Part.zero := by
  have hb := drive.right_bounds hr
  unfold said
  refine scan_none (readN_ones (.inr ?_))
  unfold sec
  rw [drive.span_getD _ _ _ _ (by omega)]
  show (List.replicate (g.sectors.toNat * g.sector.toNat) 4294967295).getD _ 0 = _
  have h1 : 11 * g.sector.toNat ≤ g.sectors.toNat * g.sector.toNat := Nat.mul_le_mul_right _ (by omega)
  have h2 : drive.addr g s 0 + 0 < g.sectors.toNat * g.sector.toNat := by
    unfold drive.addr
    have : s = 0 ∨ s = 1 := by omega
    rcases this with rfl | rfl
    · simp; omega
    · simp; omega
  rw [List.getD_eq_getElem?_getD, List.getElem?_replicate, if_pos h2]
  rfl
theorem first_open {g : Geo} (hr : g.Right) : openV (drive.first g) g = none := by
  unfold openV
  rw [if_pos ⟨by rw [first_said hr (Nat.zero_le _)]; rfl, by rw [first_said hr (Nat.le_refl _)]; rfl⟩]
theorem acts_one (p : JAct) (w : World) : JActs (w.alloc (.cells #[.int .i64 p.k, .int .i64 p.n, .slice p.l p.lLen p.lCap, .slice p.v p.vLen p.vCap] 40)) (some ⟨w.heap.size, 0, none⟩) [p] := by
  have hB := Block.new w 40 [.int .i64 p.k, .int .i64 p.n, .slice p.l p.lLen p.lCap, .slice p.v p.vLen p.vCap]
  refine .inr ⟨_, _, rfl, hB.lt, fun i q hq => ?_⟩
  have hi : i = 0 := by
    have := (List.getElem?_eq_some_iff.1 hq).1
    simp at this; omega
  subst hi
  obtain rfl : p = q := by simpa using hq
  exact ⟨hB.cell 0, hB.cell 1, hB.cell 2, hB.cell 3⟩
theorem big_one (p : JAct) : bigL [p] = bigA p := by
  unfold bigL
  simp
/-- both boxes -/
theorem boxes (g : Geo) (p : JAct) (w : World) : ∃ w0, Hid (((w.alloc (.cells #[.int .i64 g.sector, .int .i64 g.slot, .int .i64 g.data, .int .i64 g.quota, .int .i64 g.tries, .int .i64 g.life] 23))).alloc (.cells #[.int .i64 p.k, .int .i64 p.n, .slice p.l p.lLen p.lCap, .slice p.v p.vLen p.vCap] 40) = w0) ∧
    Hid (∀ w', Below w0.heap.size w0 w' → Below w.heap.size w w') ∧ Hid (∀ w', Below w0.heap.size w0 w' → (w'.cell? ⟨w.heap.size, 0, none⟩ = some (.int .i64 g.sector) ∧ w'.cell? ⟨w.heap.size, 1, none⟩ = some (.int .i64 g.slot) ∧ w'.cell? ⟨w.heap.size, 2, none⟩ = some (.int .i64 g.data) ∧ w'.cell? ⟨w.heap.size, 3, none⟩ = some (.int .i64 g.quota) ∧ w'.cell? ⟨w.heap.size, 4, none⟩ = some (.int .i64 g.tries) ∧ w'.cell? ⟨w.heap.size, 5, none⟩ = some (.int .i64 g.life))) ∧ Hid (∀ w', Below w0.heap.size w0 w' → w'.cell? ⟨w.heap.size + 1, 0, none⟩ = some (.int .i64 p.k) ∧ w'.cell? ⟨w.heap.size + 1, 1, none⟩ = some (.int .i64 p.n) ∧ w'.cell? ⟨w.heap.size + 1, 2, none⟩ = some (.slice p.l p.lLen p.lCap) ∧ w'.cell? ⟨w.heap.size + 1, 3, none⟩ = some (.slice p.v p.vLen p.vCap)) := by
  have hb1 : Below w.heap.size w (w.alloc (.cells #[.int .i64 g.sector, .int .i64 g.slot, .int .i64 g.data, .int .i64 g.quota, .int .i64 g.tries, .int .i64 g.life] 23)) := (Below.refl _ _).alloc (Nat.le_refl _) _
  have hb2 : Below ((w.alloc (.cells #[.int .i64 g.sector, .int .i64 g.slot, .int .i64 g.data, .int .i64 g.quota, .int .i64 g.tries, .int .i64 g.life] 23))).heap.size (w.alloc (.cells #[.int .i64 g.sector, .int .i64 g.slot, .int .i64 g.data, .int .i64 g.quota, .int .i64 g.tries, .int .i64 g.life] 23)) (((w.alloc (.cells #[.int .i64 g.sector, .int .i64 g.slot, .int .i64 g.data, .int .i64 g.quota, .int .i64 g.tries, .int .i64 g.life] 23))).alloc (.cells #[.int .i64 p.k, .int .i64 p.n, .slice p.l p.lLen p.lCap, .slice p.v p.vLen p.vCap] 40)) := (Below.refl _ _).alloc (Nat.le_refl _) _
  refine ⟨_, hid rfl, hid fun w' hb => (hb1.trans (hb2.mono hb1.size)).trans (hb.mono (Nat.le_trans hb1.size hb2.size)), hid fun w' hb => six g w w' (hb2.trans (hb.mono hb2.size)), hid fun w' hb => ?_⟩
  have hB := (Block.new (w.alloc (.cells #[.int .i64 g.sector, .int .i64 g.slot, .int .i64 g.data, .int .i64 g.quota, .int .i64 g.tries, .int .i64 g.life] 23)) 40 [.int .i64 p.k, .int .i64 p.n, .slice p.l p.lLen p.lCap, .slice p.v p.vLen p.vCap]).later hb
  rw [show ((w.alloc (.cells #[.int .i64 g.sector, .int .i64 g.slot, .int .i64 g.data, .int .i64 g.quota, .int .i64 g.tries, .int .i64 g.life] 23))).heap.size = w.heap.size + 1 by simp] at hB
  exact ⟨hB.cell 0, hB.cell 1, hB.cell 2, hB.cell 3⟩
set_option maxHeartbeats 4000000 in
set_option maxRecDepth 20000 in
/-- where the awake function decides -/
theorem walk_awake (g : Geo) (p : JAct) (w : World) (h : ¬ drive.Small g ∨ (drive.Small g ∧ bigA p = true)) : Calls Tryz.prog 5 #[.agg #[.int .i64 g.sector, .int .i64 g.slot, .int .i64 g.data, .int .i64 g.quota, .int .i64 g.tries, .int .i64 g.life], p.val] w (Yes w) := by
  obtain ⟨w0, hw0, HB, HS, HA⟩ := boxes g p w
  have hb0 : Below w0.heap.size w0 w0 := Below.refl _ _
  have ca := fun w' hb => awake_at w0 w' hb
  have hk0 := HS.out w0 hb0
  rcases h with h | ⟨h, h1⟩
  · have cs := small_from g false (hid ⟨fun k => (by cases k), fun k => absurd k h⟩) w0 w0 hb0
    clear h
    unfold JAct.val
    go_enter Tryz.func5, Tryz.ntmps5
    go_wp2_with fail
    rw [hw0.out]
    go_wp2_with (first
      | (go_at_call 6; (with_reducible refine cs.mono ?_); rintro e w1 ⟨rfl, hb1⟩; have hk1 := HS.out w1 hb1; have ha1 := HA.out w1 hb1)
      | (go_at_call 8; (with_reducible refine (ca _ hb1).mono ?_); rintro e w2 ⟨rfl, hb2⟩))
    go_ret
    exact ⟨rfl, HB.out _ hb2⟩
  · have cs := small_from g true (hid ⟨fun _ => h, fun _ => rfl⟩) w0 w0 hb0
    have cg : ∀ w1 : World, Calls Tryz.prog 7 #[.slice (some ⟨w1.heap.size, 0, none⟩) 1 1] (w1.alloc (.cells #[.int .i64 p.k, .int .i64 p.n, .slice p.l p.lLen p.lCap, .slice p.v p.vLen p.vCap] 40)) (Quiet (.bool true) (w1.alloc (.cells #[.int .i64 p.k, .int .i64 p.n, .slice p.l p.lLen p.lCap, .slice p.v p.vLen p.vCap] 40))) := fun w1 => by
      have := great_any (some ⟨w1.heap.size, 0, none⟩) 1 [p] _ (acts_one p w1) (by unfold maxLen; simp)
      rwa [big_one, h1] at this
    clear h h1
    unfold JAct.val
    go_enter Tryz.func5, Tryz.ntmps5
    go_wp2_with fail
    rw [hw0.out]
    go_wp2_with (first
      | (go_at_call 6; (with_reducible refine cs.mono ?_); rintro e w1 ⟨rfl, hb1⟩; have hk1 := HS.out w1 hb1; obtain ⟨q0, q1, q2, q3⟩ := HA.out w1 hb1)
      | (go_at_call 7; (with_reducible refine (cg _).mono ?_); rintro e w2 ⟨rfl, m, rfl⟩; have hb2 := below_drewN (hb1.alloc hb1.size (.cells #[.int .i64 p.k, .int .i64 p.n, .slice p.l p.lLen p.lCap, .slice p.v p.vLen p.vCap] 40)) m)
      | (go_at_call 8; (with_reducible refine (ca _ hb2).mono ?_); rintro e w3 ⟨rfl, hb3⟩))
    go_ret
    exact ⟨rfl, HB.out _ hb3⟩
set_option maxHeartbeats 8000000 in
set_option maxRecDepth 20000 in
theorem walk_main (g : Geo) (p : JAct) (w : World) (hsm : drive.Small g) (hbig : bigA p = false) : Calls Tryz.prog 5 #[.agg #[.int .i64 g.sector, .int .i64 g.slot, .int .i64 g.data, .int .i64 g.quota, .int .i64 g.tries, .int .i64 g.life], p.val] w (Yes w) := by
  obtain ⟨w0, hw0, HB, HS, HA⟩ := boxes g p w
  have hb0 : Below w0.heap.size w0 w0 := Below.refl _ _
  have ca := fun w' hb => awake_at w0 w' hb
  have hk0 := HS.out w0 hb0
  have cs := small_from g true (hid ⟨fun _ => hsm, fun _ => rfl⟩) w0 w0 hb0
  have cg : ∀ w1 : World, Calls Tryz.prog 7 #[.slice (some ⟨w1.heap.size, 0, none⟩) 1 1] (w1.alloc (.cells #[.int .i64 p.k, .int .i64 p.n, .slice p.l p.lLen p.lCap, .slice p.v p.vLen p.vCap] 40)) (Quiet (.bool false) (w1.alloc (.cells #[.int .i64 p.k, .int .i64 p.n, .slice p.l p.lLen p.lCap, .slice p.v p.vLen p.vCap] 40))) := fun w1 => by
    have := great_any (some ⟨w1.heap.size, 0, none⟩) 1 [p] _ (acts_one p w1) (by unfold maxLen; simp)
    rwa [big_one, hbig] at this
  have hr := hsm.1
  have hrb := drive.right_bounds hr
  have ft1 := drive.first_fit hr
  have ok1 := drive.first_ok hr
  have ho := first_open hr
  have cm := fun w1 (hb : Below w0.heap.size w0 w1) => drive.map_this g g.sectors.toNat (by omega) w0 w1 hb
  have cf : ∀ w', Below w0.heap.size w0 w' → Calls Tryz.prog 28 #[.int .i64 (g.sectors.toNat : Nat), .int .i64 g.sector] w' fun e w' => ∃ b, e = .returned (.tuple #[.pointer (some ⟨b, 0, none⟩), .int .i64 0]) ∧ Live w0 b (drive.first g) w' := fun w' hb => by
    have := drive.flash_own hr hb
    rwa [show g.sectors = ((g.sectors.toNat : Nat) : Int) by omega] at this
  have cd : ∀ b w', Live w0 b (drive.first g) w' → Calls Tryz.prog 30 #[.pointer (some ⟨b, 0, none⟩), .agg #[.int .i64 g.sector, .int .i64 g.slot, .int .i64 g.data, .int .i64 g.quota, .int .i64 g.tries, .int .i64 g.life]] w' fun e w' => ∃ d, e = .returned (.tuple #[.pointer (some ⟨d, 0, none⟩), .int .i64 0]) ∧ drive.Own w0 d b g (drive.first g) w' := fun b w' h => drive.new_own h ft1
  have co : ∀ d b w', drive.Own w0 d b g (drive.first g) w' → Calls Tryz.prog 16 #[.pointer (some ⟨d, 0, none⟩)] w' fun o w2 => o = .returned (.tuple #[.pointer none, .int .i64 8]) ∧ Below w0.heap.size w0 w2 := fun d b w' h => by
    obtain ⟨S, h1, h2, h3, h4⟩ := h
    have := open_this h1 (fun x hx => (h2 x hx).2) ⟨ok1, ft1⟩ rfl
    rw [ho] at this
    exact this.mono fun o w2 ⟨k1, k2⟩ => ⟨k1, h4.trans (k2.mono h4.size)⟩
  clear hsm hbig hr hrb ft1 ok1 ho
  generalize hM : g.sectors.toNat = M at *
  clear hM
  unfold JAct.val
  go_enter Tryz.func5, Tryz.ntmps5
  go_wp2_with fail
  rw [hw0.out]
  go_wp2_with (first
    | (go_at_call 6; (with_reducible refine cs.mono ?_); rintro e w1 ⟨rfl, hb1⟩; have hk1 := HS.out w1 hb1; obtain ⟨q0, q1, q2, q3⟩ := HA.out w1 hb1)
    | (go_at_call 7; (with_reducible refine (cg _).mono ?_); rintro e w2 ⟨rfl, m2, rfl⟩; clear cg; have hbq := hb1.alloc hb1.size (.cells #[.int .i64 p.k, .int .i64 p.n, .slice p.l p.lLen p.lCap, .slice p.v p.vLen p.vCap] 40); generalize (w1.alloc (.cells #[.int .i64 p.k, .int .i64 p.n, .slice p.l p.lLen p.lCap, .slice p.v p.vLen p.vCap] 40)) = wq at *; clear q0 q1 q2 q3 hk1; obtain ⟨q0, q1, q2, q3⟩ := HA.out _ hbq; have hb2 := below_drewN hbq m2)
    | (go_at_call 25; (with_reducible refine (place_none _).mono ?_); rintro e w3 ⟨rfl, m3, rfl⟩)
    | (go_at_call 17; (with_reducible refine (seq_none _).mono ?_); rintro e w4 ⟨rfl, m4, rfl⟩)
    | (go_at_call 19; (with_reducible refine (whole_none _).mono ?_); rintro e w5 ⟨rfl, m5, rfl⟩)
    | (go_at_call 21; (with_reducible refine (changes_none _).mono ?_); rintro e w6 ⟨rfl, m6, rfl⟩)
    | (go_at_call 23; (with_reducible refine (torn_none _).mono ?_); rintro e w7 ⟨rfl, m7, rfl⟩; have hb7 : Below w0.heap.size w0 (wq.drewN (m2 + m3 + m4 + m5 + m6 + m7)) := below_drewN hbq _)
    | (go_at_call 26; (with_reducible refine (change_none _ _ _ _ _ _ _).mono ?_); rintro e w8 ⟨rfl, hb8⟩; have hb8' := hb7.trans (hb8.mono hb7.size); obtain ⟨s0, s1, s2, s3⟩ := HA.out _ hb8')
    | (go_at_call 27; (with_reducible refine (put_none _ _ _ _).mono ?_); rintro e w9 ⟨rfl, hb9⟩; have hb9' := hb8'.trans (hb9.mono hb8'.size); obtain ⟨t0, t1, t2, t3⟩ := HA.out _ hb9')
    | (go_at_call 22; (with_reducible refine (mend_none _ _ _ _).mono ?_); rintro e w10 ⟨rfl, hb10⟩; have hb10' := hb9'.trans (hb10.mono hb9'.size)))
  have hbA : Below w0.heap.size w0 w10.drew := below_drewN hb10' 1
  have k1 := HS.out _ hbA
  have cmA := cm _ hbA
  go_region_held3 (fun w' => (w'.cell? ⟨w.heap.size, 0, none⟩ = some (.int .i64 g.sector) ∧ w'.cell? ⟨w.heap.size, 1, none⟩ = some (.int .i64 g.slot) ∧ w'.cell? ⟨w.heap.size, 2, none⟩ = some (.int .i64 g.data) ∧ w'.cell? ⟨w.heap.size, 3, none⟩ = some (.int .i64 g.quota) ∧ w'.cell? ⟨w.heap.size, 4, none⟩ = some (.int .i64 g.tries) ∧ w'.cell? ⟨w.heap.size, 5, none⟩ = some (.int .i64 g.life))) (first | assumption | go_keep) (first
    | (go_at_call 29; (with_reducible refine cmA.mono ?_); rintro o wa ⟨ma, mc, rfl, hba⟩; have k2 := HS.out _ hba)
    | (go_at_call 28; (with_reducible refine (cf _ hba).mono ?_); rintro o wb ⟨b, rfl, hlb⟩; have k3 := HS.out _ hlb.below))
  clear cm cmA hba k1 k2
  go_wp2_with (first
    | (go_at_call 30; (with_reducible refine (cd _ _ hlb).mono ?_); rintro o wc ⟨d, rfl, hoc⟩)
    | (go_at_call 16; (first | ((with_reducible refine (co _ _ _ hoc).mono ?_); rintro o wd ⟨rfl, hbd⟩; obtain ⟨u0, u1, u2, u3⟩ := HA.out _ hbd) | ((with_reducible refine (open_none _).mono ?_); rintro o wf ⟨rfl, mf, rfl⟩; have hbf : Below w0.heap.size w0 (wd.drewN (me + mf)) := below_drewN hbd _)))
    | (go_at_call 31; (with_reducible refine (new_none _ _ _ _).mono ?_); rintro o we ⟨rfl, me, rfl⟩)
    | (go_at_call 8; (with_reducible refine (ca _ hbf).mono ?_); rintro e wg ⟨rfl, hbg⟩))
  go_ret
  exact ⟨rfl, HB.out _ hbg⟩
theorem walk (g : Geo) (p : JAct) (w : World) (hg : g.Fits) (hp : p.Good w) : Calls Tryz.prog 5 #[.agg #[.int .i64 g.sector, .int .i64 g.slot, .int .i64 g.data, .int .i64 g.quota, .int .i64 g.tries, .int .i64 g.life], p.val] w (Yes w) := by
  have hd : drive.Small g ∨ ¬ drive.Small g := Classical.em _
  rcases hd with hs | hs
  · cases hb : bigA p with
    | true => exact walk_awake g p w (.inr ⟨hs, hb⟩)
    | false => exact walk_main g p w hs hb
  · exact walk_awake g p w (.inl hs)
end Go.Proofs.YtphifanacehppaaGreat.journalNone
/- JournalNone: a journal that is none says nothing; there is none over a flash that has none. No condition. -/
namespace Go.Proofs.YtphifanacehppaaGreat.journalNone
open Go.ChangeShapes Go.WideShapes Go.ChangeAt Go.RowKit Go.Proofs.YtphifanacehppaaGreat.geom Go.Proofs.YtphifanacehppaaGreat.journal
open Go.ChangeMaps (open_string shut_string)
set_option linter.unusedVariables false
set_option maxRecDepth 100000 in
theorem lifted (os : Os) (started : os.Started) (H : Type) (enc : TypeId × Value → H) :
    ReturnsInHanded {} Tryz.checked os 5 .any (Rows.journalNoneSpec.pre6 enc Tryz.prog Tryz.f5 Rows.journalNoneRow.domain false) (Rows.journalNoneSpec.post enc Tryz.prog Tryz.f5 false true false false) := by
  refine returnsInHanded_of_change_sized (C := Tryz.checked) own started (by kernel_rfl) Tryz.func5
    (ChangeSpec.witness6 (enc := enc) (C := Tryz.checked) false ⟨#[], #[.agg #[.int .i64 0, .int .i64 0, .int .i64 0, .int .i64 0, .int .i64 0, .int .i64 0], .agg #[.int .i64 0, .int .i64 0, .slice none 0 0, .slice none 0 0]], []⟩ 8 (by kernel_rfl) (by kernel_rfl) (by kernel_rfl) (by kernel_rfl)) ?_
  intro W base args ds gs before hval0 hW hcnd hsz0 _
  have hsz : (DataW.weightsEach Tryz.prog (Tryz.f5.params.toList ++ Rows.journalNoneSpec.plain.varTypes Tryz.prog) (ds ++ gs)).all (· ≤ reachBytes) = true := hsz0
  clear hsz0
  have hval : ∀ (j : Nat) t v, Tryz.f5.params[j]? = some t → args[j]? = some v → Value.okWide Tryz.prog W .any base t v := hval0
  have hW' := hW
  obtain ⟨p, q, hA0, hV, rfl, hfz, hnd⟩ := hW
  have hA : DataW.TrodAll enc Tryz.prog W 0 (fun _ => true) true Tryz.f5.params.toList args.toList ds p := hA0
  rw [Tryz.params5] at hA hval hsz
  obtain ⟨v0, vs0, d0, ds0, p0, q0, hargs, rfl, rfl, h0, r0⟩ := trodAll_cons hA
  obtain ⟨v1, vs1, d1, ds1, p1, q1, rfl, rfl, rfl, h1, r1⟩ := trodAll_cons r0
  obtain ⟨rfl, rfl, rfl⟩ := trodAll_nil r1
  obtain rfl : args = #[v0, v1] := by cases args; simp_all
  obtain ⟨rfl, rfl⟩ := trodVars_none hV
  have k0 := h0
  have lt0 : ∀ x ∈ p0, x.block < W.heap.size := by obtain ⟨m, hm⟩ := k0; exact DataW.trod_lt m _ _ _ hm
  obtain ⟨pc0, fp0, rfl⟩ := open_geo_arg Tryz.underlying23 (by kernel_rfl) (by kernel_rfl) (fun f hf => by simp only [List.mem_cons, List.not_mem_nil, or_false] at hf; rcases hf with rfl | rfl | rfl | rfl | rfl | rfl <;> exact Tryz.underlying3) (hval 0 23 v0 rfl rfl) h0
  have k1 := h1
  have lt1 : ∀ x ∈ p1, x.block < W.heap.size := by obtain ⟨m, hm⟩ := k1; exact DataW.trod_lt m _ _ _ hm
  obtain ⟨pc1, fp1, rfl⟩ := open_JAct_arg Tryz.underlying40 (by kernel_rfl) (by kernel_rfl) (by kernel_rfl) (by kernel_rfl) Tryz.underlying24 Tryz.underlying43 (by kernel_rfl) Tryz.underlying24 Tryz.underlying43 (by kernel_rfl) (hval 1 40 v1 rfl rfl) h1
  clear hA0 hval0
  refine (walk pc0 pc1 W fp0 fp1).mono fun e W' ⟨he, bel⟩ => ?_
  subst he
  exact ⟨_, rfl, _, _, _, [], _, [], hW', trodAll_mk1 (shut_bool Tryz.underlying4 _), (trodAll_cons_mk (Below.trod laidOut (by kernel_rfl) (of_decide_eq_true (by kernel_rfl)) k0 bel lt0) (trodAll_cons_mk (Below.trod laidOut (by kernel_rfl) (of_decide_eq_true (by kernel_rfl)) k1 bel lt1) trodAll_mk0)), rfl, bel.frame _, fun h => by cases h⟩

theorem holds : Rows.JournalNoneSaid :=
  OpenClaim.holds_of_wide 5 Tryz.f5 rfl rfl rfl rfl rfl rfl rfl ⟨rfl, rfl, rfl, rfl, rfl⟩ rfl rfl rfl rfl rfl (by kernel_rfl) Tryz.func5 (by kernel_rfl)
    (of_decide_eq_true (by kernel_rfl)) (by unfold Func.isWrapper; first | (rw [if_pos (by decide +kernel)]; kernel_rfl) | (rw [if_neg (by decide +kernel)]; exact ⟨rfl, rfl⟩))
    (fun os started H enc _ => lifted os started H enc)
#print axioms holds
end Go.Proofs.YtphifanacehppaaGreat.journalNone
