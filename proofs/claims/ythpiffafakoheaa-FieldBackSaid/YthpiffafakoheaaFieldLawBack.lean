/- FieldBack: a written value is read as it was, whatever stands behind it, and what is read has the bytes that were read. No condition. -/
import Derived.Test.YthpiffafakoheaaFieldAppend
import Derived.Conc.WalkWords
namespace Go.Proofs.Ythpiffafakoheaa.fieldBack
open Go Go.RowKit Go.Proofs.Ythpiffafakoheaa.field Go.Proofs.Ythpiffafakoheaa.cut
set_option linter.unusedVariables false

theorem lay_case (f : field.Fd) (v : Va) (w : World) (xs : List Nat) (E : Int) (h1 : f.layB v = xs) (h2 : f.layE v = E) : Calls Try.prog 18 #[.agg #[.int .i64 f.id, .int .i64 f.kind, .int .i64 f.lo, .int .i64 f.hi, .int .i64 f.most], .agg #[.int .i64 v.n, .string v.s]] w (LaysAs xs E w) := by rw [← h1, ← h2]; exact lay_any f v w
theorem lay_back (f : field.Fd) (n : Int) (Z : ByteArray) (ys : List Nat) (k : Nat) (h : f.Has ⟨n, Z⟩) (hl : f.layB ⟨n, Z⟩ = ys) (hk : ys.length = k) (w : World) : Calls Try.prog 18 #[.agg #[.int .i64 f.id, .int .i64 f.kind, .int .i64 f.lo, .int .i64 f.hi, .int .i64 f.most], .agg #[.int .i64 n, .string Z]] w fun e w' => ∃ u, e = .returned (.tuple #[u, .int .i64 0]) ∧ w'.ownsRow w.heap.size 5 1 u k (u8v ys) ∧ Below w.heap.size w w' := by
  have hE : f.layE ⟨n, Z⟩ = 0 := by unfold Fd.layE; rw [if_neg (show ¬¬ f.Right from fun k => k h.1), if_neg (show ¬¬ f.Has _ from fun k => k h)]
  subst hk
  exact lay_case f ⟨n, Z⟩ w ys 0 hl hE
theorem has_back (f : field.Fd) (n : Int) (Z : ByteArray) (h : f.Has ⟨n, Z⟩) (w : World) : Calls Try.prog 9 #[.agg #[.int .i64 f.id, .int .i64 f.kind, .int .i64 f.lo, .int .i64 f.hi, .int .i64 f.most], .agg #[.int .i64 n, .string Z]] w (Gives (.bool true) w) := by
  rw [← decide_eq_true h]; exact has_any f ⟨n, Z⟩ w
theorem take_case (f : field.Fd) (a : Option Addr) (len cap : Nat) (xs : List Nat) (w0 : World) (hr : Reads .u8 w0 a len xs) (hx : ∀ x ∈ xs, x < 256) (hc : len ≤ cap) (hm : cap ≤ 9223372036854775807) (n : Int) (s : List Nat) (c : Nat) (E : Int) (h : f.take xs = ⟨n, s, c, E⟩) (w : World) (hb : Below w0.heap.size w0 w) :
    Calls Try.prog 19 #[.agg #[.int .i64 f.id, .int .i64 f.kind, .int .i64 f.lo, .int .i64 f.hi, .int .i64 f.most], .slice a len cap] w fun e w' => e = .returned (.tuple #[.agg #[.int .i64 n, .string (strOf s)], .int .i64 (c : Int), .int .i64 E]) ∧ Below w.heap.size w w' := by
  have k := take_any f a len cap xs w (hr.below hb) hx hc hm
  rw [h] at k
  exact k
set_option maxRecDepth 20000 in
set_option maxHeartbeats 16000000 in
theorem walk0 (f : field.Fd) (v : Va) (a : Option Addr) (len cap : Nat) (xs : List Nat) (w : World) (hr : Reads .u8 w a len xs) (hx : ∀ x ∈ xs, x < 256) (hc : len ≤ cap) (hm : cap ≤ 140737488351232) :
    Calls Try.prog 5 #[.agg #[.int .i64 f.id, .int .i64 f.kind, .int .i64 f.lo, .int .i64 f.hi, .int .i64 f.most], .agg #[.int .i64 v.n, .string v.s], .slice a len cap] w (Yes w) := by
  have HW := hid (WV.all f v w)
  have HBF : Hid (Block (WV f v w) w.heap.size 23 [.int .i64 f.id, .int .i64 f.kind, .int .i64 f.lo, .int .i64 f.hi, .int .i64 f.most]) := hid ((Block.new w 23 [.int .i64 f.id, .int .i64 f.kind, .int .i64 f.lo, .int .i64 f.hi, .int .i64 f.most]).alloc _)
  have HLF := info_field
  have HLV := info_val
  have hlen := hr.1
  unfold Yes
  obtain ⟨⟨tn, ts, tc, te⟩, hT⟩ : ∃ T, f.take xs = T := ⟨_, rfl⟩
  have ct := fun W hb => take_case f a len cap xs w hr hx hc (by omega) tn ts tc te hT W hb
  have HLT : Hid (te = 0 → f.Has ⟨tn, strOf ts⟩ ∧ tc ≤ xs.length ∧ f.layB ⟨tn, strOf ts⟩ = xs.take tc) := hid (by
    intro h0
    have k := Fd.lay_take (f := f) hx (by rw [hT]; exact h0)
    rw [hT] at k
    exact k)
  have HLEN : Hid (len ≤ 140737488351232) := hid (by omega)
  by_cases hh : f.Has v
  · have hE : f.layE v = 0 := by unfold Fd.layE; rw [if_neg (show ¬¬ f.Right from fun k => k hh.1), if_neg (show ¬¬ f.Has v from fun k => k hh)]
    have cl := lay_case f v (WV f v w) (f.layB v) 0 rfl hE
    obtain ⟨htl, hsl⟩ := Fd.take_lay hh xs
    have HSZ : Hid (¬ ((f.layB v).length : Int) > (f.size : Int)) := hid (by omega)
    have HL64 : Hid ((f.layB v).length ≤ 64) := hid (by have := f.size_le; omega)
    have HTL : Hid (∀ (a3 : Option Addr) (c3 : Nat) (w' : World), Reads .u8 w' a3 (f.layB v ++ xs).length (f.layB v ++ xs) → (f.layB v ++ xs).length ≤ c3 → c3 ≤ 9223372036854775807 →
        Calls Try.prog 19 #[.agg #[.int .i64 f.id, .int .i64 f.kind, .int .i64 f.lo, .int .i64 f.hi, .int .i64 f.most], .slice a3 (f.layB v ++ xs).length c3] w' fun e w2 => e = .returned (.tuple #[.agg #[.int .i64 v.n, .string v.s], .int .i64 ((f.layB v).length : Int), .int .i64 0]) ∧ Below w'.heap.size w' w2) := hid (by
      intro a3 c3 w' k1 k2 k3
      have k := take_case f a3 _ c3 (f.layB v ++ xs) w' k1 (fun x hm => by rcases List.mem_append.1 hm with h | h; exact f.layB_lt v x h; exact hx x h) k2 k3 _ _ _ _ htl w' (Below.refl _ _)
      rw [strOf_bytes] at k
      exact k)
    clear hE hh htl hsl hT hx hm
    generalize f.layB v = L at *
    generalize strOf ts = Z at *
    have HI := hid (val_info tn Z)
    have HO := hid (val_one tn Z)
    unfold WV at HW cl HBF
    unfold LaysAs at cl
    by_cases hte : te = 0
    · obtain rfl : te = 0 := hte
      obtain ⟨hH, hC, hL2⟩ := HLT.out rfl
      have cl2 := fun W => lay_back f tn Z (xs.take tc) tc hH hL2 (by rw [List.length_take]; omega) W
      have ch2 := fun W => has_back f tn Z hH W
      have HTL2 : Hid (tc ≤ len) := hid (by omega)
      have HTC : Hid (tc ≤ cap) := hid (by omega)
      have HGT : Hid (¬ (tc : Int) > (len : Int)) := hid (by omega)
      clear hH hC hL2
      go_enter Try.func5, Try.ntmps5
      go_wp2_with (first
        | (go_at_call 18; (with_reducible refine cl.mono ?_); rintro e w1 ⟨u, rfl, ho, hb1⟩; obtain ⟨ua, uc, rfl, _⟩ := ownsRow_slice ho; obtain ⟨hf1, hv1, hbw1⟩ := HW.out _ hb1))
      have hbd := below_drew hb1
      have hbf := HBF.out.later hbd
      have hrx : Reads .u8 w1.drew ua L.length L := (Reads.own (xs := L) ho).drewN 1
      have hmore : Reads .u8 w1.drew a len xs := hr.below (below_drew hbw1)
      refine plan.region (by kernel_rfl) ?_
      refine plan.Rest.first 0 _ (.agg #[.int .i64 f.id, .int .i64 f.kind, .int .i64 f.lo, .int .i64 f.hi, .int .i64 f.most]) rfl (by kernel_rfl) (by kernel_rfl) (by kernel_rfl) (by kernel_rfl) (fun w' hb' => plan.exec_load rfl (by kernel_rfl) (hbf.later hb').whole Try.underlying23 rfl HLF.out) ?_
      refine plan.Rest.first 1 _ (.slice ua L.length uc) rfl (by kernel_rfl) (by kernel_rfl) (by kernel_rfl) (by kernel_rfl) (fun w' hb' => (by kernel_rfl)) ?_
      refine plan.Rest.first 3 _ (.slice a len cap) rfl (by kernel_rfl) (by kernel_rfl) (by kernel_rfl) (by kernel_rfl) (fun w' hb' => (by kernel_rfl)) ?_
      unfold plan.Rest
      refine plan.toS 28 30 31 9 7 (fun p q r s => #[true, true, p, true, q, r, false, false, false, false, s, false, false, false]) (by kernel_rfl) (by kernel_rfl) (by kernel_rfl) ?_
      refine plan.drift _ _ 2 4 5 10 28 30 31 9 7 (by decide) (by decide) (by decide) (by decide) (by decide) (by decide) _ _ _ _ (fun p q r s => #[true, true, p, true, q, r, false, false, false, false, s, false, false, false])
        rfl rfl rfl rfl rfl rfl rfl rfl rfl rfl rfl rfl (fun _ _ _ => rfl) (fun _ _ _ => rfl) (fun _ _ _ => rfl) (fun _ _ _ => rfl) (by kernel_rfl) (by kernel_rfl) (by kernel_rfl) (by kernel_rfl) (by kernel_rfl) (by kernel_rfl)
        (OwnB w1.drew.heap.size L) (OwnB w1.drew.heap.size (L ++ xs)) (fun x _ => x = .tuple #[.agg #[.int .i64 v.n, .string v.s], .int .i64 (L.length : Int), .int .i64 0]) (fun z g => z.ownBlock ≠ some g) 25 [.int .i64 0, .string ⟨#[]⟩]
        ?r1 ?rB ?t1 ?r2 ?t2 ?rC ?rest ?late undef undef undef undef
      case r1 => exact fun u0 v0 x0 y0 w' hb' => first_append (ap := ua) (m := L.length) (c := uc) rfl (by kernel_rfl) (by kernel_rfl) hrx HL64.out hb'
      case rB => exact fun u0 v0 x0 y0 w' => (by kernel_rfl)
      case t1 => exact fun z w' h => ⟨h.later (newB _ _), fun hk => by have := (h.2 _ hk).2; omega⟩
      case r2 => exact fun z v0 x0 y0 w' hb' h1 => next_append (ap := a) (m := len) (c := cap) rfl (by kernel_rfl) (by kernel_rfl) hmore (by have := HL64.out; have := HLEN.out; omega) h1 hb'
      case t2 => exact fun z w' h => h.later (newB _ _)
      case rC =>
        intro z z2 x0 y0 w' hb' h2
        obtain ⟨a3, c3, rfl, k1, k2⟩ := own_form h2.1
        exact ⟨19, #[.agg #[.int .i64 f.id, .int .i64 f.kind, .int .i64 f.lo, .int .i64 f.hi, .int .i64 f.most], .slice a3 (L ++ xs).length c3], by kernel_rfl, (HTL.out a3 c3 w' (Reads.own (xs := L ++ xs) h2.1) k1 k2).mono fun e w2 ⟨he, hb2⟩ => ⟨_, he, hb2, rfl⟩⟩
      case rest =>
        rintro z z2 _ g w2 rfl hG hg hbs
        refine plan.freeS 6 _ (.tuple #[.agg #[.int .i64 v.n, .string v.s], .int .i64 (L.length : Int), .int .i64 0]) rfl (by kernel_rfl) (by kernel_rfl) (by kernel_rfl) (by kernel_rfl) (fun w' => (by kernel_rfl)) hbs ?_
        refine plan.freeS 7 _ (.agg #[.int .i64 v.n, .string v.s]) rfl (by kernel_rfl) (by kernel_rfl) (by kernel_rfl) (by kernel_rfl) (fun w' => (by kernel_rfl)) hbs ?_
        refine plan.freeS 8 _ (.int .i64 (L.length : Int)) rfl (by kernel_rfl) (by kernel_rfl) (by kernel_rfl) (by kernel_rfl) (fun w' => (by kernel_rfl)) hbs ?_
        refine plan.freeS 9 _ (.int .i64 0) rfl (by kernel_rfl) (by kernel_rfl) (by kernel_rfl) (by kernel_rfl) (fun w' => (by kernel_rfl)) hbs ?_
        refine plan.store _ 11 _ 25 (.tmp 9) (.tmp 32) g 25 [.int .i64 0, .string ⟨#[]⟩] #[.int .i64 v.n, .string v.s] rfl rfl rfl rfl (by kernel_rfl) (by kernel_rfl) (by kernel_rfl) hG rfl (val_info _ _) (val_one _ _) hbs hg ?_
        intro w3 hb3 hY _
        refine plan.freeS 12 _ (.int .i64 (L.length : Int)) rfl (by kernel_rfl) (by kernel_rfl) (by kernel_rfl) (by kernel_rfl) (fun w' => (by kernel_rfl)) hb3 ?_
        refine plan.freeS 13 _ (.int .i64 0) rfl (by kernel_rfl) (by kernel_rfl) (by kernel_rfl) (by kernel_rfl) (fun w' => (by kernel_rfl)) hb3 ?_
        refine plan.doneS (by kernel_rfl) ?_
        have hB3 := hbd.trans (hb3.mono hbd.size)
        obtain ⟨hf3, hv3, hbw3⟩ := HW.out _ hB3
        have hy3 : w3.cell? ⟨g, 0, none⟩ = some (.int .i64 v.n) ∧ w3.cell? ⟨g, 1, none⟩ = some (.string v.s) := ⟨hY.cell 0, hY.cell 1⟩
        simp only [plan.at4]
        walk_nrm
        have hsz := HSZ.out
        go_wp2_with (first
          | (go_at_call 13; (with_reducible refine (size_any f w3).mono ?_); rintro e w4 ⟨rfl, hb4⟩; have hB4 := hB3.trans (hb4.mono hB3.size); obtain ⟨hf4, hv4, hbw4⟩ := HW.out _ hB4)
          | (go_at_call 19; (with_reducible refine (ct w4 hbw4).mono ?_); rintro e w5 ⟨rfl, hb5⟩; have hB5 := hB4.trans (hb5.mono hB4.size); obtain ⟨hf5, hv5, hbw5⟩ := HW.out _ hB5; have hth5 := val_there (Block.new w5 25 [.int .i64 0, .string ⟨#[]⟩]) tn Z)
          | (with_reducible refine wpList_store_named rfl 25 (.tmp 12) (.tmp 58) rfl w5.heap.size 0 #[.int .i64 tn, .string Z] rfl rfl hth5 HI.out HO.out ?_))
        intro w6 hw6
        obtain ⟨hZ, hb6⟩ := val_stored (Block.new w5 25 [.int .i64 0, .string ⟨#[]⟩]) hw6 (Nat.le_refl _) (newB w5 _)
        have hB6 := hB5.trans (hb6.mono hB5.size)
        obtain ⟨hf6, hv6, hbw6⟩ := HW.out _ hB6
        have hz6 : w6.cell? ⟨w5.heap.size, 0, none⟩ = some (.int .i64 tn) ∧ w6.cell? ⟨w5.heap.size, 1, none⟩ = some (.string Z) := ⟨hZ.cell 0, hZ.cell 1⟩
        go_wp2_with (first
          | (go_at_call 18; (with_reducible refine (cl2 w6).mono ?_); rintro e w7 ⟨u7, rfl, ho7, hb7⟩; obtain ⟨ca2, cc2, rfl, _⟩ := ownsRow_slice ho7; have hB7 := hB6.trans (hb7.mono hB6.size); obtain ⟨hf7, hv7, hbw7⟩ := HW.out _ hB7))
        have hb := below_drew hB7
        have hbf := HBF.out.later hb
        have hbz := hZ.later (below_drew hb7)
        have hrc := (Reads.own (xs := xs.take tc) ho7).drewN 1
        have hrm := reads_take (cap := cap) (hr.below (below_drew hbw7)) (k := tc) HTL2.out
        refine plan.region (by kernel_rfl) ?_
        refine plan.Rest.first 0 _ (.int .i64 0) rfl (by kernel_rfl) (by kernel_rfl) (by kernel_rfl) (by kernel_rfl) (fun w' hb' => (by kernel_rfl)) ?_
        refine plan.Rest.first 1 _ (.bool false) rfl (by kernel_rfl) (by kernel_rfl) (by kernel_rfl) (by kernel_rfl) (fun w' hb' => (by kernel_rfl)) ?_
        refine plan.Rest.first 2 _ (.bool false) rfl (by kernel_rfl) (by kernel_rfl) (by kernel_rfl) (by kernel_rfl) (fun w' hb' => (by kernel_rfl)) ?_
        refine plan.Rest.first 3 _ (.int .i64 (tc : Int)) rfl (by kernel_rfl) (by kernel_rfl) (by kernel_rfl) (by kernel_rfl) (fun w' hb' => (by kernel_rfl)) ?_
        refine plan.Rest.first 4 _ (.bool false) rfl (by kernel_rfl) (by kernel_rfl) (by kernel_rfl) (by kernel_rfl) (fun w' hb' => exec_lss_no (n := (tc : Int)) (m := 0) rfl (by kernel_rfl) (by kernel_rfl) (by omega)) ?_
        refine plan.Rest.first 5 _ (.bool false) rfl (by kernel_rfl) (by kernel_rfl) (by kernel_rfl) (by kernel_rfl) (fun w' hb' => (by kernel_rfl)) ?_
        refine plan.Rest.first 6 _ (.bool false) rfl (by kernel_rfl) (by kernel_rfl) (by kernel_rfl) (by kernel_rfl) (fun w' hb' => (by kernel_rfl)) ?_
        refine plan.Rest.first 7 _ (.int .i64 (tc : Int)) rfl (by kernel_rfl) (by kernel_rfl) (by kernel_rfl) (by kernel_rfl) (fun w' hb' => (by kernel_rfl)) ?_
        refine plan.Rest.first 8 _ (.slice a len cap) rfl (by kernel_rfl) (by kernel_rfl) (by kernel_rfl) (by kernel_rfl) (fun w' hb' => (by kernel_rfl)) ?_
        refine plan.Rest.first 9 _ (.int .i64 (len : Int)) rfl (by kernel_rfl) (by kernel_rfl) (by kernel_rfl) (by kernel_rfl) (fun w' hb' => (by kernel_rfl)) ?_
        refine plan.Rest.first 10 _ (.bool false) rfl (by kernel_rfl) (by kernel_rfl) (by kernel_rfl) (by kernel_rfl) (fun w' hb' => exec_gtr_no (n := (tc : Int)) (m := (len : Int)) rfl (by kernel_rfl) (by kernel_rfl) (by have := HTL2.out; omega)) ?_
        refine plan.Rest.first 11 _ (.bool false) rfl (by kernel_rfl) (by kernel_rfl) (by kernel_rfl) (by kernel_rfl) (fun w' hb' => (by kernel_rfl)) ?_
        refine plan.Rest.first 12 _ (.bool false) rfl (by kernel_rfl) (by kernel_rfl) (by kernel_rfl) (by kernel_rfl) (fun w' hb' => (by kernel_rfl)) ?_
        refine plan.Rest.first 13 _ (.slice ca2 tc cc2) rfl (by kernel_rfl) (by kernel_rfl) (by kernel_rfl) (by kernel_rfl) (fun w' hb' => (by kernel_rfl)) ?_
        refine plan.Rest.first 14 _ (.string (strOf (xs.take tc))) rfl (by kernel_rfl) (by kernel_rfl) (by kernel_rfl) (by kernel_rfl) (fun w' hb' => plan.exec_convert (v := .slice ca2 tc cc2) rfl (by kernel_rfl) ((hrc.below hb').str (P := Try.prog) 33 5 Try.underlying33 Try.underlying5 cc2 9 Try.underlying9)) ?_
        refine plan.Rest.first 15 _ (.slice a len cap) rfl (by kernel_rfl) (by kernel_rfl) (by kernel_rfl) (by kernel_rfl) (fun w' hb' => (by kernel_rfl)) ?_
        refine plan.Rest.first 16 _ (.int .i64 (tc : Int)) rfl (by kernel_rfl) (by kernel_rfl) (by kernel_rfl) (by kernel_rfl) (fun w' hb' => (by kernel_rfl)) ?_
        refine plan.Rest.first 17 _ (.slice (cut.shift a 0 cap) tc cap) rfl (by kernel_rfl) (by kernel_rfl) (by kernel_rfl) (by kernel_rfl) (fun w' hb' => exec_slice_to (a := a) (len := len) (cap := cap) (k := tc) rfl (by kernel_rfl) (by kernel_rfl) HTC.out) ?_
        refine plan.Rest.first 18 _ (.string (strOf (xs.take tc))) rfl (by kernel_rfl) (by kernel_rfl) (by kernel_rfl) (by kernel_rfl) (fun w' hb' => plan.exec_convert (v := .slice (cut.shift a 0 cap) tc cap) rfl (by kernel_rfl) ((hrm.below hb').str (P := Try.prog) 33 5 Try.underlying33 Try.underlying5 cap 9 Try.underlying9)) ?_
        refine plan.Rest.first 19 _ (.bool false) rfl (by kernel_rfl) (by kernel_rfl) (by kernel_rfl) (by kernel_rfl) (fun w' hb' => exec_neq_str (s := strOf (xs.take tc)) rfl (by kernel_rfl) (by kernel_rfl)) ?_
        refine plan.Rest.first 20 _ (.bool false) rfl (by kernel_rfl) (by kernel_rfl) (by kernel_rfl) (by kernel_rfl) (fun w' hb' => (by kernel_rfl)) ?_
        refine plan.Rest.first 21 _ (.bool false) rfl (by kernel_rfl) (by kernel_rfl) (by kernel_rfl) (by kernel_rfl) (fun w' hb' => (by kernel_rfl)) ?_
        refine plan.Rest.first 22 _ (.agg #[.int .i64 f.id, .int .i64 f.kind, .int .i64 f.lo, .int .i64 f.hi, .int .i64 f.most]) rfl (by kernel_rfl) (by kernel_rfl) (by kernel_rfl) (by kernel_rfl) (fun w' hb' => plan.exec_load rfl (by kernel_rfl) (hbf.later hb').whole Try.underlying23 rfl HLF.out) ?_
        refine plan.Rest.first 23 _ (.agg #[.int .i64 tn, .string Z]) rfl (by kernel_rfl) (by kernel_rfl) (by kernel_rfl) (by kernel_rfl) (fun w' hb' => plan.exec_load rfl (by kernel_rfl) (hbz.later hb').whole Try.underlying25 rfl HLV.out) ?_
        refine plan.Rest.call 24 _ 9 #[.agg #[.int .i64 f.id, .int .i64 f.kind, .int .i64 f.lo, .int .i64 f.hi, .int .i64 f.most], .agg #[.int .i64 tn, .string Z]] rfl (by kernel_rfl) (by kernel_rfl) (by kernel_rfl) ((ch2 w7.drew).mono ?_)
        rintro e W1 ⟨rfl, hn⟩
        have hb := hb.trans (hn.mono hb.size)
        have hbf := hbf.later hn
        have hbz := hbz.later hn
        refine ⟨_, rfl, hn, ?_⟩
        refine plan.Rest.first 25 _ (.bool false) rfl (by kernel_rfl) (by kernel_rfl) (by kernel_rfl) (by kernel_rfl) (fun w' hb' => (by kernel_rfl)) ?_
        refine plan.Rest.first 26 _ (.bool false) rfl (by kernel_rfl) (by kernel_rfl) (by kernel_rfl) (by kernel_rfl) (fun w' hb' => (by kernel_rfl)) ?_
        refine plan.Rest.done (by kernel_rfl) ?_
        walk_nrm
        have hbwN := (HW.out _ hb).2.2
        go_wp2_with (first
          | (go_at_call 17; (with_reducible refine (awake_any _).mono ?_); rintro e w9 ⟨rfl, hb9⟩))
        go_ret
        exact ⟨rfl, hbwN.trans (hb9.mono hbwN.size)⟩
      case late =>
        rintro z z2 _ y0 w2 rfl hbl
        refine plan.freeS 6 _ (.tuple #[.agg #[.int .i64 v.n, .string v.s], .int .i64 (L.length : Int), .int .i64 0]) rfl (by kernel_rfl) (by kernel_rfl) (by kernel_rfl) (by kernel_rfl) (fun w' => (by kernel_rfl)) hbl ?_
        refine plan.freeS 7 _ (.agg #[.int .i64 v.n, .string v.s]) rfl (by kernel_rfl) (by kernel_rfl) (by kernel_rfl) (by kernel_rfl) (fun w' => (by kernel_rfl)) hbl ?_
        refine plan.freeS 8 _ (.int .i64 (L.length : Int)) rfl (by kernel_rfl) (by kernel_rfl) (by kernel_rfl) (by kernel_rfl) (fun w' => (by kernel_rfl)) hbl ?_
        refine plan.freeS 9 _ (.int .i64 0) rfl (by kernel_rfl) (by kernel_rfl) (by kernel_rfl) (by kernel_rfl) (fun w' => (by kernel_rfl)) hbl ?_
        refine plan.oneS (w1 := w2.alloc (.cells #[.int .i64 0, .string ⟨#[]⟩] 25)) 10 _ (.pointer (some ⟨w2.heap.size, 0, none⟩)) rfl rfl (by kernel_rfl) (by kernel_rfl) (hbl.alloc hbl.size _) ?_
        have hbs := hbl.alloc hbl.size (.cells #[.int .i64 0, .string ⟨#[]⟩] 25)
        have hG := Block.new w2 25 [.int .i64 0, .string ⟨#[]⟩]
        obtain ⟨g, hgd⟩ : ∃ g, g = w2.heap.size := ⟨_, rfl⟩
        rw [← hgd] at hG ⊢
        have hg : w1.drew.heap.size ≤ g := by rw [hgd]; exact hbl.size
        clear hgd
        refine plan.store _ 11 _ 25 (.tmp 9) (.tmp 32) g 25 [.int .i64 0, .string ⟨#[]⟩] #[.int .i64 v.n, .string v.s] rfl rfl rfl rfl (by kernel_rfl) (by kernel_rfl) (by kernel_rfl) hG rfl (val_info _ _) (val_one _ _) hbs hg ?_
        intro w3 hb3 hY _
        refine plan.freeS 12 _ (.int .i64 (L.length : Int)) rfl (by kernel_rfl) (by kernel_rfl) (by kernel_rfl) (by kernel_rfl) (fun w' => (by kernel_rfl)) hb3 ?_
        refine plan.freeS 13 _ (.int .i64 0) rfl (by kernel_rfl) (by kernel_rfl) (by kernel_rfl) (by kernel_rfl) (fun w' => (by kernel_rfl)) hb3 ?_
        refine plan.doneS (by kernel_rfl) ?_
        have hB3 := hbd.trans (hb3.mono hbd.size)
        obtain ⟨hf3, hv3, hbw3⟩ := HW.out _ hB3
        have hy3 : w3.cell? ⟨g, 0, none⟩ = some (.int .i64 v.n) ∧ w3.cell? ⟨g, 1, none⟩ = some (.string v.s) := ⟨hY.cell 0, hY.cell 1⟩
        simp only [plan.at4]
        walk_nrm
        have hsz := HSZ.out
        go_wp2_with (first
          | (go_at_call 13; (with_reducible refine (size_any f w3).mono ?_); rintro e w4 ⟨rfl, hb4⟩; have hB4 := hB3.trans (hb4.mono hB3.size); obtain ⟨hf4, hv4, hbw4⟩ := HW.out _ hB4)
          | (go_at_call 19; (with_reducible refine (ct w4 hbw4).mono ?_); rintro e w5 ⟨rfl, hb5⟩; have hB5 := hB4.trans (hb5.mono hB4.size); obtain ⟨hf5, hv5, hbw5⟩ := HW.out _ hB5; have hth5 := val_there (Block.new w5 25 [.int .i64 0, .string ⟨#[]⟩]) tn Z)
          | (with_reducible refine wpList_store_named rfl 25 (.tmp 12) (.tmp 58) rfl w5.heap.size 0 #[.int .i64 tn, .string Z] rfl rfl hth5 HI.out HO.out ?_))
        intro w6 hw6
        obtain ⟨hZ, hb6⟩ := val_stored (Block.new w5 25 [.int .i64 0, .string ⟨#[]⟩]) hw6 (Nat.le_refl _) (newB w5 _)
        have hB6 := hB5.trans (hb6.mono hB5.size)
        obtain ⟨hf6, hv6, hbw6⟩ := HW.out _ hB6
        have hz6 : w6.cell? ⟨w5.heap.size, 0, none⟩ = some (.int .i64 tn) ∧ w6.cell? ⟨w5.heap.size, 1, none⟩ = some (.string Z) := ⟨hZ.cell 0, hZ.cell 1⟩
        go_wp2_with (first
          | (go_at_call 18; (with_reducible refine (cl2 w6).mono ?_); rintro e w7 ⟨u7, rfl, ho7, hb7⟩; obtain ⟨ca2, cc2, rfl, _⟩ := ownsRow_slice ho7; have hB7 := hB6.trans (hb7.mono hB6.size); obtain ⟨hf7, hv7, hbw7⟩ := HW.out _ hB7))
        have hb := below_drew hB7
        have hbf := HBF.out.later hb
        have hbz := hZ.later (below_drew hb7)
        have hrc := (Reads.own (xs := xs.take tc) ho7).drewN 1
        have hrm := reads_take (cap := cap) (hr.below (below_drew hbw7)) (k := tc) HTL2.out
        refine plan.region (by kernel_rfl) ?_
        refine plan.Rest.first 0 _ (.int .i64 0) rfl (by kernel_rfl) (by kernel_rfl) (by kernel_rfl) (by kernel_rfl) (fun w' hb' => (by kernel_rfl)) ?_
        refine plan.Rest.first 1 _ (.bool false) rfl (by kernel_rfl) (by kernel_rfl) (by kernel_rfl) (by kernel_rfl) (fun w' hb' => (by kernel_rfl)) ?_
        refine plan.Rest.first 2 _ (.bool false) rfl (by kernel_rfl) (by kernel_rfl) (by kernel_rfl) (by kernel_rfl) (fun w' hb' => (by kernel_rfl)) ?_
        refine plan.Rest.first 3 _ (.int .i64 (tc : Int)) rfl (by kernel_rfl) (by kernel_rfl) (by kernel_rfl) (by kernel_rfl) (fun w' hb' => (by kernel_rfl)) ?_
        refine plan.Rest.first 4 _ (.bool false) rfl (by kernel_rfl) (by kernel_rfl) (by kernel_rfl) (by kernel_rfl) (fun w' hb' => exec_lss_no (n := (tc : Int)) (m := 0) rfl (by kernel_rfl) (by kernel_rfl) (by omega)) ?_
        refine plan.Rest.first 5 _ (.bool false) rfl (by kernel_rfl) (by kernel_rfl) (by kernel_rfl) (by kernel_rfl) (fun w' hb' => (by kernel_rfl)) ?_
        refine plan.Rest.first 6 _ (.bool false) rfl (by kernel_rfl) (by kernel_rfl) (by kernel_rfl) (by kernel_rfl) (fun w' hb' => (by kernel_rfl)) ?_
        refine plan.Rest.first 7 _ (.int .i64 (tc : Int)) rfl (by kernel_rfl) (by kernel_rfl) (by kernel_rfl) (by kernel_rfl) (fun w' hb' => (by kernel_rfl)) ?_
        refine plan.Rest.first 8 _ (.slice a len cap) rfl (by kernel_rfl) (by kernel_rfl) (by kernel_rfl) (by kernel_rfl) (fun w' hb' => (by kernel_rfl)) ?_
        refine plan.Rest.first 9 _ (.int .i64 (len : Int)) rfl (by kernel_rfl) (by kernel_rfl) (by kernel_rfl) (by kernel_rfl) (fun w' hb' => (by kernel_rfl)) ?_
        refine plan.Rest.first 10 _ (.bool false) rfl (by kernel_rfl) (by kernel_rfl) (by kernel_rfl) (by kernel_rfl) (fun w' hb' => exec_gtr_no (n := (tc : Int)) (m := (len : Int)) rfl (by kernel_rfl) (by kernel_rfl) (by have := HTL2.out; omega)) ?_
        refine plan.Rest.first 11 _ (.bool false) rfl (by kernel_rfl) (by kernel_rfl) (by kernel_rfl) (by kernel_rfl) (fun w' hb' => (by kernel_rfl)) ?_
        refine plan.Rest.first 12 _ (.bool false) rfl (by kernel_rfl) (by kernel_rfl) (by kernel_rfl) (by kernel_rfl) (fun w' hb' => (by kernel_rfl)) ?_
        refine plan.Rest.first 13 _ (.slice ca2 tc cc2) rfl (by kernel_rfl) (by kernel_rfl) (by kernel_rfl) (by kernel_rfl) (fun w' hb' => (by kernel_rfl)) ?_
        refine plan.Rest.first 14 _ (.string (strOf (xs.take tc))) rfl (by kernel_rfl) (by kernel_rfl) (by kernel_rfl) (by kernel_rfl) (fun w' hb' => plan.exec_convert (v := .slice ca2 tc cc2) rfl (by kernel_rfl) ((hrc.below hb').str (P := Try.prog) 33 5 Try.underlying33 Try.underlying5 cc2 9 Try.underlying9)) ?_
        refine plan.Rest.first 15 _ (.slice a len cap) rfl (by kernel_rfl) (by kernel_rfl) (by kernel_rfl) (by kernel_rfl) (fun w' hb' => (by kernel_rfl)) ?_
        refine plan.Rest.first 16 _ (.int .i64 (tc : Int)) rfl (by kernel_rfl) (by kernel_rfl) (by kernel_rfl) (by kernel_rfl) (fun w' hb' => (by kernel_rfl)) ?_
        refine plan.Rest.first 17 _ (.slice (cut.shift a 0 cap) tc cap) rfl (by kernel_rfl) (by kernel_rfl) (by kernel_rfl) (by kernel_rfl) (fun w' hb' => exec_slice_to (a := a) (len := len) (cap := cap) (k := tc) rfl (by kernel_rfl) (by kernel_rfl) HTC.out) ?_
        refine plan.Rest.first 18 _ (.string (strOf (xs.take tc))) rfl (by kernel_rfl) (by kernel_rfl) (by kernel_rfl) (by kernel_rfl) (fun w' hb' => plan.exec_convert (v := .slice (cut.shift a 0 cap) tc cap) rfl (by kernel_rfl) ((hrm.below hb').str (P := Try.prog) 33 5 Try.underlying33 Try.underlying5 cap 9 Try.underlying9)) ?_
        refine plan.Rest.first 19 _ (.bool false) rfl (by kernel_rfl) (by kernel_rfl) (by kernel_rfl) (by kernel_rfl) (fun w' hb' => exec_neq_str (s := strOf (xs.take tc)) rfl (by kernel_rfl) (by kernel_rfl)) ?_
        refine plan.Rest.first 20 _ (.bool false) rfl (by kernel_rfl) (by kernel_rfl) (by kernel_rfl) (by kernel_rfl) (fun w' hb' => (by kernel_rfl)) ?_
        refine plan.Rest.first 21 _ (.bool false) rfl (by kernel_rfl) (by kernel_rfl) (by kernel_rfl) (by kernel_rfl) (fun w' hb' => (by kernel_rfl)) ?_
        refine plan.Rest.first 22 _ (.agg #[.int .i64 f.id, .int .i64 f.kind, .int .i64 f.lo, .int .i64 f.hi, .int .i64 f.most]) rfl (by kernel_rfl) (by kernel_rfl) (by kernel_rfl) (by kernel_rfl) (fun w' hb' => plan.exec_load rfl (by kernel_rfl) (hbf.later hb').whole Try.underlying23 rfl HLF.out) ?_
        refine plan.Rest.first 23 _ (.agg #[.int .i64 tn, .string Z]) rfl (by kernel_rfl) (by kernel_rfl) (by kernel_rfl) (by kernel_rfl) (fun w' hb' => plan.exec_load rfl (by kernel_rfl) (hbz.later hb').whole Try.underlying25 rfl HLV.out) ?_
        refine plan.Rest.call 24 _ 9 #[.agg #[.int .i64 f.id, .int .i64 f.kind, .int .i64 f.lo, .int .i64 f.hi, .int .i64 f.most], .agg #[.int .i64 tn, .string Z]] rfl (by kernel_rfl) (by kernel_rfl) (by kernel_rfl) ((ch2 w7.drew).mono ?_)
        rintro e W1 ⟨rfl, hn⟩
        have hb := hb.trans (hn.mono hb.size)
        have hbf := hbf.later hn
        have hbz := hbz.later hn
        refine ⟨_, rfl, hn, ?_⟩
        refine plan.Rest.first 25 _ (.bool false) rfl (by kernel_rfl) (by kernel_rfl) (by kernel_rfl) (by kernel_rfl) (fun w' hb' => (by kernel_rfl)) ?_
        refine plan.Rest.first 26 _ (.bool false) rfl (by kernel_rfl) (by kernel_rfl) (by kernel_rfl) (by kernel_rfl) (fun w' hb' => (by kernel_rfl)) ?_
        refine plan.Rest.done (by kernel_rfl) ?_
        walk_nrm
        have hbwN := (HW.out _ hb).2.2
        go_wp2_with (first
          | (go_at_call 17; (with_reducible refine (awake_any _).mono ?_); rintro e w9 ⟨rfl, hb9⟩))
        go_ret
        exact ⟨rfl, hbwN.trans (hb9.mono hbwN.size)⟩
    · have hne : (te == 0) = false := by rw [beq_eq_false_iff_ne]; exact hte
      clear hte
      go_enter Try.func5, Try.ntmps5
      go_wp2_with (first
        | (go_at_call 18; (with_reducible refine cl.mono ?_); rintro e w1 ⟨u, rfl, ho, hb1⟩; obtain ⟨ua, uc, rfl, _⟩ := ownsRow_slice ho; obtain ⟨hf1, hv1, hbw1⟩ := HW.out _ hb1))
      have hbd := below_drew hb1
      have hbf := HBF.out.later hbd
      have hrx : Reads .u8 w1.drew ua L.length L := (Reads.own (xs := L) ho).drewN 1
      have hmore : Reads .u8 w1.drew a len xs := hr.below (below_drew hbw1)
      refine plan.region (by kernel_rfl) ?_
      refine plan.Rest.first 0 _ (.agg #[.int .i64 f.id, .int .i64 f.kind, .int .i64 f.lo, .int .i64 f.hi, .int .i64 f.most]) rfl (by kernel_rfl) (by kernel_rfl) (by kernel_rfl) (by kernel_rfl) (fun w' hb' => plan.exec_load rfl (by kernel_rfl) (hbf.later hb').whole Try.underlying23 rfl HLF.out) ?_
      refine plan.Rest.first 1 _ (.slice ua L.length uc) rfl (by kernel_rfl) (by kernel_rfl) (by kernel_rfl) (by kernel_rfl) (fun w' hb' => (by kernel_rfl)) ?_
      refine plan.Rest.first 3 _ (.slice a len cap) rfl (by kernel_rfl) (by kernel_rfl) (by kernel_rfl) (by kernel_rfl) (fun w' hb' => (by kernel_rfl)) ?_
      unfold plan.Rest
      refine plan.toS 28 30 31 9 7 (fun p q r s => #[true, true, p, true, q, r, false, false, false, false, s, false, false, false]) (by kernel_rfl) (by kernel_rfl) (by kernel_rfl) ?_
      refine plan.drift _ _ 2 4 5 10 28 30 31 9 7 (by decide) (by decide) (by decide) (by decide) (by decide) (by decide) _ _ _ _ (fun p q r s => #[true, true, p, true, q, r, false, false, false, false, s, false, false, false])
        rfl rfl rfl rfl rfl rfl rfl rfl rfl rfl rfl rfl (fun _ _ _ => rfl) (fun _ _ _ => rfl) (fun _ _ _ => rfl) (fun _ _ _ => rfl) (by kernel_rfl) (by kernel_rfl) (by kernel_rfl) (by kernel_rfl) (by kernel_rfl) (by kernel_rfl)
        (OwnB w1.drew.heap.size L) (OwnB w1.drew.heap.size (L ++ xs)) (fun x _ => x = .tuple #[.agg #[.int .i64 v.n, .string v.s], .int .i64 (L.length : Int), .int .i64 0]) (fun z g => z.ownBlock ≠ some g) 25 [.int .i64 0, .string ⟨#[]⟩]
        ?r1 ?rB ?t1 ?r2 ?t2 ?rC ?rest ?late undef undef undef undef
      case r1 => exact fun u0 v0 x0 y0 w' hb' => first_append (ap := ua) (m := L.length) (c := uc) rfl (by kernel_rfl) (by kernel_rfl) hrx HL64.out hb'
      case rB => exact fun u0 v0 x0 y0 w' => (by kernel_rfl)
      case t1 => exact fun z w' h => ⟨h.later (newB _ _), fun hk => by have := (h.2 _ hk).2; omega⟩
      case r2 => exact fun z v0 x0 y0 w' hb' h1 => next_append (ap := a) (m := len) (c := cap) rfl (by kernel_rfl) (by kernel_rfl) hmore (by have := HL64.out; have := HLEN.out; omega) h1 hb'
      case t2 => exact fun z w' h => h.later (newB _ _)
      case rC =>
        intro z z2 x0 y0 w' hb' h2
        obtain ⟨a3, c3, rfl, k1, k2⟩ := own_form h2.1
        exact ⟨19, #[.agg #[.int .i64 f.id, .int .i64 f.kind, .int .i64 f.lo, .int .i64 f.hi, .int .i64 f.most], .slice a3 (L ++ xs).length c3], by kernel_rfl, (HTL.out a3 c3 w' (Reads.own (xs := L ++ xs) h2.1) k1 k2).mono fun e w2 ⟨he, hb2⟩ => ⟨_, he, hb2, rfl⟩⟩
      case rest =>
        rintro z z2 _ g w2 rfl hG hg hbs
        refine plan.freeS 6 _ (.tuple #[.agg #[.int .i64 v.n, .string v.s], .int .i64 (L.length : Int), .int .i64 0]) rfl (by kernel_rfl) (by kernel_rfl) (by kernel_rfl) (by kernel_rfl) (fun w' => (by kernel_rfl)) hbs ?_
        refine plan.freeS 7 _ (.agg #[.int .i64 v.n, .string v.s]) rfl (by kernel_rfl) (by kernel_rfl) (by kernel_rfl) (by kernel_rfl) (fun w' => (by kernel_rfl)) hbs ?_
        refine plan.freeS 8 _ (.int .i64 (L.length : Int)) rfl (by kernel_rfl) (by kernel_rfl) (by kernel_rfl) (by kernel_rfl) (fun w' => (by kernel_rfl)) hbs ?_
        refine plan.freeS 9 _ (.int .i64 0) rfl (by kernel_rfl) (by kernel_rfl) (by kernel_rfl) (by kernel_rfl) (fun w' => (by kernel_rfl)) hbs ?_
        refine plan.store _ 11 _ 25 (.tmp 9) (.tmp 32) g 25 [.int .i64 0, .string ⟨#[]⟩] #[.int .i64 v.n, .string v.s] rfl rfl rfl rfl (by kernel_rfl) (by kernel_rfl) (by kernel_rfl) hG rfl (val_info _ _) (val_one _ _) hbs hg ?_
        intro w3 hb3 hY _
        refine plan.freeS 12 _ (.int .i64 (L.length : Int)) rfl (by kernel_rfl) (by kernel_rfl) (by kernel_rfl) (by kernel_rfl) (fun w' => (by kernel_rfl)) hb3 ?_
        refine plan.freeS 13 _ (.int .i64 0) rfl (by kernel_rfl) (by kernel_rfl) (by kernel_rfl) (by kernel_rfl) (fun w' => (by kernel_rfl)) hb3 ?_
        refine plan.doneS (by kernel_rfl) ?_
        have hB3 := hbd.trans (hb3.mono hbd.size)
        obtain ⟨hf3, hv3, hbw3⟩ := HW.out _ hB3
        have hy3 : w3.cell? ⟨g, 0, none⟩ = some (.int .i64 v.n) ∧ w3.cell? ⟨g, 1, none⟩ = some (.string v.s) := ⟨hY.cell 0, hY.cell 1⟩
        simp only [plan.at4]
        walk_nrm
        have hsz := HSZ.out
        go_wp2_with (first
          | (go_at_call 13; (with_reducible refine (size_any f w3).mono ?_); rintro e w4 ⟨rfl, hb4⟩; have hB4 := hB3.trans (hb4.mono hB3.size); obtain ⟨hf4, hv4, hbw4⟩ := HW.out _ hB4)
          | (go_at_call 19; (with_reducible refine (ct w4 hbw4).mono ?_); rintro e w5 ⟨rfl, hb5⟩; have hB5 := hB4.trans (hb5.mono hB4.size); obtain ⟨hf5, hv5, hbw5⟩ := HW.out _ hB5; have hth5 := val_there (Block.new w5 25 [.int .i64 0, .string ⟨#[]⟩]) tn Z)
          | (with_reducible refine wpList_store_named rfl 25 (.tmp 12) (.tmp 58) rfl w5.heap.size 0 #[.int .i64 tn, .string Z] rfl rfl hth5 HI.out HO.out ?_))
        intro w6 hw6
        obtain ⟨hZ, hb6⟩ := val_stored (Block.new w5 25 [.int .i64 0, .string ⟨#[]⟩]) hw6 (Nat.le_refl _) (newB w5 _)
        have hB6 := hB5.trans (hb6.mono hB5.size)
        obtain ⟨hf6, hv6, hbw6⟩ := HW.out _ hB6
        have hz6 : w6.cell? ⟨w5.heap.size, 0, none⟩ = some (.int .i64 tn) ∧ w6.cell? ⟨w5.heap.size, 1, none⟩ = some (.string Z) := ⟨hZ.cell 0, hZ.cell 1⟩
        go_wp2_with (first
          | (go_at_call 17; (with_reducible refine (awake_any _).mono ?_); rintro e w9 ⟨rfl, hb9⟩))
        go_ret
        exact ⟨rfl, hbw6.trans (hb9.mono hbw6.size)⟩
      case late =>
        rintro z z2 _ y0 w2 rfl hbl
        refine plan.freeS 6 _ (.tuple #[.agg #[.int .i64 v.n, .string v.s], .int .i64 (L.length : Int), .int .i64 0]) rfl (by kernel_rfl) (by kernel_rfl) (by kernel_rfl) (by kernel_rfl) (fun w' => (by kernel_rfl)) hbl ?_
        refine plan.freeS 7 _ (.agg #[.int .i64 v.n, .string v.s]) rfl (by kernel_rfl) (by kernel_rfl) (by kernel_rfl) (by kernel_rfl) (fun w' => (by kernel_rfl)) hbl ?_
        refine plan.freeS 8 _ (.int .i64 (L.length : Int)) rfl (by kernel_rfl) (by kernel_rfl) (by kernel_rfl) (by kernel_rfl) (fun w' => (by kernel_rfl)) hbl ?_
        refine plan.freeS 9 _ (.int .i64 0) rfl (by kernel_rfl) (by kernel_rfl) (by kernel_rfl) (by kernel_rfl) (fun w' => (by kernel_rfl)) hbl ?_
        refine plan.oneS (w1 := w2.alloc (.cells #[.int .i64 0, .string ⟨#[]⟩] 25)) 10 _ (.pointer (some ⟨w2.heap.size, 0, none⟩)) rfl rfl (by kernel_rfl) (by kernel_rfl) (hbl.alloc hbl.size _) ?_
        have hbs := hbl.alloc hbl.size (.cells #[.int .i64 0, .string ⟨#[]⟩] 25)
        have hG := Block.new w2 25 [.int .i64 0, .string ⟨#[]⟩]
        obtain ⟨g, hgd⟩ : ∃ g, g = w2.heap.size := ⟨_, rfl⟩
        rw [← hgd] at hG ⊢
        have hg : w1.drew.heap.size ≤ g := by rw [hgd]; exact hbl.size
        clear hgd
        refine plan.store _ 11 _ 25 (.tmp 9) (.tmp 32) g 25 [.int .i64 0, .string ⟨#[]⟩] #[.int .i64 v.n, .string v.s] rfl rfl rfl rfl (by kernel_rfl) (by kernel_rfl) (by kernel_rfl) hG rfl (val_info _ _) (val_one _ _) hbs hg ?_
        intro w3 hb3 hY _
        refine plan.freeS 12 _ (.int .i64 (L.length : Int)) rfl (by kernel_rfl) (by kernel_rfl) (by kernel_rfl) (by kernel_rfl) (fun w' => (by kernel_rfl)) hb3 ?_
        refine plan.freeS 13 _ (.int .i64 0) rfl (by kernel_rfl) (by kernel_rfl) (by kernel_rfl) (by kernel_rfl) (fun w' => (by kernel_rfl)) hb3 ?_
        refine plan.doneS (by kernel_rfl) ?_
        have hB3 := hbd.trans (hb3.mono hbd.size)
        obtain ⟨hf3, hv3, hbw3⟩ := HW.out _ hB3
        have hy3 : w3.cell? ⟨g, 0, none⟩ = some (.int .i64 v.n) ∧ w3.cell? ⟨g, 1, none⟩ = some (.string v.s) := ⟨hY.cell 0, hY.cell 1⟩
        simp only [plan.at4]
        walk_nrm
        have hsz := HSZ.out
        go_wp2_with (first
          | (go_at_call 13; (with_reducible refine (size_any f w3).mono ?_); rintro e w4 ⟨rfl, hb4⟩; have hB4 := hB3.trans (hb4.mono hB3.size); obtain ⟨hf4, hv4, hbw4⟩ := HW.out _ hB4)
          | (go_at_call 19; (with_reducible refine (ct w4 hbw4).mono ?_); rintro e w5 ⟨rfl, hb5⟩; have hB5 := hB4.trans (hb5.mono hB4.size); obtain ⟨hf5, hv5, hbw5⟩ := HW.out _ hB5; have hth5 := val_there (Block.new w5 25 [.int .i64 0, .string ⟨#[]⟩]) tn Z)
          | (with_reducible refine wpList_store_named rfl 25 (.tmp 12) (.tmp 58) rfl w5.heap.size 0 #[.int .i64 tn, .string Z] rfl rfl hth5 HI.out HO.out ?_))
        intro w6 hw6
        obtain ⟨hZ, hb6⟩ := val_stored (Block.new w5 25 [.int .i64 0, .string ⟨#[]⟩]) hw6 (Nat.le_refl _) (newB w5 _)
        have hB6 := hB5.trans (hb6.mono hB5.size)
        obtain ⟨hf6, hv6, hbw6⟩ := HW.out _ hB6
        have hz6 : w6.cell? ⟨w5.heap.size, 0, none⟩ = some (.int .i64 tn) ∧ w6.cell? ⟨w5.heap.size, 1, none⟩ = some (.string Z) := ⟨hZ.cell 0, hZ.cell 1⟩
        go_wp2_with (first
          | (go_at_call 17; (with_reducible refine (awake_any _).mono ?_); rintro e w9 ⟨rfl, hb9⟩))
        go_ret
        exact ⟨rfl, hbw6.trans (hb9.mono hbw6.size)⟩
  · have hE : (f.layE v == 0) = false := by
      rw [beq_eq_false_iff_ne]
      unfold Fd.layE
      by_cases h1 : f.Right
      · rw [if_neg (show ¬¬ f.Right from fun k => k h1), if_pos hh]; decide
      · rw [if_pos h1]; decide
    have hL : f.layB v = [] := by unfold Fd.layB; rw [if_pos hh]
    have cl := lay_any f v (WV f v w)
    rw [hL] at cl
    clear hL hh hT hx hm
    generalize f.layE v = E at *
    generalize strOf ts = Z at *
    have HI := hid (val_info tn Z)
    have HO := hid (val_one tn Z)
    unfold WV at HW cl HBF
    unfold LaysAs at cl
    rw [show ([] : List Nat).length = 0 from rfl] at cl
    by_cases hte : te = 0
    · obtain rfl : te = 0 := hte
      obtain ⟨hH, hC, hL2⟩ := HLT.out rfl
      have cl2 := fun W => lay_back f tn Z (xs.take tc) tc hH hL2 (by rw [List.length_take]; omega) W
      have ch2 := fun W => has_back f tn Z hH W
      have HTL2 : Hid (tc ≤ len) := hid (by omega)
      have HTC : Hid (tc ≤ cap) := hid (by omega)
      have HGT : Hid (¬ (tc : Int) > (len : Int)) := hid (by omega)
      clear hH hC hL2
      go_enter Try.func5, Try.ntmps5
      go_wp2_with (first
        | (go_at_call 18; (with_reducible refine cl.mono ?_); rintro e w1 ⟨u, rfl, ho, hb1⟩; obtain ⟨ua, uc, rfl, _⟩ := ownsRow_slice ho; obtain ⟨hf1, hv1, hbw1⟩ := HW.out _ hb1)
        | (go_at_call 19; (with_reducible refine (ct w1 hbw1).mono ?_); rintro e w5 ⟨rfl, hb5⟩; have hB5 := hb1.trans (hb5.mono hb1.size); obtain ⟨hf5, hv5, hbw5⟩ := HW.out _ hB5; have hth5 := val_there (Block.new w5 25 [.int .i64 0, .string ⟨#[]⟩]) tn Z)
        | (with_reducible refine wpList_store_named rfl 25 (.tmp 12) (.tmp 58) rfl w5.heap.size 0 #[.int .i64 tn, .string Z] rfl rfl hth5 HI.out HO.out ?_))
      intro w6 hw6
      obtain ⟨hZ, hb6⟩ := val_stored (Block.new w5 25 [.int .i64 0, .string ⟨#[]⟩]) hw6 (Nat.le_refl _) (newB w5 _)
      have hB6 := hB5.trans (hb6.mono hB5.size)
      obtain ⟨hf6, hv6, hbw6⟩ := HW.out _ hB6
      have hz6 : w6.cell? ⟨w5.heap.size, 0, none⟩ = some (.int .i64 tn) ∧ w6.cell? ⟨w5.heap.size, 1, none⟩ = some (.string Z) := ⟨hZ.cell 0, hZ.cell 1⟩
      go_wp2_with (first
        | (go_at_call 18; (with_reducible refine (cl2 w6).mono ?_); rintro e w7 ⟨u7, rfl, ho7, hb7⟩; obtain ⟨ca2, cc2, rfl, _⟩ := ownsRow_slice ho7; have hB7 := hB6.trans (hb7.mono hB6.size); obtain ⟨hf7, hv7, hbw7⟩ := HW.out _ hB7))
      have hb := below_drew hB7
      have hbf := HBF.out.later hb
      have hbz := hZ.later (below_drew hb7)
      have hrc := (Reads.own (xs := xs.take tc) ho7).drewN 1
      have hrm := reads_take (cap := cap) (hr.below (below_drew hbw7)) (k := tc) HTL2.out
      refine plan.region (by kernel_rfl) ?_
      refine plan.Rest.first 0 _ (.int .i64 0) rfl (by kernel_rfl) (by kernel_rfl) (by kernel_rfl) (by kernel_rfl) (fun w' hb' => (by kernel_rfl)) ?_
      refine plan.Rest.first 1 _ (.bool false) rfl (by kernel_rfl) (by kernel_rfl) (by kernel_rfl) (by kernel_rfl) (fun w' hb' => (by kernel_rfl)) ?_
      refine plan.Rest.first 2 _ (.bool false) rfl (by kernel_rfl) (by kernel_rfl) (by kernel_rfl) (by kernel_rfl) (fun w' hb' => (by kernel_rfl)) ?_
      refine plan.Rest.first 3 _ (.int .i64 (tc : Int)) rfl (by kernel_rfl) (by kernel_rfl) (by kernel_rfl) (by kernel_rfl) (fun w' hb' => (by kernel_rfl)) ?_
      refine plan.Rest.first 4 _ (.bool false) rfl (by kernel_rfl) (by kernel_rfl) (by kernel_rfl) (by kernel_rfl) (fun w' hb' => exec_lss_no (n := (tc : Int)) (m := 0) rfl (by kernel_rfl) (by kernel_rfl) (by omega)) ?_
      refine plan.Rest.first 5 _ (.bool false) rfl (by kernel_rfl) (by kernel_rfl) (by kernel_rfl) (by kernel_rfl) (fun w' hb' => (by kernel_rfl)) ?_
      refine plan.Rest.first 6 _ (.bool false) rfl (by kernel_rfl) (by kernel_rfl) (by kernel_rfl) (by kernel_rfl) (fun w' hb' => (by kernel_rfl)) ?_
      refine plan.Rest.first 7 _ (.int .i64 (tc : Int)) rfl (by kernel_rfl) (by kernel_rfl) (by kernel_rfl) (by kernel_rfl) (fun w' hb' => (by kernel_rfl)) ?_
      refine plan.Rest.first 8 _ (.slice a len cap) rfl (by kernel_rfl) (by kernel_rfl) (by kernel_rfl) (by kernel_rfl) (fun w' hb' => (by kernel_rfl)) ?_
      refine plan.Rest.first 9 _ (.int .i64 (len : Int)) rfl (by kernel_rfl) (by kernel_rfl) (by kernel_rfl) (by kernel_rfl) (fun w' hb' => (by kernel_rfl)) ?_
      refine plan.Rest.first 10 _ (.bool false) rfl (by kernel_rfl) (by kernel_rfl) (by kernel_rfl) (by kernel_rfl) (fun w' hb' => exec_gtr_no (n := (tc : Int)) (m := (len : Int)) rfl (by kernel_rfl) (by kernel_rfl) (by have := HTL2.out; omega)) ?_
      refine plan.Rest.first 11 _ (.bool false) rfl (by kernel_rfl) (by kernel_rfl) (by kernel_rfl) (by kernel_rfl) (fun w' hb' => (by kernel_rfl)) ?_
      refine plan.Rest.first 12 _ (.bool false) rfl (by kernel_rfl) (by kernel_rfl) (by kernel_rfl) (by kernel_rfl) (fun w' hb' => (by kernel_rfl)) ?_
      refine plan.Rest.first 13 _ (.slice ca2 tc cc2) rfl (by kernel_rfl) (by kernel_rfl) (by kernel_rfl) (by kernel_rfl) (fun w' hb' => (by kernel_rfl)) ?_
      refine plan.Rest.first 14 _ (.string (strOf (xs.take tc))) rfl (by kernel_rfl) (by kernel_rfl) (by kernel_rfl) (by kernel_rfl) (fun w' hb' => plan.exec_convert (v := .slice ca2 tc cc2) rfl (by kernel_rfl) ((hrc.below hb').str (P := Try.prog) 33 5 Try.underlying33 Try.underlying5 cc2 9 Try.underlying9)) ?_
      refine plan.Rest.first 15 _ (.slice a len cap) rfl (by kernel_rfl) (by kernel_rfl) (by kernel_rfl) (by kernel_rfl) (fun w' hb' => (by kernel_rfl)) ?_
      refine plan.Rest.first 16 _ (.int .i64 (tc : Int)) rfl (by kernel_rfl) (by kernel_rfl) (by kernel_rfl) (by kernel_rfl) (fun w' hb' => (by kernel_rfl)) ?_
      refine plan.Rest.first 17 _ (.slice (cut.shift a 0 cap) tc cap) rfl (by kernel_rfl) (by kernel_rfl) (by kernel_rfl) (by kernel_rfl) (fun w' hb' => exec_slice_to (a := a) (len := len) (cap := cap) (k := tc) rfl (by kernel_rfl) (by kernel_rfl) HTC.out) ?_
      refine plan.Rest.first 18 _ (.string (strOf (xs.take tc))) rfl (by kernel_rfl) (by kernel_rfl) (by kernel_rfl) (by kernel_rfl) (fun w' hb' => plan.exec_convert (v := .slice (cut.shift a 0 cap) tc cap) rfl (by kernel_rfl) ((hrm.below hb').str (P := Try.prog) 33 5 Try.underlying33 Try.underlying5 cap 9 Try.underlying9)) ?_
      refine plan.Rest.first 19 _ (.bool false) rfl (by kernel_rfl) (by kernel_rfl) (by kernel_rfl) (by kernel_rfl) (fun w' hb' => exec_neq_str (s := strOf (xs.take tc)) rfl (by kernel_rfl) (by kernel_rfl)) ?_
      refine plan.Rest.first 20 _ (.bool false) rfl (by kernel_rfl) (by kernel_rfl) (by kernel_rfl) (by kernel_rfl) (fun w' hb' => (by kernel_rfl)) ?_
      refine plan.Rest.first 21 _ (.bool false) rfl (by kernel_rfl) (by kernel_rfl) (by kernel_rfl) (by kernel_rfl) (fun w' hb' => (by kernel_rfl)) ?_
      refine plan.Rest.first 22 _ (.agg #[.int .i64 f.id, .int .i64 f.kind, .int .i64 f.lo, .int .i64 f.hi, .int .i64 f.most]) rfl (by kernel_rfl) (by kernel_rfl) (by kernel_rfl) (by kernel_rfl) (fun w' hb' => plan.exec_load rfl (by kernel_rfl) (hbf.later hb').whole Try.underlying23 rfl HLF.out) ?_
      refine plan.Rest.first 23 _ (.agg #[.int .i64 tn, .string Z]) rfl (by kernel_rfl) (by kernel_rfl) (by kernel_rfl) (by kernel_rfl) (fun w' hb' => plan.exec_load rfl (by kernel_rfl) (hbz.later hb').whole Try.underlying25 rfl HLV.out) ?_
      refine plan.Rest.call 24 _ 9 #[.agg #[.int .i64 f.id, .int .i64 f.kind, .int .i64 f.lo, .int .i64 f.hi, .int .i64 f.most], .agg #[.int .i64 tn, .string Z]] rfl (by kernel_rfl) (by kernel_rfl) (by kernel_rfl) ((ch2 w7.drew).mono ?_)
      rintro e W1 ⟨rfl, hn⟩
      have hb := hb.trans (hn.mono hb.size)
      have hbf := hbf.later hn
      have hbz := hbz.later hn
      refine ⟨_, rfl, hn, ?_⟩
      refine plan.Rest.first 25 _ (.bool false) rfl (by kernel_rfl) (by kernel_rfl) (by kernel_rfl) (by kernel_rfl) (fun w' hb' => (by kernel_rfl)) ?_
      refine plan.Rest.first 26 _ (.bool false) rfl (by kernel_rfl) (by kernel_rfl) (by kernel_rfl) (by kernel_rfl) (fun w' hb' => (by kernel_rfl)) ?_
      refine plan.Rest.done (by kernel_rfl) ?_
      walk_nrm
      have hbwN := (HW.out _ hb).2.2
      go_wp2_with (first
        | (go_at_call 17; (with_reducible refine (awake_any _).mono ?_); rintro e w9 ⟨rfl, hb9⟩))
      go_ret
      exact ⟨rfl, hbwN.trans (hb9.mono hbwN.size)⟩
    · have hne : (te == 0) = false := by rw [beq_eq_false_iff_ne]; exact hte
      clear hte
      go_enter Try.func5, Try.ntmps5
      go_wp2_with (first
        | (go_at_call 18; (with_reducible refine cl.mono ?_); rintro e w1 ⟨u, rfl, ho, hb1⟩; obtain ⟨ua, uc, rfl, _⟩ := ownsRow_slice ho; obtain ⟨hf1, hv1, hbw1⟩ := HW.out _ hb1)
        | (go_at_call 19; (with_reducible refine (ct w1 hbw1).mono ?_); rintro e w5 ⟨rfl, hb5⟩; have hB5 := hb1.trans (hb5.mono hb1.size); obtain ⟨hf5, hv5, hbw5⟩ := HW.out _ hB5; have hth5 := val_there (Block.new w5 25 [.int .i64 0, .string ⟨#[]⟩]) tn Z)
        | (with_reducible refine wpList_store_named rfl 25 (.tmp 12) (.tmp 58) rfl w5.heap.size 0 #[.int .i64 tn, .string Z] rfl rfl hth5 HI.out HO.out ?_))
      intro w6 hw6
      obtain ⟨hZ, hb6⟩ := val_stored (Block.new w5 25 [.int .i64 0, .string ⟨#[]⟩]) hw6 (Nat.le_refl _) (newB w5 _)
      have hB6 := hB5.trans (hb6.mono hB5.size)
      obtain ⟨hf6, hv6, hbw6⟩ := HW.out _ hB6
      have hz6 : w6.cell? ⟨w5.heap.size, 0, none⟩ = some (.int .i64 tn) ∧ w6.cell? ⟨w5.heap.size, 1, none⟩ = some (.string Z) := ⟨hZ.cell 0, hZ.cell 1⟩
      go_wp2_with (first
        | (go_at_call 17; (with_reducible refine (awake_any _).mono ?_); rintro e w9 ⟨rfl, hb9⟩))
      go_ret
      exact ⟨rfl, hbw6.trans (hb9.mono hbw6.size)⟩
theorem walk (f : field.Fd) (v : Va) (a : Option Addr) (len cap : Nat) (xs : List Nat) (w : World) (hf : f.Good w) (hv : v.Good w) (hr : Reads .u8 w a len xs) (hx : ∀ x ∈ xs, x < 256) (hc : len ≤ cap) (hm : cap * 1 ≤ 140737488351232) :
    Calls Try.prog 5 #[f.val, v.val, .slice a len cap] w (Yes w) := walk0 f v a len cap xs w hr hx hc (by omega)
end Go.Proofs.Ythpiffafakoheaa.fieldBack
