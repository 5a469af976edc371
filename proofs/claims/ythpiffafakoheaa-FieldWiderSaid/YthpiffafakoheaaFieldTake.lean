/- Contract of Take of layer 12 (field). No condition. -/
import Derived.Test.YthpiffafakoheaaFieldText
import Derived.Test.YthpiffafakoheaaFieldLeast
namespace Go.Proofs.Ythpiffafakoheaa.field
open Go.RowKit Go.Proofs.Ythpiffafakoheaa.cut
set_option linter.unusedVariables false

theorem takes_of {T : Tk} {n : Int} {s : List Nat} {c : Nat} {e : Int} (h : T = ⟨n, s, c, e⟩) {P : Program} {F : FuncId} {args : Array Value} {w : World} (k : Calls P F args w (TakesAs ⟨n, s, c, e⟩ w)) : Calls P F args w (TakesAs T w) := by rw [h]; exact k
theorem Fd.take_no {f : Fd} (h : ¬ f.Right) (xs : List Nat) : f.take xs = ⟨0, [], 0, 2⟩ := by unfold Fd.take; rw [if_pos h]
theorem Fd.take_num {f : Fd} (h : f.Right) (h4 : f.kind ≠ 4) (xs : List Nat) : f.take xs = if xs.length < f.size then ⟨0, [], 0, 5⟩ else if f.great - f.lo < (num (xs.take f.size) : Nat) then ⟨0, [], 0, 16⟩ else ⟨f.lo + (num (xs.take f.size) : Nat), [], f.size, 0⟩ := by
  unfold Fd.take; rw [if_neg (show ¬¬ f.Right from fun k => k h), if_neg h4]
theorem Fd.size_num {f : Fd} (h : f.Right) (h4 : f.kind ≠ 4) : f.size ≤ 6 := by unfold Fd.size; rw [if_pos h, if_neg h4]; exact wide_le _
set_option maxHeartbeats 4000000 in
theorem take_any (f : Fd) (a : Option Addr) (len cap : Nat) (xs : List Nat) (w : World) (hr : Reads .u8 w a len xs) (hx : ∀ x ∈ xs, x < 256) (hc : len ≤ cap) (hm : cap ≤ 9223372036854775807) :
    Calls Try.prog 19 #[.agg #[.int .i64 f.id, .int .i64 f.kind, .int .i64 f.lo, .int .i64 f.hi, .int .i64 f.most], .slice a len cap] w (TakesAs (f.take xs) w) := by
  have HW := hid (W2.all f w)
  have cr := gives_from (right_any f (W2 f w)) (w0 := W2 f w) (Below.refl _ _)
  by_cases h : f.Right
  · rw [decide_eq_true h] at cr
    by_cases h4 : f.kind = 4
    · have ct : ∀ W, Below (W2 f w).heap.size (W2 f w) W → Calls Try.prog 31 #[.agg #[.int .i64 f.id, .int .i64 f.kind, .int .i64 f.lo, .int .i64 f.hi, .int .i64 f.most], .slice a len cap] W (fun e w' => e = .returned (.tuple #[.agg #[.int .i64 (f.take xs).n, .string (strOf (f.take xs).s)], .int .i64 ((f.take xs).c : Int), .int .i64 (f.take xs).e]) ∧ Below (W2 f w).heap.size (W2 f w) w') := fun W hb =>
        (takeText_any f h h4 a len cap xs W (hr.below (HW.out W hb).2.2) hx hc hm).mono fun _ _ ⟨he, hw⟩ => ⟨he, hb.trans (hw.mono hb.size)⟩
      unfold TakesAs
      generalize f.take xs = T at *
      obtain ⟨tn, ts, tc, te⟩ := T
      simp only at ct ⊢
      generalize strOf ts = Z at *
      unfold W2 at HW cr ct
      have e4 : (f.kind == 4) = true := by rw [beq_iff_eq]; exact h4
      have HI := hid (val_info tn Z)
      have HO := hid (val_one tn Z)
      clear hr hx h h4
      go_enter Try.func19, Try.ntmps19
      go_wp2_with (first
        | (go_at_call 7; (with_reducible refine cr.mono ?_); rintro e w1 ⟨rfl, hb1⟩; obtain ⟨hk1, hres1, hbw1⟩ := HW.out _ hb1)
        | (go_at_call 31; (with_reducible refine (ct _ hb1).mono ?_); rintro e w2 ⟨rfl, hb2⟩; obtain ⟨hk2, hres2, hbw2⟩ := HW.out _ hb2; have hth := val_there hres2 tn Z)
        | (with_reducible refine wpList_store_named rfl 25 (.tmp 4) (.tmp 21) rfl (w.heap.size + 1) 0 #[.int .i64 tn, .string Z] rfl rfl hth HI.out HO.out ?_))
      intro w3 hw3
      obtain ⟨hB, hb⟩ := val_stored hres2 hw3 (Nat.le_succ w.heap.size) hbw2
      go_wp2
      refine bodyPost_ret (results_cell3 (b := w.heap.size + 1) (o := 0) rfl rfl hB.whole Try.underlying25 rfl (val_info2 _ _)) rfl ?_
      exact ⟨rfl, hb⟩
    · rw [Fd.take_num h h4]
      have hlen := hr.1
      rw [hlen]
      have hs6 := Fd.size_num h h4
      have hsp := h.span
      have cs := fun W (hb : Below (W2 f w).heap.size (W2 f w) W) => gives_from (size_any f W) hb
      obtain ⟨T, hT⟩ : ∃ T : Nat, f.great - f.lo = (T : Int) := ⟨(f.great - f.lo).toNat, by omega⟩
      have ct := fun W (hb : Below (W2 f w).heap.size (W2 f w) W) => gives_from (top_any f h W) hb
      rw [hT] at ct ⊢
      have hTb : T ≤ 2199023255552 := by omega
      have s1 := hsp.2.2.1
      have s2 := hsp.2.2.2.1
      have e4 : (f.kind == 4) = false := by rw [beq_eq_false_iff_ne]; exact h4
      clear h h4 hsp hT
      generalize f.size = sz at *
      by_cases h1 : len < sz
      · rw [if_pos h1]
        have HI := hid (val_info 0 ⟨#[]⟩)
        have HO := hid (val_one 0 ⟨#[]⟩)
        unfold TakesAs
        rw [show strOf ([] : List Nat) = ⟨#[]⟩ from rfl]
        unfold W2 at HW cr cs
        clear hr hx ct
        go_enter Try.func19, Try.ntmps19
        go_wp2_with (first
          | (go_at_call 7; (with_reducible refine cr.mono ?_); rintro e w1 ⟨rfl, hb1⟩; obtain ⟨hk1, hres1, hbw1⟩ := HW.out _ hb1)
          | (go_at_call 13; (with_reducible refine (cs _ hb1).mono ?_); rintro e w2 ⟨rfl, hb2⟩; obtain ⟨hk2, hres2, hbw2⟩ := HW.out _ hb2; have hth := val_there hres2 0 ⟨#[]⟩)
          | (with_reducible refine wpList_store_named rfl 25 (.tmp 4) (.tmp 30) rfl (w.heap.size + 1) 0 #[.int .i64 0, .string ⟨#[]⟩] rfl rfl hth HI.out HO.out ?_))
        intro w3 hw3
        obtain ⟨hB, hb⟩ := val_stored hres2 hw3 (Nat.le_succ w.heap.size) hbw2
        go_wp2
        refine bodyPost_ret (results_cell3 (b := w.heap.size + 1) (o := 0) rfl rfl hB.whole Try.underlying25 rfl (val_info2 _ _)) rfl ?_
        exact ⟨rfl, hb⟩
      · rw [if_neg h1]
        have hr2 := reads_take (cap := cap) hr (k := sz) (by omega)
        have hcut : ∀ W : World, (Instr.slice 33 (.slice a len cap) none (some (.int .i64 (sz : Int))) none).run Try.prog W = .ok (.slice (shift a 0 cap) sz cap) W := fun W => cut_to W a len cap sz (by omega)
        have hx2 : ∀ x ∈ xs.take sz, x < 256 := fun x hm => hx x (List.mem_of_mem_take hm)
        have hn := num_lt sz (xs.take sz) hr2.1 hx2
        have hp : (256 : Nat) ^ sz ≤ 256 ^ 6 := Nat.pow_le_pow_right (by omega) hs6
        have cn : ∀ W, Below w.heap.size w W → Calls Try.prog 32 #[.slice (shift a 0 cap) sz cap] W (Quiet (.int .i64 (num (xs.take sz) : Int)) W) := fun W hb => takeNumber_any _ sz cap (xs.take sz) W (hr2.below hb) hx2 hs6
        have hu : num (xs.take sz) < 281474976710656 := by have : (256 : Nat) ^ 6 = 281474976710656 := by decide
                                                           omega
        clear hr2 hx2 hn hp hr hx
        generalize num (xs.take sz) = u at *
        generalize shift a 0 cap = A2 at *
        have h1' : ¬ (len : Int) < (sz : Int) := by omega
        by_cases h2 : (T : Int) < (u : Int)
        · rw [if_pos h2]
          have h2' : (u : Int) > (T : Int) := h2
          have HI := hid (val_info 0 ⟨#[]⟩)
          have HO := hid (val_one 0 ⟨#[]⟩)
          unfold TakesAs
          rw [show strOf ([] : List Nat) = ⟨#[]⟩ from rfl]
          unfold W2 at HW cr cs ct
          clear h1 h2
          go_enter Try.func19, Try.ntmps19
          go_wp2_with (first
            | (go_at_call 7; (with_reducible refine cr.mono ?_); rintro e w1 ⟨rfl, hb1⟩; obtain ⟨hk1, hres1, hbw1⟩ := HW.out _ hb1)
            | (go_at_call 13; (with_reducible refine (cs _ hb1).mono ?_); rintro e w2 ⟨rfl, hb2⟩; obtain ⟨hk2, hres2, hbw2⟩ := HW.out _ hb2)
            | (go_at_call 32; (with_reducible refine (cn _ hbw2).mono ?_); rintro e w2b ⟨rfl, nn, rfl⟩; have hb2b := below_drewN hb2 nn; obtain ⟨hk2b, hres2b, hbw2b⟩ := HW.out _ hb2b)
            | (go_at_call 28; (with_reducible refine (ct _ hb2b).mono ?_); rintro e w3 ⟨rfl, hb3⟩; obtain ⟨hk3, hres3, hbw3⟩ := HW.out _ hb3; have hth := val_there hres3 0 ⟨#[]⟩)
            | (with_reducible refine wpList_store_named rfl 25 (.tmp 4) (.tmp 39) rfl (w.heap.size + 1) 0 #[.int .i64 0, .string ⟨#[]⟩] rfl rfl hth HI.out HO.out ?_))
          intro w4 hw4
          obtain ⟨hB, hb⟩ := val_stored hres3 hw4 (Nat.le_succ w.heap.size) hbw3
          go_wp2
          refine bodyPost_ret (results_cell3 (b := w.heap.size + 1) (o := 0) rfl rfl hB.whole Try.underlying25 rfl (val_info2 _ _)) rfl ?_
          exact ⟨rfl, hb⟩
        · rw [if_neg h2]
          have h2' : ¬ (u : Int) > (T : Int) := h2
          have hadd : IntKind.i64.wrap (f.lo + (u : Int)) = f.lo + (u : Int) := IntWalk.i64_in _ (by omega)
          have hadd2 : wrap64 (f.lo + (u : Int)) = f.lo + (u : Int) := IntWalk.wrap64_in _ (by omega)
          have HI := hid (val_info (f.lo + (u : Int)) ⟨#[]⟩)
          have HO := hid (val_one (f.lo + (u : Int)) ⟨#[]⟩)
          unfold TakesAs
          rw [show strOf ([] : List Nat) = ⟨#[]⟩ from rfl]
          unfold W2 at HW cr cs ct
          clear h1 h2
          go_enter Try.func19, Try.ntmps19
          go_wp2_with (first
            | (go_at_call 7; (with_reducible refine cr.mono ?_); rintro e w1 ⟨rfl, hb1⟩; obtain ⟨hk1, hres1, hbw1⟩ := HW.out _ hb1)
            | (go_at_call 13; (with_reducible refine (cs _ hb1).mono ?_); rintro e w2 ⟨rfl, hb2⟩; obtain ⟨hk2, hres2, hbw2⟩ := HW.out _ hb2)
            | (go_at_call 32; (with_reducible refine (cn _ hbw2).mono ?_); rintro e w2b ⟨rfl, nn, rfl⟩; have hb2b := below_drewN hb2 nn; obtain ⟨hk2b, hres2b, hbw2b⟩ := HW.out _ hb2b)
            | (go_at_call 28; (with_reducible refine (ct _ hb2b).mono ?_); rintro e w3 ⟨rfl, hb3⟩; obtain ⟨hk3, hres3, hbw3⟩ := HW.out _ hb3; have hth := val_there hres3 (f.lo + (u : Int)) ⟨#[]⟩)
            | (with_reducible refine wpList_store_named rfl 25 (.tmp 4) (.tmp 44) rfl (w.heap.size + 1) 0 #[.int .i64 (f.lo + (u : Int)), .string ⟨#[]⟩] rfl rfl hth HI.out HO.out ?_))
          intro w4 hw4
          obtain ⟨hB, hb⟩ := val_stored hres3 hw4 (Nat.le_succ w.heap.size) hbw3
          go_wp2
          refine bodyPost_ret (results_cell3 (b := w.heap.size + 1) (o := 0) rfl rfl hB.whole Try.underlying25 rfl (val_info2 _ _)) rfl ?_
          exact ⟨rfl, hb⟩
  · rw [decide_eq_false h] at cr
    rw [Fd.take_no h]
    have HI := hid (val_info 0 ⟨#[]⟩)
    have HO := hid (val_one 0 ⟨#[]⟩)
    unfold TakesAs
    rw [show strOf ([] : List Nat) = ⟨#[]⟩ from rfl]
    unfold W2 at HW cr
    clear hr hx h
    go_enter Try.func19, Try.ntmps19
    go_wp2_with (first
      | (go_at_call 7; (with_reducible refine cr.mono ?_); rintro e w1 ⟨rfl, hb1⟩; obtain ⟨hk1, hres1, hbw1⟩ := HW.out _ hb1; have hth := val_there hres1 0 ⟨#[]⟩)
      | (with_reducible refine wpList_store_named rfl 25 (.tmp 4) (.tmp 13) rfl (w.heap.size + 1) 0 #[.int .i64 0, .string ⟨#[]⟩] rfl rfl hth HI.out HO.out ?_))
    intro w3 hw3
    obtain ⟨hB, hb⟩ := val_stored hres1 hw3 (Nat.le_succ w.heap.size) hbw1
    go_wp2
    refine bodyPost_ret (results_cell3 (b := w.heap.size + 1) (o := 0) rfl rfl hB.whole Try.underlying25 rfl (val_info2 _ _)) rfl ?_
    exact ⟨rfl, hb⟩
end Go.Proofs.Ythpiffafakoheaa.field
