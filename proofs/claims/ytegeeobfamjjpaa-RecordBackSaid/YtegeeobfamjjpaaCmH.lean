/- Contracts and lemmas that the claims of this seat share: FieldTake, FieldLay, RecordLay, RecordAwake, RecordKeep, RecordTake. Each says its own conditions. -/
import Derived.Test.YtegeeobfamjjpaaCmG
import Derived.Test.YtegeeobfamjjpaaCmE
import Derived.Test.YtegeeobfamjjpaaCmF
/- Contract of Take of layer 12 (field). No condition. -/
namespace Go.Proofs.Ytegeeobfamjjpaa.field
open Go.RowKit Go.Proofs.Ytegeeobfamjjpaa.cut
set_option linter.unusedVariables false

theorem takes_of {T : Tk} {n : Int} {s : List Nat} {c : Nat} {e : Int} (h : T = ⟨n, s, c, e⟩) {P : Program} {F : FuncId} {args : Array Value} {w : World} (k : Calls P F args w (TakesAs ⟨n, s, c, e⟩ w)) : Calls P F args w (TakesAs T w) := by rw [h]; exact k
theorem Fd.take_no {f : Fd} (h : ¬ f.Right) (xs : List Nat) : f.take xs = ⟨0, [], 0, 2⟩ := by unfold Fd.take; rw [if_pos h]
theorem Fd.take_num {f : Fd} (h : f.Right) (h4 : f.kind ≠ 4) (xs : List Nat) : f.take xs = if xs.length < f.size then ⟨0, [], 0, 5⟩ else if f.great - f.lo < (num (xs.take f.size) : Nat) then ⟨0, [], 0, 16⟩ else ⟨f.lo + (num (xs.take f.size) : Nat), [], f.size, 0⟩ := by
  unfold Fd.take; rw [if_neg (show ¬¬ f.Right from fun k => k h), if_neg h4]
theorem Fd.size_num {f : Fd} (h : f.Right) (h4 : f.kind ≠ 4) : f.size ≤ 6 := by unfold Fd.size; rw [if_pos h, if_neg h4]; exact wide_le _
set_option maxRecDepth 20000 in
set_option maxHeartbeats 4000000 in
theorem take_any (f : Fd) (a : Option Addr) (len cap : Nat) (xs : List Nat) (w : World) (hr : Reads .u8 w a len xs) (hx : ∀ x ∈ xs, x < 256) (hc : len ≤ cap) (hm : cap ≤ 9223372036854775807) :
    Calls Try.prog 31 #[.agg #[.int .i64 f.id, .int .i64 f.kind, .int .i64 f.lo, .int .i64 f.hi, .int .i64 f.most], .slice a len cap] w (TakesAs (f.take xs) w) := by
  have HW := hid (W2.all f w)
  have cr := gives_from (right_any f (W2 f w)) (w0 := W2 f w) (Below.refl _ _)
  by_cases h : f.Right
  · rw [decide_eq_true h] at cr
    by_cases h4 : f.kind = 4
    · have ct : ∀ W, Below (W2 f w).heap.size (W2 f w) W → Calls Try.prog 46 #[.agg #[.int .i64 f.id, .int .i64 f.kind, .int .i64 f.lo, .int .i64 f.hi, .int .i64 f.most], .slice a len cap] W (fun e w' => e = .returned (.tuple #[.agg #[.int .i64 (f.take xs).n, .string (strOf (f.take xs).s)], .int .i64 ((f.take xs).c : Int), .int .i64 (f.take xs).e]) ∧ Below (W2 f w).heap.size (W2 f w) w') := fun W hb =>
        (takeText_any f h h4 a len cap xs W (hr.below (HW.out W hb).2.2) hx hc hm).mono fun _ _ ⟨he, hw⟩ => ⟨he, hb.trans (hw.mono hb.size)⟩
      unfold TakesAs
      generalize f.take xs = T at *
      obtain ⟨tn, ts, tc, te⟩ := T
      simp only at ct ⊢
      generalize strOf ts = Z at *
      unfold W2 at HW cr ct
      have e4 : (f.kind == 4) = true := by rw [beq_iff_eq]; exact h4
      have HI := hid (val_info tn Z)
      have HO := hid (val_one tn Z)
      clear hr hx h h4
      go_enter Try.func31, Try.ntmps31
      go_wp2_with (first
        | (go_at_call 40; (with_reducible refine cr.mono ?_); rintro e w1 ⟨rfl, hb1⟩; obtain ⟨hk1, hres1, hbw1⟩ := HW.out _ hb1)
        | (go_at_call 46; (with_reducible refine (ct _ hb1).mono ?_); rintro e w2 ⟨rfl, hb2⟩; obtain ⟨hk2, hres2, hbw2⟩ := HW.out _ hb2; have hth := val_there hres2 tn Z)
        | (with_reducible refine wpList_store_named rfl 48 (.tmp 4) (.tmp 21) rfl (w.heap.size + 1) 0 #[.int .i64 tn, .string Z] rfl rfl hth HI.out HO.out ?_))
      intro w3 hw3
      obtain ⟨hB, hb⟩ := val_stored hres2 hw3 (Nat.le_succ w.heap.size) hbw2
      go_wp2
      refine bodyPost_ret (results_cell3 (b := w.heap.size + 1) (o := 0) rfl rfl hB.whole Try.underlying48 rfl (val_info2 _ _)) rfl ?_
      exact ⟨rfl, hb⟩
    · rw [Fd.take_num h h4]
      have hlen := hr.1
      rw [hlen]
      have hs6 := Fd.size_num h h4
      have hsp := h.span
      have cs := fun W (hb : Below (W2 f w).heap.size (W2 f w) W) => gives_from (size_any f W) hb
      obtain ⟨T, hT⟩ : ∃ T : Nat, f.great - f.lo = (T : Int) := ⟨(f.great - f.lo).toNat, by omega⟩
      have ct := fun W (hb : Below (W2 f w).heap.size (W2 f w) W) => gives_from (top_any f h W) hb
      rw [hT] at ct ⊢
      have hTb : T ≤ 2199023255552 := by omega
      have s1 := hsp.2.2.1
      have s2 := hsp.2.2.2.1
      have e4 : (f.kind == 4) = false := by rw [beq_eq_false_iff_ne]; exact h4
      clear h h4 hsp hT
      generalize f.size = sz at *
      by_cases h1 : len < sz
      · rw [if_pos h1]
        have HI := hid (val_info 0 ⟨#[]⟩)
        have HO := hid (val_one 0 ⟨#[]⟩)
        unfold TakesAs
        rw [show strOf ([] : List Nat) = ⟨#[]⟩ from rfl]
        unfold W2 at HW cr cs
        clear hr hx ct
        go_enter Try.func31, Try.ntmps31
        go_wp2_with (first
          | (go_at_call 40; (with_reducible refine cr.mono ?_); rintro e w1 ⟨rfl, hb1⟩; obtain ⟨hk1, hres1, hbw1⟩ := HW.out _ hb1)
          | (go_at_call 45; (with_reducible refine (cs _ hb1).mono ?_); rintro e w2 ⟨rfl, hb2⟩; obtain ⟨hk2, hres2, hbw2⟩ := HW.out _ hb2; have hth := val_there hres2 0 ⟨#[]⟩)
          | (with_reducible refine wpList_store_named rfl 48 (.tmp 4) (.tmp 30) rfl (w.heap.size + 1) 0 #[.int .i64 0, .string ⟨#[]⟩] rfl rfl hth HI.out HO.out ?_))
        intro w3 hw3
        obtain ⟨hB, hb⟩ := val_stored hres2 hw3 (Nat.le_succ w.heap.size) hbw2
        go_wp2
        refine bodyPost_ret (results_cell3 (b := w.heap.size + 1) (o := 0) rfl rfl hB.whole Try.underlying48 rfl (val_info2 _ _)) rfl ?_
        exact ⟨rfl, hb⟩
      · rw [if_neg h1]
        have hr2 := reads_take (cap := cap) hr (k := sz) (by omega)
        have hcut : ∀ W : World, (Instr.slice 34 (.slice a len cap) none (some (.int .i64 (sz : Int))) none).run Try.prog W = .ok (.slice (shift a 0 cap) sz cap) W := fun W => cut_to W a len cap sz (by omega)
        have hx2 : ∀ x ∈ xs.take sz, x < 256 := fun x hm => hx x (List.mem_of_mem_take hm)
        have hn := num_lt sz (xs.take sz) hr2.1 hx2
        have hp : (256 : Nat) ^ sz ≤ 256 ^ 6 := Nat.pow_le_pow_right (by omega) hs6
        have cn : ∀ W, Below w.heap.size w W → Calls Try.prog 47 #[.slice (shift a 0 cap) sz cap] W (Quiet (.int .i64 (num (xs.take sz) : Int)) W) := fun W hb => takeNumber_any _ sz cap (xs.take sz) W (hr2.below hb) hx2 hs6
        have hu : num (xs.take sz) < 281474976710656 := by have : (256 : Nat) ^ 6 = 281474976710656 := by decide
                                                           omega
        clear hr2 hx2 hn hp hr hx
        generalize num (xs.take sz) = u at *
        generalize shift a 0 cap = A2 at *
        have h1' : ¬ (len : Int) < (sz : Int) := by omega
        by_cases h2 : (T : Int) < (u : Int)
        · rw [if_pos h2]
          have h2' : (u : Int) > (T : Int) := h2
          have HI := hid (val_info 0 ⟨#[]⟩)
          have HO := hid (val_one 0 ⟨#[]⟩)
          unfold TakesAs
          rw [show strOf ([] : List Nat) = ⟨#[]⟩ from rfl]
          unfold W2 at HW cr cs ct
          clear h1 h2
          go_enter Try.func31, Try.ntmps31
          go_wp2_with (first
            | (go_at_call 40; (with_reducible refine cr.mono ?_); rintro e w1 ⟨rfl, hb1⟩; obtain ⟨hk1, hres1, hbw1⟩ := HW.out _ hb1)
            | (go_at_call 45; (with_reducible refine (cs _ hb1).mono ?_); rintro e w2 ⟨rfl, hb2⟩; obtain ⟨hk2, hres2, hbw2⟩ := HW.out _ hb2)
            | (go_at_call 47; (with_reducible refine (cn _ hbw2).mono ?_); rintro e w2b ⟨rfl, nn, rfl⟩; have hb2b := below_drewN hb2 nn; obtain ⟨hk2b, hres2b, hbw2b⟩ := HW.out _ hb2b)
            | (go_at_call 48; (with_reducible refine (ct _ hb2b).mono ?_); rintro e w3 ⟨rfl, hb3⟩; obtain ⟨hk3, hres3, hbw3⟩ := HW.out _ hb3; have hth := val_there hres3 0 ⟨#[]⟩)
            | (with_reducible refine wpList_store_named rfl 48 (.tmp 4) (.tmp 39) rfl (w.heap.size + 1) 0 #[.int .i64 0, .string ⟨#[]⟩] rfl rfl hth HI.out HO.out ?_))
          intro w4 hw4
          obtain ⟨hB, hb⟩ := val_stored hres3 hw4 (Nat.le_succ w.heap.size) hbw3
          go_wp2
          refine bodyPost_ret (results_cell3 (b := w.heap.size + 1) (o := 0) rfl rfl hB.whole Try.underlying48 rfl (val_info2 _ _)) rfl ?_
          exact ⟨rfl, hb⟩
        · rw [if_neg h2]
          have h2' : ¬ (u : Int) > (T : Int) := h2
          have hadd : IntKind.i64.wrap (f.lo + (u : Int)) = f.lo + (u : Int) := IntWalk.i64_in _ (by omega)
          have hadd2 : wrap64 (f.lo + (u : Int)) = f.lo + (u : Int) := IntWalk.wrap64_in _ (by omega)
          have HI := hid (val_info (f.lo + (u : Int)) ⟨#[]⟩)
          have HO := hid (val_one (f.lo + (u : Int)) ⟨#[]⟩)
          unfold TakesAs
          rw [show strOf ([] : List Nat) = ⟨#[]⟩ from rfl]
          unfold W2 at HW cr cs ct
          clear h1 h2
          go_enter Try.func31, Try.ntmps31
          go_wp2_with (first
            | (go_at_call 40; (with_reducible refine cr.mono ?_); rintro e w1 ⟨rfl, hb1⟩; obtain ⟨hk1, hres1, hbw1⟩ := HW.out _ hb1)
            | (go_at_call 45; (with_reducible refine (cs _ hb1).mono ?_); rintro e w2 ⟨rfl, hb2⟩; obtain ⟨hk2, hres2, hbw2⟩ := HW.out _ hb2)
            | (go_at_call 47; (with_reducible refine (cn _ hbw2).mono ?_); rintro e w2b ⟨rfl, nn, rfl⟩; have hb2b := below_drewN hb2 nn; obtain ⟨hk2b, hres2b, hbw2b⟩ := HW.out _ hb2b)
            | (go_at_call 48; (with_reducible refine (ct _ hb2b).mono ?_); rintro e w3 ⟨rfl, hb3⟩; obtain ⟨hk3, hres3, hbw3⟩ := HW.out _ hb3; have hth := val_there hres3 (f.lo + (u : Int)) ⟨#[]⟩)
            | (with_reducible refine wpList_store_named rfl 48 (.tmp 4) (.tmp 44) rfl (w.heap.size + 1) 0 #[.int .i64 (f.lo + (u : Int)), .string ⟨#[]⟩] rfl rfl hth HI.out HO.out ?_))
          intro w4 hw4
          obtain ⟨hB, hb⟩ := val_stored hres3 hw4 (Nat.le_succ w.heap.size) hbw3
          go_wp2
          refine bodyPost_ret (results_cell3 (b := w.heap.size + 1) (o := 0) rfl rfl hB.whole Try.underlying48 rfl (val_info2 _ _)) rfl ?_
          exact ⟨rfl, hb⟩
  · rw [decide_eq_false h] at cr
    rw [Fd.take_no h]
    have HI := hid (val_info 0 ⟨#[]⟩)
    have HO := hid (val_one 0 ⟨#[]⟩)
    unfold TakesAs
    rw [show strOf ([] : List Nat) = ⟨#[]⟩ from rfl]
    unfold W2 at HW cr
    clear hr hx h
    go_enter Try.func31, Try.ntmps31
    go_wp2_with (first
      | (go_at_call 40; (with_reducible refine cr.mono ?_); rintro e w1 ⟨rfl, hb1⟩; obtain ⟨hk1, hres1, hbw1⟩ := HW.out _ hb1; have hth := val_there hres1 0 ⟨#[]⟩)
      | (with_reducible refine wpList_store_named rfl 48 (.tmp 4) (.tmp 13) rfl (w.heap.size + 1) 0 #[.int .i64 0, .string ⟨#[]⟩] rfl rfl hth HI.out HO.out ?_))
    intro w3 hw3
    obtain ⟨hB, hb⟩ := val_stored hres1 hw3 (Nat.le_succ w.heap.size) hbw1
    go_wp2
    refine bodyPost_ret (results_cell3 (b := w.heap.size + 1) (o := 0) rfl rfl hB.whole Try.underlying48 rfl (val_info2 _ _)) rfl ?_
    exact ⟨rfl, hb⟩
end Go.Proofs.Ytegeeobfamjjpaa.field
/- Contract of Lay of layer 12 (field). No condition. -/
namespace Go.Proofs.Ytegeeobfamjjpaa.field
open Go.RowKit Go.Proofs.Ytegeeobfamjjpaa.cut
set_option linter.unusedVariables false

theorem below_drew {B : Nat} {a w : World} (h : Below B a w) : Below B a w.drew := below_drewN h 1
theorem own_base {w : World} {B base e size n : Nat} {v : Value} {xs : List Value} (h : w.ownsRow base e size v n xs) (hB : B ≤ base) : w.ownsRow B e size v n xs := by
  refine ⟨h.1, ?_⟩
  rcases h.2 with h0 | ⟨g, cap, cur, h1, h2, h3⟩
  · exact .inl h0
  · exact .inr ⟨g, cap, cur, h1, by omega, h3⟩
/-- the call answers a row of its own and an error's number -/
def LaysAs (xs : List Nat) (E : Int) (w : World) (e : Ending) (w' : World) : Prop := ∃ u, e = .returned (.tuple #[u, .int .i64 E]) ∧ w'.ownsRow w.heap.size 5 1 u xs.length (u8v xs) ∧ Below w.heap.size w w'
theorem lay_any (f : Fd) (v : Va) (w : World) : Calls Try.prog 30 #[.agg #[.int .i64 f.id, .int .i64 f.kind, .int .i64 f.lo, .int .i64 f.hi, .int .i64 f.most], .agg #[.int .i64 v.n, .string v.s]] w (LaysAs (f.layB v) (f.layE v) w) := by
  have HW := hid (WV.all f v w)
  have cr := gives_from (right_any f (WV f v w)) (w0 := WV f v w) (Below.refl _ _)
  have ch := fun W (hb : Below (WV f v w).heap.size (WV f v w) W) => gives_from (has_any f v W) hb
  unfold LaysAs
  by_cases h : f.Right
  · rw [decide_eq_true h] at cr
    by_cases hh : f.Has v
    · simp only [decide_eq_true hh] at ch
      have hE : f.layE v = 0 := by unfold Fd.layE; rw [if_neg (show ¬¬ f.Right from fun k => k h), if_neg (show ¬¬ f.Has v from fun k => k hh)]
      rw [hE]
      have hL : f.layB v = if f.kind = 4 then v.s.size :: bytesOf v.s else digits f.size (v.n - f.lo).toNat := by unfold Fd.layB; rw [if_neg (show ¬¬ f.Has v from fun k => k hh)]
      rw [hL]
      have hsp := h.span
      by_cases h4 : f.kind = 4
      · rw [if_pos h4]
        have hs32 : v.s.size ≤ 32 := by obtain ⟨_, _, k⟩ := hh; omega
        have e4 : (f.kind == 4) = true := by rw [beq_iff_eq]; exact h4
        have hbl : (v.s.size :: bytesOf v.s).length = 1 + v.s.size := by rw [List.length_cons, bytesOf_length]; omega
        have hbv : u8v (v.s.size :: bytesOf v.s) = [Value.int .u8 (v.s.size : Int)] ++ Lib.strCells v.s := by rw [strCells_bytes]; rfl
        rw [hbl, hbv]
        obtain ⟨i0, hi, hz0, hz1, hz2⟩ := info_parts u8_info
        have hwr : IntKind.u8.wrap (v.s.size : Int) = (v.s.size : Int) := IntWalk.u8_in _ (by omega)
        unfold WV at HW cr ch
        clear h hh hE hL hsp h4 hbl hbv
        go_enter Try.func30, Try.ntmps30
        go_wp2_with (first
          | (go_at_call 40; (with_reducible refine cr.mono ?_); rintro e w1 ⟨rfl, hb1⟩; obtain ⟨hf1, hv1, hbw1⟩ := HW.out _ hb1)
          | (go_at_call 25; (with_reducible refine (ch _ hb1).mono ?_); rintro e w2 ⟨rfl, hb2⟩; obtain ⟨hf2, hv2, hbw2⟩ := HW.out _ hb2; have hlt : w.heap.size + 1 < w2.heap.size := (by have := hb2.size; simp at this; omega); have hrow := World.ownsRow_lit (base := w.heap.size) (e := 5) (size := 1) w2 #[.int .u8 (v.s.size : Int)] 1 hbw2.size (by unfold maxLen; omega) rfl)
          | (at_builtin; refine Lib.wpList_append_own_string _ rfl _ _ 34 9 rfl w.heap.size 5 i0 Try.underlying34 Try.underlying9 hi hz0 hz1 hz2 (.slice (some ⟨w2.heap.size, 0, none⟩) 1 1) 1 [.int .u8 (v.s.size : Int)] rfl hrow v.s rfl (by unfold maxLen; omega) (by omega) (by simp; omega) ?_))
        intro u w3 ho hg hne
        have hb3 : Below w.heap.size w w3 := (hbw2.alloc hbw2.size _).grown hg (by simp; omega) (fun k hk => by cases hk; exact hbw2.size)
        go_wp2
        go_ret2
        exact ⟨_, rfl, ho, hb3⟩
      · rw [if_neg h4]
        have hs6 := Fd.size_num h h4
        obtain ⟨_, ⟨k1, k2⟩, _⟩ := hh
        obtain ⟨N, hN⟩ : ∃ N : Nat, v.n - f.lo = (N : Int) := ⟨(v.n - f.lo).toNat, by omega⟩
        have hNb : N < 281474976710656 := by omega
        have hwN : IntKind.i64.wrap (v.n - f.lo) = (N : Int) := by rw [IntWalk.i64_in _ (by omega), hN]
        have e4 : (f.kind == 4) = false := by rw [beq_eq_false_iff_ne]; exact h4
        have cs := fun W (hb : Below (WV f v w).heap.size (WV f v w) W) => gives_from (size_any f W) hb
        rw [hN, show ((N : Int)).toNat = N from rfl, digits_length]
        generalize f.size = sz at *
        have cl : ∀ W, Below w.heap.size w W → Calls Try.prog 44 #[.int .i64 (IntKind.i64.wrap (v.n - f.lo)), .int .i64 (sz : Int)] W (fun e w' => ∃ u, e = .returned u ∧ w'.ownsRow w.heap.size 5 1 u sz (u8v (digits sz N)) ∧ Below W.heap.size W w') := fun W hb => by
          rw [hwN]
          exact (layNumber_any N sz hNb hs6 W).mono fun _ _ ⟨u, h1, h2, h3⟩ => ⟨u, h1, own_base h2 hb.size, h3⟩
        unfold WV at HW cr ch cs
        clear h hE hL hsp h4 k1 k2 hwN hN
        go_enter Try.func30, Try.ntmps30
        go_wp2_with (first
          | (go_at_call 40; (with_reducible refine cr.mono ?_); rintro e w1 ⟨rfl, hb1⟩; obtain ⟨hf1, hv1, hbw1⟩ := HW.out _ hb1)
          | (go_at_call 25; (with_reducible refine (ch _ hb1).mono ?_); rintro e w2 ⟨rfl, hb2⟩; obtain ⟨hf2, hv2, hbw2⟩ := HW.out _ hb2))
        have hb2d := below_drew hb2
        have hkd := HW.out w2.drew hb2d
        obtain ⟨hfd, hvd, hbwd⟩ := hkd
        go_region_held3 (fun w' => (w'.cell? ⟨w.heap.size, 0, none⟩ = some (.int .i64 f.id) ∧ w'.cell? ⟨w.heap.size, 1, none⟩ = some (.int .i64 f.kind) ∧ w'.cell? ⟨w.heap.size, 2, none⟩ = some (.int .i64 f.lo) ∧ w'.cell? ⟨w.heap.size, 3, none⟩ = some (.int .i64 f.hi) ∧ w'.cell? ⟨w.heap.size, 4, none⟩ = some (.int .i64 f.most)) ∧ (w'.cell? ⟨w.heap.size + 1, 0, none⟩ = some (.int .i64 v.n) ∧ w'.cell? ⟨w.heap.size + 1, 1, none⟩ = some (.string v.s))) (first | assumption | go_keep) (first
          | (go_at_call 45; (with_reducible refine (cs _ hb2d).mono ?_); rintro e w3 ⟨rfl, hb3⟩; obtain ⟨hf3, hv3, hbw3⟩ := HW.out _ hb3)
          | (go_at_call 44; (with_reducible refine (cl _ hbw3).mono ?_); rintro e w4 ⟨u, rfl, ho, hb4⟩; have hb4' := hb3.trans (hb4.mono hb3.size); obtain ⟨hf4, hv4, hbw4⟩ := HW.out _ hb4'))
        go_wp2
        go_ret2
        exact ⟨_, rfl, ho, hbw4⟩
    · simp only [decide_eq_false hh] at ch
      have hE : f.layE v = 16 := by unfold Fd.layE; rw [if_neg (show ¬¬ f.Right from fun k => k h), if_pos hh]
      have hL : f.layB v = [] := by unfold Fd.layB; rw [if_pos hh]
      rw [hE, hL]
      unfold WV at HW cr ch
      clear h hh hE hL
      go_enter Try.func30, Try.ntmps30
      go_wp2_with (first
        | (go_at_call 40; (with_reducible refine cr.mono ?_); rintro e w1 ⟨rfl, hb1⟩; obtain ⟨hf1, hv1, hbw1⟩ := HW.out _ hb1)
        | (go_at_call 25; (with_reducible refine (ch _ hb1).mono ?_); rintro e w2 ⟨rfl, hb2⟩; obtain ⟨hf2, hv2, hbw2⟩ := HW.out _ hb2))
      go_ret2
      exact ⟨_, rfl, World.ownsRow_nil _ _ _ _, hbw2⟩
  · rw [decide_eq_false h] at cr
    have hE : f.layE v = 2 := by unfold Fd.layE; rw [if_pos h]
    have hL : f.layB v = [] := by unfold Fd.layB; rw [if_pos (fun k => h k.1)]
    rw [hE, hL]
    unfold WV at HW cr ch
    clear h hE hL
    go_enter Try.func30, Try.ntmps30
    go_wp2_with (go_at_call 40; (with_reducible refine cr.mono ?_); rintro e w1 ⟨rfl, hb1⟩; obtain ⟨hf1, hv1, hbw1⟩ := HW.out _ hb1)
    go_ret2
    exact ⟨_, rfl, World.ownsRow_nil _ _ _ _, hbw1⟩
end Go.Proofs.Ytegeeobfamjjpaa.field
/- Contracts of layer 14 (record): Lay, with the function that it hands to belongs. No condition. -/
namespace Go.Proofs.Ytegeeobfamjjpaa.record
open Go.RowKit
open Go.Proofs.Ytegeeobfamjjpaa.field (Va Gives newB gives_from WV lay_any LaysAs u8v u8v_length u8_info)
open Go.Proofs.Ytegeeobfamjjpaa.schema (below_out field_at Fine boxM fine_any own_cap)
set_option linter.unusedVariables false

theorem u8v_append (xs ys : List Nat) : u8v (xs ++ ys) = u8v xs ++ u8v ys := by simp [u8v]
theorem u8v_one (xs : List Nat) : ∀ v ∈ u8v xs, v.oneCell' = true := by intro v hv; obtain ⟨x, _, rfl⟩ := List.mem_map.1 hv; rfl
/-- a row of the call's own, as what an append takes -/
theorem own_news {w : World} {base e n cap : Nat} {a : Option Addr} {xs : List Value} (h : w.ownsRow base e 1 (.slice a n cap) n xs) : n = 0 ∨ ∃ ad, a = some ad ∧ ∀ j u, xs[j]? = some u → w.cell? (ad.add j) = some u := by
  obtain ⟨hl, hr⟩ := h
  rcases hr with ⟨hv, h0⟩ | ⟨b, cap', cur, hv, _, hg, hcp, _, _, htake⟩
  · exact .inl h0
  · cases hv
    refine .inr ⟨_, rfl, fun j u hj => ?_⟩
    have hi : j < xs.length := (List.getElem?_eq_some_iff.1 hj).1
    rw [← htake, List.getElem?_take, if_pos (by omega)] at hj
    rw [Addr.add_lit, cell_of_row w b _ cur _ _ hg, Nat.zero_add, ← hj, Array.getElem?_toList]
/-- the variable at B holds the row u of the bytes xs, which lies behind B; what lay before B is as in w0 -/
structure BS (w0 : World) (B : Nat) (xs : List Nat) (u : Value) (w : World) : Prop where
  f : Block w B 34 [u]
  row : w.ownsRow (B + 1) 5 1 u xs.length (u8v xs)
  low : Below w0.heap.size w0 w
  at' : w0.heap.size = B
theorem BS.later {w0 w w' : World} {B : Nat} {xs : List Nat} {u : Value} (h : BS w0 B xs u w) (hb : Below w.heap.size w w') : BS w0 B xs u w' :=
  ⟨h.f.later hb, ownsRow_later h.row hb, h.low.trans (hb.mono h.low.size), h.at'⟩
theorem BS.held {w0 w w' : World} {B : Nat} {xs : List Nat} {u : Value} (h : BS w0 B xs u w) (hg : w.grownBy w' u.ownBlock) : Block w' B 34 [u] :=
  (hg.block B h.f.lt (by intro he; have := World.ownsRow.lt h.row B he.symm; omega)).trans h.f
theorem BS.push {w0 w w' : World} {B : Nat} {xs ys : List Nat} {u z : Value} (h : BS w0 B xs u w) (hg : w.grownBy w' u.ownBlock) (ho : w'.ownsRow (B + 1) 5 1 z (xs.length + ys.length) (u8v xs ++ u8v ys)) : BS w0 B (xs ++ ys) z (w'.setCell ⟨B, 0, none⟩ z) := by
  have hF := h.held hg
  refine ⟨hF.setCell 0 z, ?_, ?_, h.at'⟩
  · rw [List.length_append, u8v_append]
    refine ownsRow_heap ho (fun g hg => ?_)
    have := World.ownsRow.lt ho g hg
    exact Below.heap_setCell w' ⟨B, 0, none⟩ z g (by show g ≠ B; omega)
  · have hl := h.low.grown hg (by have := h.low.size; omega) (fun k hk => by have := World.ownsRow.lt h.row k hk; have := h.at'; omega)
    exact below_setCells hl (Nat.le_of_eq h.at') 0 [z]
theorem BS.start (w1 : World) : BS w1 w1.heap.size [] (.slice none 0 0) (w1.alloc (.cells #[.slice none 0 0] 34)) :=
  ⟨Block.new w1 34 [.slice none 0 0], World.ownsRow_nil _ _ _ _, newB _ _, rfl⟩
theorem layE_zero (f : field.Fd) (v : Va) : (f.layE v == 0) = decide (f.Has v) := by
  unfold field.Fd.layE
  by_cases h : f.Has v
  · rw [if_neg (fun k => k h.1), if_neg (fun k => k h), decide_eq_true h]; rfl
  · rw [decide_eq_false h]
    by_cases hr : f.Right
    · rw [if_neg (fun k => k hr), if_pos h]; rfl
    · rw [if_pos hr]; rfl
theorem layOne_any (f : field.Fd) (v : Va) (w0 : World) (B : Nat) (xs : List Nat) (u : Value) (w : World) (h : BS w0 B xs u w) (hx : xs.length ≤ 1000000) :
    Calls Try.prog 29 #[.agg #[.int .i64 f.id, .int .i64 f.kind, .int .i64 f.lo, .int .i64 f.hi, .int .i64 f.most], .agg #[.int .i64 v.n, .string v.s], .pointer (some ⟨B, 0, none⟩)] w fun e w' => e = .returned (.bool (decide (f.Has v))) ∧ ∃ u', BS w0 B (xs ++ f.layB v) u' w' := by
  have HW := hid (WV.all f v w)
  have cl := lay_any f v (WV f v w)
  have hl33 : (f.layB v).length ≤ 33 := Nat.le_trans (layB_le f v) f.size_le
  have HS := hid h
  have HE := hid (layE_zero f v)
  obtain ⟨r, hr⟩ : ∃ r, Hid (decide (f.Has v) = r) := ⟨_, hid rfl⟩
  rw [hr.out] at HE ⊢
  obtain ⟨i0, hi, hz0, hz1, hz2⟩ := info_parts u8_info
  unfold LaysAs at cl
  generalize f.layB v = Y at *
  have heq : (f.layE v == 0) = r := HE.out
  generalize f.layE v = E at *
  unfold WV at HW cl
  clear h
  obtain ⟨ua, uc, rfl, _⟩ := ownsRow_slice HS.out.row
  go_enter Try.func29, Try.ntmps29
  go_wp2_with (first
    | (go_at_call 30; ((with_reducible refine cl.mono ?_); rintro e w2 ⟨z, rfl, ho2, hb2⟩; obtain ⟨hf2, hv2, hbw2⟩ := HW.out _ hb2; obtain ⟨za, zc, rfl, _⟩ := ownsRow_slice ho2; have HS2 := hid (HS.out.later hbw2); have hB0 := HS2.out.f.cell 0; have HN := hid (own_news ho2); have HUL := hid (u8v_length Y)))
    | (at_builtin; refine wpList_append_from rfl _ _ 34 rfl (B + 1) 5 i0 (.int .u8 0) 1 Try.underlying34 hi hz0 hz1 hz2 rfl _ xs.length (u8v xs) rfl HS2.out.row za Y.length zc (u8v Y) rfl HUL.out HN.out (u8v_one Y) (by unfold maxLen; omega) (by omega) HS2.out.f.lt ?_; intro z w3 ho3 hg3; have hF3 := HS2.out.held hg3; have hc3 := hF3.cell 0; have hz3 := hF3.frozen 0; have HS3 := hid (HS2.out.push hg3 ho3); obtain ⟨qa, qc, rfl, _⟩ := ownsRow_slice ho3; clear ho3 hg3 hF3))
  go_ret
  exact ⟨by first | rfl | exact ret_bool (by assumption), _, HS3.out⟩
theorem lay_bound (L : List field.Fd) (V : List Va) (k : Nat) (h : L.length ≤ 8) : (layL (L.take k) (V.take k)).length ≤ 1000000 := by
  have := layL_small (L.take k) (V.take k)
  have : (L.take k).length ≤ L.length := by rw [List.length_take]; omega
  omega
theorem layL_zero (L : List field.Fd) (V : List Va) : layL (L.take 0) (V.take 0) = [] := by simp [layL]
theorem equalFuncLay_any (a : Option Addr) (ca : Nat) (L : List field.Fd) (b : Option Addr) (cb : Nat) (V : List Va) (w0 : World) (B : Nat) (u : Value) (w : World) (h : field.Fds w0 a L) (h' : field.Vas w0 b V) (hL : L.length ≤ 8) (hV : V.length ≤ maxLen) (hS : BS w0 B [] u w) :
    Calls Try.prog 39 #[.slice a L.length ca, .slice b V.length cb, .func (.func 29) #[] #[.pointer (some ⟨B, 0, none⟩)]] w fun e w' => e = .returned (.bool (decide (HasL L V))) ∧ ∃ xs u', BS w0 B xs u' w' ∧ (HasL L V → xs = layL L V) := by
  have hml : (L.length : Int) ≤ 9223372036854775807 := by omega
  have hmm : (V.length : Int) ≤ 9223372036854775807 := by unfold maxLen at hV; omega
  have HF := hid h
  have HG := hid h'
  have HS0 := hid hS
  obtain ⟨r, hr⟩ : ∃ r : Bool, Hid (decide (HasL L V) = r) := ⟨_, rfl⟩
  rw [hr.out]
  have HBD := hid (fun k => lay_bound L V k hL)
  clear h h' hV hS
  by_cases hlen : L.length = V.length
  · have HLEN := hid hlen
    rw [← hlen]
    clear hlen hmm hL
    go_enter Try.func39, Try.ntmps39
    go_wp2
    go_loopw [17] (fun n wr => ∃ k : Nat, k ≤ L.length ∧ n = .int .i64 (k : Int) ∧ Hid (HasL (L.take k) (V.take k)) ∧ Hid (∃ u, BS w0 B (layL (L.take k) (V.take k)) u wr)) (fun n _ => L.length - (intOf n).toNat)
    case atStart => exact ⟨0, Nat.zero_le _, rfl, hid (by simp [HasL]), hid ⟨u, by rw [layL_zero]; exact HS0.out⟩⟩
    case round =>
      obtain ⟨k, hk, rfl, HEQ, HS⟩ := hrel
      obtain ⟨uk, hS⟩ := HS.out
      by_cases hlt : k < L.length
      · obtain ⟨g, off, p, rfl, hbl, hp, c0, c1, c2, c3, c4⟩ := field_at HF.out hS.low hlt
        obtain ⟨g', off', q, rfl, hbl', hq, d0, d1⟩ := val_at HG.out hS.low (k := k) (by rw [← HLEN.out]; exact hlt)
        have i1 : (k : Int) < L.length := by omega
        have HSU := hid (hasL_take hp hq)
        have HNE := hid (fun hpq => hasL_whole hp hq hpq)
        have HLT := hid (layL_take hp hq)
        have cS := layOne_any p q w0 B _ uk (WV p q wr) (hS.later (WV.all p q wr _ (Below.refl _ _)).2.2) (HBD.out k)
        unfold WV at cS
        clear hp hq HS
        have HSW := hid hS
        clear hS
        by_cases hpq : p.Has q
        · rw [decide_eq_true hpq] at cS
          have HPQ := hid hpq
          clear hpq
          go_wp2_with (go_at_call 29; ((with_reducible refine cS.mono ?_); rintro e w2 ⟨rfl, u2, hs2⟩; have HS2 := hid hs2; clear hs2))
          exact ⟨⟨k + 1, by omega, by go_num, hid (HSU.out.2 ⟨HEQ.out, HPQ.out⟩), hid ⟨u2, by rw [HLT.out]; exact HS2.out⟩⟩, by simp [intOf]; omega⟩
        · rw [decide_eq_false hpq] at cS
          obtain rfl : false = r := by rw [← hr.out]; exact (decide_eq_false (HNE.out hpq)).symm
          have HNO := hid (HNE.out hpq)
          clear hpq
          go_wp2_with (go_at_call 29; ((with_reducible refine cS.mono ?_); rintro e w2 ⟨rfl, u2, hs2⟩; have HS2 := hid hs2; clear hs2))
          go_ret
          exact ⟨rfl, _, _, HS2.out, fun k => absurd k HNO.out⟩
      · obtain rfl : k = L.length := by omega
        obtain rfl : true = r := by rw [← hr.out]; exact (decide_eq_true (hasL_all HLEN.out HEQ.out)).symm
        have HSW := hid hS
        clear hS HS
        go_wp2
        go_ret
        exact ⟨rfl, _, _, HSW.out, fun _ => by rw [List.take_of_length_le (Nat.le_refl _), List.take_of_length_le (by rw [HLEN.out]; exact Nat.le_refl _)]⟩
  · obtain rfl : false = r := by rw [← hr.out]; exact (decide_eq_false (fun e => hlen e.length)).symm
    have hd : ((L.length : Int) == (V.length : Int)) = false := by rw [beq_eq_false_iff_ne]; omega
    have HLEN := hid hlen
    clear hlen
    go_enter Try.func39, Try.ntmps39
    go_wp2
    go_ret
    exact ⟨rfl, _, _, HS0.out, fun k => absurd k.length HLEN.out⟩
theorem belongsLay_any (i : Int) (a : Option Addr) (c : Nat) (L : List field.Fd) (j : Int) (b : Option Addr) (d : Nat) (V : List Va) (w0 : World) (B : Nat) (u : Value) (w : World) (h : field.Fds w0 a L) (h' : field.Vas w0 b V) (hL : L.length ≤ 8) (hV : V.length ≤ maxLen) (hS : BS w0 B [] u w) :
    Calls Try.prog 24 #[.agg #[.int .i64 i, .slice a L.length c], .agg #[.int .i64 j, .slice b V.length d], .func (.func 29) #[] #[.pointer (some ⟨B, 0, none⟩)]] w fun e w' => e = .returned (.bool (decide (j = i ∧ HasL L V))) ∧ ∃ xs u', BS w0 B xs u' w' ∧ (HasL L V → j = i → xs = layL L V) := by
  have HX := hid (WF.all i a L c j b V d w)
  have hw := (WF.all i a L c j b V d w _ (Below.refl _ _)).2.2.2.2
  have cE := equalFuncLay_any a c L b d V w0 B u (WF i a L c j b V d w) h h' hL hV (hS.later hw)
  have HW := hid (hS.later hw)
  clear h h' hL hV hw hS
  by_cases hij : j = i
  · subst hij
    rw [show decide (j = j ∧ HasL L V) = decide (HasL L V) by simp]
    obtain ⟨H, hH⟩ : ∃ H : List Nat → Prop, Hid (∀ xs, H xs ↔ (HasL L V → xs = layL L V)) := ⟨_, hid fun _ => Iff.rfl⟩
    simp only [← hH.out] at cE
    generalize decide (HasL L V) = r at *
    unfold WF at HX cE HW
    go_enter Try.func24, Try.ntmps24
    go_wp2_with (go_at_call 39; ((with_reducible refine cE.mono ?_); rintro e w2 ⟨rfl, xs2, u2, hs2, hx2⟩; have HS2 := hid hs2; have HX2 := hid hx2; clear hs2 hx2))
    go_ret
    exact ⟨rfl, _, _, HS2.out, fun k _ => (hH.out _).1 HX2.out k⟩
  · have hd : (j == i) = false := by rw [beq_eq_false_iff_ne]; exact hij
    rw [show decide (j = i ∧ HasL L V) = false from decide_eq_false (fun e => hij e.1)]
    have HIJ := hid hij
    clear hij cE
    unfold WF at HX HW
    go_enter Try.func24, Try.ntmps24
    go_wp2
    go_ret
    exact ⟨rfl, _, _, HW.out, fun _ k => absurd k HIJ.out⟩
theorem hmf (fn : Fn) (first cap : Array Value) (w : World) : (Instr.makeFunc fn first cap).run Try.prog w = .ok (.func fn first cap) w := rfl
/-- the call answers a row of bytes of its own and an error -/
def LaysR (ys : List Nat) (E : Int) (w : World) (e : Ending) (w' : World) : Prop := ∃ z, e = .returned (.tuple #[z, .int .i64 E]) ∧ w'.ownsRow w.heap.size 5 1 z ys.length (u8v ys) ∧ Below w.heap.size w w'
theorem layR_any (i : Int) (a : Option Addr) (c : Nat) (L : List field.Fd) (j : Int) (b : Option Addr) (d : Nat) (V : List Va) (w : World) (h : field.Fds w a L) (h' : field.Vas w b V) (hL : L.length ≤ maxLen) (hV : V.length ≤ maxLen) :
    Calls Try.prog 15 #[.agg #[.int .i64 i, .slice a L.length c], .agg #[.int .i64 j, .slice b V.length d]] w (LaysR (layB i L j V) (layE i L j V) w) := by
  have HX := hid (WF.all i a L c j b V d w)
  have hw := (WF.all i a L c j b V d w _ (Below.refl _ _)).2.2.2.2
  have cF := fine_any i a c L (WF i a L c j b V d w) (h.below hw) hL
  have HF := hid (h.below hw)
  have HG := hid (h'.below hw)
  unfold LaysR
  unfold Gives at cF
  have hm := fun fn first cap w => hmf fn first cap w
  by_cases hf : Fine (i, L)
  · rw [decide_eq_true hf] at cF
    have hL8 := fine_len hf
    have cB := fun w1 (hb : Below (WF i a L c j b V d w).heap.size (WF i a L c j b V d w) w1) => belongsLay_any i a c L j b d V w1 w1.heap.size (.slice none 0 0) (w1.alloc (.cells #[.slice none 0 0] 34)) ((h.below hw).below hb) ((h'.below hw).below hb) hL8 hV (BS.start w1)
    clear h h' hL hV hw
    by_cases hh : j = i ∧ HasL L V
    · rw [show layE i L j V = 0 from (if_neg (fun k => k hf)).trans (if_neg (fun k => k hh)), show layB i L j V = layL L V from if_pos ⟨hf, hh⟩]
      simp only [decide_eq_true hh] at cB
      have HH := hid hh
      clear hh hf hL8
      unfold WF at HX cF HF HG cB
      obtain ⟨H, hH⟩ : ∃ H : List Nat → Prop, Hid (∀ xs, H xs ↔ (HasL L V → j = i → xs = layL L V)) := ⟨_, hid fun _ => Iff.rfl⟩
      simp only [← hH.out] at cB
      go_enter Try.func15, Try.ntmps15
      go_wp2_with (first
        | (go_at_call 23; ((with_reducible refine cF.mono ?_); rintro e w1 ⟨rfl, hb1⟩; obtain ⟨z0, z1, z2, z3, hbo⟩ := HX.out _ hb1; have cB1 := cB _ hb1; have hsz : w.heap.size + 1 < w1.heap.size := (by have := hb1.size; simp at this; omega); have hsz0 : w.heap.size < w1.heap.size := (by omega); have HBO := hid hbo; clear hbo))
        | (go_at_call 24; ((with_reducible refine cB1.mono ?_); rintro e w2 ⟨rfl, xs2, u2, hs2, hx2⟩; have HS2 := hid hs2; have HX2 := hid hx2; have hc2 := hs2.f.cell 0; obtain ⟨ua, uc, rfl, _⟩ := ownsRow_slice hs2.row; clear hs2 hx2)))
      go_ret2
      obtain rfl := (hH.out _).1 HX2.out HH.out.2 HH.out.1
      exact ⟨_, rfl, schema.own_low HS2.out.row (by omega), HBO.out.trans (HS2.out.low.mono HBO.out.size)⟩
    · rw [show layE i L j V = 16 from (if_neg (fun k => k hf)).trans (if_pos hh), show layB i L j V = [] from if_neg (fun k => hh k.2)]
      simp only [decide_eq_false hh] at cB
      clear hh hf hL8
      unfold WF at HX cF HF HG cB
      obtain ⟨H, hH⟩ : ∃ H : List Nat → Prop, Hid (∀ xs, H xs ↔ (HasL L V → j = i → xs = layL L V)) := ⟨_, hid fun _ => Iff.rfl⟩
      simp only [← hH.out] at cB
      go_enter Try.func15, Try.ntmps15
      go_wp2_with (first
        | (go_at_call 23; ((with_reducible refine cF.mono ?_); rintro e w1 ⟨rfl, hb1⟩; obtain ⟨z0, z1, z2, z3, hbo⟩ := HX.out _ hb1; have cB1 := cB _ hb1; have hsz : w.heap.size + 1 < w1.heap.size := (by have := hb1.size; simp at this; omega); have hsz0 : w.heap.size < w1.heap.size := (by omega); have HBO := hid hbo; clear hbo))
        | (go_at_call 24; ((with_reducible refine cB1.mono ?_); rintro e w2 ⟨rfl, xs2, u2, hs2, hx2⟩; have HS2 := hid hs2; clear hs2 hx2)))
      go_ret2
      exact ⟨_, rfl, World.ownsRow_nil _ _ _ _, HBO.out.trans (HS2.out.low.mono HBO.out.size)⟩
  · rw [decide_eq_false hf] at cF
    rw [show layE i L j V = 2 from if_pos hf, show layB i L j V = [] from if_neg (fun k => hf k.1)]
    clear h h' hL hV hw hf
    unfold WF at HX cF
    go_enter Try.func15, Try.ntmps15
    go_wp2_with (go_at_call 23; ((with_reducible refine cF.mono ?_); rintro e w1 ⟨rfl, hb1⟩; obtain ⟨z0, z1, z2, z3, hbo⟩ := HX.out _ hb1))
    go_ret2
    exact ⟨_, rfl, World.ownsRow_nil _ _ _ _, hbo⟩
end Go.Proofs.Ytegeeobfamjjpaa.record
/- Contracts of the law file's great and awake of layer 14. No condition. -/
namespace Go.Proofs.Ytegeeobfamjjpaa.record
open Go.RowKit
open Go.Proofs.Ytegeeobfamjjpaa.field (Va Gives newB u8v)
open Go.Proofs.Ytegeeobfamjjpaa.schema (Fine)
set_option linter.unusedVariables false

theorem great_any (i : Int) (a : Option Addr) (c : Nat) (L : List field.Fd) (j : Int) (b : Option Addr) (d : Nat) (V : List Va) (w : World) (r : Bool) (hr : decide (40 < L.length ∨ 40 < V.length) = r) :
    Calls Try.prog 6 #[.agg #[.int .i64 i, .slice a L.length c], .agg #[.int .i64 j, .slice b V.length d]] w (Gives (.bool r) w) := by
  have HX := hid (WF.all i a L c j b V d w)
  have HW := hid ((WF.all i a L c j b V d w _ (Below.refl _ _)).2.2.2.2)
  unfold WF at HX HW
  have HR := hid hr
  unfold Gives
  clear hr
  by_cases h1 : 40 < L.length
  · obtain rfl : true = r := by rw [← HR.out]; exact (decide_eq_true (.inl h1)).symm
    have i1 : ((L.length : Int) > 40) := by omega
    have i2 : decide ((L.length : Int) > 40) = true := decide_eq_true i1
    go_enter Try.func6, Try.ntmps6
    go_wp2
    go_ret
    exact ⟨rfl, HW.out⟩
  · have i2 : decide ((L.length : Int) > 40) = false := decide_eq_false (by omega)
    have i3 : ¬ (40 < (L.length : Int)) := by omega
    by_cases h2 : 40 < V.length
    · obtain rfl : true = r := by rw [← HR.out]; exact (decide_eq_true (.inr h2)).symm
      have i4 : decide ((V.length : Int) > 40) = true := decide_eq_true (by omega)
      have i5 : (40 < (V.length : Int)) := by omega
      go_enter Try.func6, Try.ntmps6
      go_wp2
      go_ret
      exact ⟨rfl, HW.out⟩
    · obtain rfl : false = r := by rw [← HR.out]; exact (decide_eq_false (by omega)).symm
      have i4 : decide ((V.length : Int) > 40) = false := decide_eq_false (by omega)
      have i5 : ¬ (40 < (V.length : Int)) := by omega
      go_enter Try.func6, Try.ntmps6
      go_wp2
      go_ret
      exact ⟨rfl, HW.out⟩
def fa : field.Fd := ⟨1, 2, 0, 0, 0⟩
def fb : field.Fd := ⟨2, 4, 0, 0, 3⟩
def va : Va := ⟨1, ⟨#[]⟩⟩
def vb : Va := ⟨0, ⟨#[97, 98]⟩⟩
theorem fine1 : Fine (5, [fa, fb]) := by decide
theorem lay1 : layB 5 [fa, fb] 5 [va, vb] = [1, 2, 97, 98] := by decide +kernel
theorem layE1 : layE 5 [fa, fb] 5 [va, vb] = 0 := by decide +kernel
theorem first1 : (firstR 5 [fa, fb]).2.length = 2 ∧ (firstR 5 [fa, fb]).1 = 5 := by decide +kernel
set_option maxRecDepth 20000 in
theorem awake_any (w : World) : Calls Try.prog 7 #[] w (Yes w) := by
  obtain ⟨W1, hW1⟩ : ∃ x, Hid (w.alloc (.cells #[.int .i64 1, .int .i64 2, .int .i64 0, .int .i64 0, .int .i64 0, .int .i64 2, .int .i64 4, .int .i64 0, .int .i64 0, .int .i64 3] 46) = x) := ⟨_, hid rfl⟩
  have b1 := newB w (.cells #[.int .i64 1, .int .i64 2, .int .i64 0, .int .i64 0, .int .i64 0, .int .i64 2, .int .i64 4, .int .i64 0, .int .i64 0, .int .i64 3] 46)
  have hBF := Block.new w 46 [.int .i64 1, .int .i64 2, .int .i64 0, .int .i64 0, .int .i64 0, .int .i64 2, .int .i64 4, .int .i64 0, .int .i64 0, .int .i64 3]
  have s1 : W1.heap.size = w.heap.size + 1 := by rw [← hW1.out]; simp
  rw [show (w.alloc (.cells [.int .i64 1, .int .i64 2, .int .i64 0, .int .i64 0, .int .i64 0, .int .i64 2, .int .i64 4, .int .i64 0, .int .i64 0, .int .i64 3].toArray 46)) = W1 from hW1.out] at hBF
  rw [hW1.out] at b1
  obtain ⟨W2, hW2⟩ : ∃ x, Hid (W1.alloc (.cells #[.int .i64 5, .slice (some ⟨w.heap.size, 0, none⟩) 2 2] 24) = x) := ⟨_, hid rfl⟩
  have b2 := newB W1 (.cells #[.int .i64 5, .slice (some ⟨w.heap.size, 0, none⟩) 2 2] 24)
  have hBM := Block.new W1 24 [.int .i64 5, .slice (some ⟨w.heap.size, 0, none⟩) 2 2]
  rw [show (W1.alloc (.cells [.int .i64 5, .slice (some ⟨w.heap.size, 0, none⟩) 2 2].toArray 24)) = W2 from hW2.out, s1] at hBM
  rw [hW2.out] at b2
  have s2 : W2.heap.size = w.heap.size + 1 + 1 := by rw [← hW2.out]; simp [s1]
  obtain ⟨W3, hW3⟩ : ∃ x, Hid (W2.alloc (.cells #[.int .i64 1, .string ⟨#[]⟩, .int .i64 0, .string ⟨#[97, 98]⟩] 48) = x) := ⟨_, hid rfl⟩
  have b3 := newB W2 (.cells #[.int .i64 1, .string ⟨#[]⟩, .int .i64 0, .string ⟨#[97, 98]⟩] 48)
  have hBV := Block.new W2 48 [.int .i64 1, .string ⟨#[]⟩, .int .i64 0, .string ⟨#[97, 98]⟩]
  rw [show (W2.alloc (.cells [.int .i64 1, .string ⟨#[]⟩, .int .i64 0, .string ⟨#[97, 98]⟩].toArray 48)) = W3 from hW3.out, s2] at hBV
  rw [hW3.out] at b3
  replace hBF := (hBF.later b2).later b3
  replace hBM := hBM.later b3
  have hb03 := b1.trans ((b2.mono b1.size).trans (b3.mono (Nat.le_trans b1.size b2.size)))
  have hfds : field.Fds W3 (some ⟨w.heap.size, 0, none⟩) [fa, fb] := by
    refine .inr ⟨w.heap.size, 0, rfl, hBF.lt, fun i p hp => ?_⟩
    rcases i with _ | _ | i
    · simp at hp; subst hp; exact ⟨hBF.cell 0, hBF.cell 1, hBF.cell 2, hBF.cell 3, hBF.cell 4⟩
    · simp at hp; subst hp; exact ⟨hBF.cell 5, hBF.cell 6, hBF.cell 7, hBF.cell 8, hBF.cell 9⟩
    · simp at hp
  have hvas : field.Vas W3 (some ⟨w.heap.size + 1 + 1, 0, none⟩) [va, vb] := by
    refine .inr ⟨w.heap.size + 1 + 1, 0, rfl, hBV.lt, fun i p hp => ?_⟩
    rcases i with _ | _ | i
    · simp at hp; subst hp; exact ⟨hBV.cell 0, hBV.cell 1⟩
    · simp at hp; subst hp; exact ⟨hBV.cell 2, hBV.cell 3⟩
    · simp at hp
  have cL := layR_any 5 (some ⟨w.heap.size, 0, none⟩) 2 [fa, fb] 5 (some ⟨w.heap.size + 1 + 1, 0, none⟩) 2 [va, vb] W3 hfds hvas (by unfold maxLen; simp) (by unfold maxLen; simp)
  have cF := fun w' (hb : Below W3.heap.size W3 w') => first_any 5 (some ⟨w.heap.size, 0, none⟩) 2 [fa, fb] w' (hfds.below hb) (by unfold maxLen; simp)
  unfold LaysR at cL
  unfold RecAs at cF
  rw [lay1, layE1] at cL
  simp only [first1.1, first1.2] at cF
  have HB := hid (fun w' (hb : Below W3.heap.size W3 w') => hb03.trans (hb.mono hb03.size))
  have HBM := hid hBM
  have HS : Hid (strOf [1, 2, 97, 98] = ⟨#[1, 2, 97, 98]⟩) := by show _ = _; decide
  simp only [List.length_cons, List.length_nil, Nat.zero_add] at cL cF
  clear hfds hvas hBF hBM hBV b1 b2 b3 hb03
  rw [← hW3.out, ← hW2.out, ← hW1.out] at cL
  have HW : Hid (((w.alloc (.cells #[.int .i64 1, .int .i64 2, .int .i64 0, .int .i64 0, .int .i64 0, .int .i64 2, .int .i64 4, .int .i64 0, .int .i64 0, .int .i64 3] 46)).alloc (.cells #[.int .i64 5, .slice (some ⟨w.heap.size, 0, none⟩) 2 2] 24)).alloc (.cells #[.int .i64 1, .string ⟨#[]⟩, .int .i64 0, .string ⟨#[97, 98]⟩] 48) = W3) := hid (by rw [hW1.out, hW2.out, hW3.out])
  clear hW1 hW2 hW3 s1 s2
  go_enter Try.func7, Try.ntmps7
  go_wp2_with (first
    | (go_at_call 15; ((with_reducible refine cL.mono ?_); clear cL; rintro e w4 ⟨u, rfl, ho, hb4⟩; rw [HW.out] at hb4; obtain ⟨a4, c4, rfl, _⟩ := ownsRow_slice ho; have hcv := Reads.str (P := Try.prog) (show Reads .u8 w4 a4 4 [1, 2, 97, 98] from Reads.own ho) 34 5 Try.underlying34 Try.underlying5 c4 9 Try.underlying9; rw [HS.out] at hcv; have hM4 := HBM.out.later hb4; have y0 := hM4.cell 0; have y1 := hM4.cell 1))
    | (go_at_call 13; ((with_reducible refine (cF _ hb4).mono ?_); rintro e w5 ⟨x5, c5, rfl, hv5, hb5⟩; have hfl : ∀ W, (Instr.field 27 (.agg #[.int .i64 5, .slice x5 2 c5]) 1).run Try.prog W = .ok (.slice x5 2 c5) W := (fun W => by kernel_rfl); have hb45 := hb4.trans (hb5.mono hb4.size))))
  go_ret
  exact ⟨rfl, HB.out _ hb45⟩
end Go.Proofs.Ytegeeobfamjjpaa.record
/- A record's values stay where a variable of a record is written to. No condition. -/
namespace Go.Proofs.Ytegeeobfamjjpaa.record
open Go.RowKit
open Go.Proofs.Ytegeeobfamjjpaa.field (Va)
open Go.Proofs.Ytegeeobfamjjpaa.schema (exec_two)
set_option linter.unusedVariables false

theorem exec_eql_bool {o : Oper} {a : Act} {w : World} {x y : Operand} {t' : TypeId} {r : Bool} (ho : o.op = .binOp .eql 4 x y t') (hx : a.eval x = .bool r) (hy : a.eval y = .bool r) : (execOp a.eval o).run Try.prog w = .ok (.value (.bool true)) w :=
  exec_two ho hx hy (by simp [go_sem]) (by simp [go_sem])
/-- a variable of a record holds no values -/
theorem vas_store {w : World} {x y : Option Addr} {V : List Va} {G n c : Nat} {t : TypeId} {v : Value} (h : field.Vas w x V) (hG : Block w G t [v, .slice y n c]) (o : Nat) (u : Value) : field.Vas (w.setCell ⟨G, o, none⟩ u) x V := by
  rcases h with h | ⟨b, off, ha, hlt, hc⟩
  · exact .inl h
  · cases V with
    | nil => exact .inl rfl
    | cons p V =>
      have hne : b ≠ G := by
        rintro rfl
        have h1 := (hc 0 p rfl).2
        rw [hG.cell] at h1
        rcases off with _ | off
        · simp at h1
        · have := (List.getElem?_eq_some_iff.1 h1).1
          simp only [List.length_cons, List.length_nil] at this; omega
      refine .inr ⟨b, off, ha, Nat.lt_of_lt_of_le hlt (by simp), fun i q hq => ?_⟩
      have hs : ∀ j, (w.setCell ⟨G, o, none⟩ u).cell? ⟨b, j, none⟩ = w.cell? ⟨b, j, none⟩ := fun j => World.cell?_setCell_other _ _ _ _ (by intro h; cases h; exact hne rfl)
      rw [hs, hs]
      exact hc i q hq
end Go.Proofs.Ytegeeobfamjjpaa.record
/- Contract of layer 14 (record): Take. No condition. -/
namespace Go.Proofs.Ytegeeobfamjjpaa.record
open Go.RowKit Go.Proofs.Ytegeeobfamjjpaa.cut
open Go.Proofs.Ytegeeobfamjjpaa.field (Va Gives newB gives_from take_any TakesAs)
open Go.Proofs.Ytegeeobfamjjpaa.schema (below_out field_at Fine fine_any wpList_append_fromN)
set_option linter.unusedVariables false

/-- two results of which the first lives in a variable -/
theorem results_cell2 {fn : Func} {p u : Tmp} {ty : TypeId} {tmps : Array Value} {P : Program} {w : World} {b o : Nat} {cs : List Value} {d : TypeDesc} (h : fn.results = #[.cell p ty, .tmp u])
    (hp : tmps.getD p undef = .pointer (some ⟨b, o, none⟩)) (hc : w.rangeAt b o cs) (hu : P.underlying ty = some d) (hd : d.isRow = true) (hi : (P.info? ty).map (·.size) = some cs.length) :
    (results fn tmps).run P w = .ok (.tuple #[.agg cs.toArray, tmps.getD u undef]) w := by
  simp only [results, h]
  simp at hp
  simp [hp, asAddr, run_loadVar_mid w b o ty cs d hc hu hd hi]
/-- a value that has just been made, as what an append takes -/
theorem one_va (w : World) (p : Va) : (1 : Nat) = 0 ∨ ∃ ad, (some ⟨w.heap.size, 0, none⟩ : Option Addr) = some ad ∧ ∀ j u, (vaC p)[j]? = some u → (w.alloc (.cells #[.int .i64 p.n, .string p.s] 48)).cell? (ad.add j) = some u :=
  .inr ⟨_, rfl, fun j u hj => by rw [Addr.add_lit, Nat.zero_add]; exact ((Block.new w 48 (vaC p)).cell j).trans hj⟩
/-- the call answers a record and an error -/
def TakesR (T : Int × List Va × Int) (w : World) (e : Ending) (w' : World) : Prop := ∃ x c, e = .returned (.tuple #[.agg #[.int .i64 T.1, .slice x T.2.1.length c], .int .i64 T.2.2]) ∧ field.Vas w' x T.2.1 ∧ Below w.heap.size w w'
/-- what is left to read, and the values gathered so far -/
def TS (i : Int) (L : List field.Fd) (w1 : World) (F : Nat) (T : Int × List Va × Int) (k : Nat) (v : Value) (wr : World) : Prop :=
  ∃ a len cap ys V u, v = .slice a len cap ∧ Reads .u8 w1 a len ys ∧ (∀ x ∈ ys, x < 256) ∧ len ≤ cap ∧ cap ≤ 9223372036854775807 ∧ RS i w1 F V k u wr ∧ fin i (onto V (takeL (L.drop k) ys)) = T

set_option maxRecDepth 20000 in
set_option maxHeartbeats 1600000 in
theorem takeR_any (i : Int) (a : Option Addr) (c : Nat) (L : List field.Fd) (ab : Option Addr) (lenb capb : Nat) (xs : List Nat) (w : World) (h : field.Fds w a L) (hL : L.length ≤ maxLen)
    (hrd : Reads .u8 w ab lenb xs) (hxs : ∀ x ∈ xs, x < 256) (hcb : lenb ≤ capb) (hmb : capb ≤ 9223372036854775807) :
    Calls Try.prog 16 #[.agg #[.int .i64 i, .slice a L.length c], .slice ab lenb capb] w (TakesR (takeR i L xs) w) := by
  have HX := hid (WMR.all i a L c w)
  have hw := (WMR.all i a L c w _ (Below.refl _ _)).2.2.2
  have cF := fine_any i a c L (WMR i a L c w) (h.below hw) hL
  have HF := hid (h.below hw)
  have HRD := hid (hrd.below hw)
  unfold TakesR takeR
  unfold Gives at cF
  by_cases hf : Fine (i, L)
  · rw [decide_eq_true hf] at cF
    rw [if_neg (fun k => k hf)]
    have hL8 := fine_len hf
    obtain ⟨⟨TF, TV, TE⟩, hT⟩ : ∃ T, Hid (fin i (takeL L xs) = T) := ⟨_, hid rfl⟩
    rw [hT.out]
    simp only
    have HXS := hid hxs
    clear h hL hf hw hrd hxs
    unfold WMR at HX cF HF HRD
    go_enter Try.func16, Try.ntmps16
    go_wp2_with (go_at_call 23; ((with_reducible refine cF.mono ?_); rintro e w1 ⟨rfl, hb1⟩; obtain ⟨z0, z1, hR1, hbo⟩ := HX.out _ hb1; have hsz0 : w.heap.size < w1.heap.size := (by have := hR1.lt; omega)))
    have HR1 := hid hR1
    have HBO := hid hbo
    have HF1 := hid (HF.out.below hb1)
    have HRD1 := hid (HRD.out.below hb1)
    have HS2 := hid (RS.start w1 i)
    have HSZ : Hid (w.heap.size + 1 < w1.heap.size) := hid hR1.lt
    obtain ⟨F, hF⟩ : ∃ F, Hid (w1.heap.size = F) := ⟨_, hid rfl⟩
    rw [hF.out] at HS2 HSZ ⊢
    clear hb1 hR1 hbo cF z0 z1 hsz0 HF HRD
    go_loopw [1, 22] (fun v m wr => ∃ k : Nat, k ≤ L.length ∧ m = .int .i64 (k : Int) ∧ Hid (TS i L w1 F (TF, TV, TE) k v wr)) (fun _ m _ => L.length - (intOf m).toNat)
    case atStart => exact ⟨0, Nat.zero_le _, rfl, hid ⟨_, _, _, xs, [], _, rfl, HRD1.out, HXS.out, hcb, hmb, HS2.out, by rw [List.drop_zero, onto_nil]; exact hT.out⟩⟩
    case round =>
      obtain ⟨k, hk, rfl, HTS⟩ := hrel
      obtain ⟨a', len', cap', ys, V, u, rfl, hr', hx', hc', hm', hS, hfin⟩ := HTS.out
      obtain ⟨ua, uc, rfl, _⟩ := ownsRow_slice hS.row
      clear HTS hT HRD1 hcb hmb HS2
      by_cases hlt : k < L.length
      · obtain ⟨g, off, p, rfl, hbl, hp, c0, c1, c2, c3, c4⟩ := field_at HF1.out hS.low hlt
        have i1 : (k : Int) < L.length := by omega
        have cT := take_any p a' len' cap' ys ((wr.alloc (.cells #[.int .i64 p.id, .int .i64 p.kind, .int .i64 p.lo, .int .i64 p.hi, .int .i64 p.most] 46))) (hr'.below (hS.low.trans ((newB wr _).mono hS.low.size))) hx' hc' hm'
        unfold TakesAs at cT
        have hlen' := hr'.1
        by_cases he : (p.take ys).e = 0
        · have hcl : (p.take ys).c ≤ len' := by have := (field.Fd.lay_take hx' he).2.1; omega
          have HRN := hid (reads_shift hr' hcl hc')
          have HXN : Hid (∀ x ∈ ys.drop (p.take ys).c, x < 256) := hid (fun x hm => hx' x (List.mem_of_mem_drop hm))
          have HFN := hid ((onto_step V hp he).symm ▸ hfin)
          have HCN : Hid (len' - (p.take ys).c ≤ cap' - (p.take ys).c ∧ cap' - (p.take ys).c ≤ 9223372036854775807) := hid (by omega)
          have hcut := fun W => cut_from W a' len' cap' (p.take ys).c hcl
          rw [he] at cT
          have HS := hid (hS.later (newB wr (.cells #[.int .i64 p.id, .int .i64 p.kind, .int .i64 p.lo, .int .i64 p.hi, .int .i64 p.most] 46)))
          clear hp hS hfin he hr' hx'
          generalize strOf (p.take ys).s = st at *
          generalize (p.take ys).n = nn at *
          generalize (p.take ys).c = cc at *
          generalize shift a' cc cap' = a2 at *
          obtain ⟨i0, hi, hz0, hz1, hz2⟩ := va_info_parts
          go_wp2_with (first
            | (go_at_call 31; ((with_reducible refine cT.mono ?_); rintro e w3 ⟨rfl, hb3⟩; have HS3 := hid ((HS.out.later hb3).later (newB w3 (.cells #[.int .i64 nn, .string st] 48))); have hcF := HS3.out.f.cell 1; have HS4 := hid (HS3.out.later (newB (w3.alloc (.cells #[.int .i64 nn, .string st] 48)) (.cells #[.int .i64 nn, .string st] 48)))))
            | (at_builtin; refine wpList_append_fromN rfl _ _ 25 rfl (F + 1) 48 i0 (.agg #[.int .i64 0, .string ⟨#[]⟩]) 2 24 Try.underlying25 hi hz0 hz1 hz2 (by simp [Value.cells]) (by omega) _ k (vaV V) rfl HS4.out.row (some ⟨w3.heap.size + 1, 0, none⟩) 1 1 (vaC ⟨nn, st⟩) rfl rfl (by have := one_va (w3.alloc (.cells #[.int .i64 nn, .string st] 48)) ⟨nn, st⟩; rw [World.size_alloc] at this; exact this) (vaC_one _) (by unfold maxLen; omega) (by omega) HS4.out.f.lt ?_; intro z w5 ho5 hg5; have hF5 := HS4.out.held hg5; have hc5 := hF5.cell 1; have hz5 := hF5.frozen 1; have HS6 := hid (HS4.out.push (p := ⟨nn, st⟩) hg5 (by rw [vaV_append]; simpa [vaV] using ho5)); obtain ⟨qa, qc, rfl, _⟩ := ownsRow_slice ho5; clear ho5 hg5 hF5))
          exact ⟨⟨k + 1, by omega, by go_num, hid ⟨_, _, _, _, _, _, rfl, HRN.out, HXN.out, HCN.out.1, HCN.out.2, HS6.out, HFN.out⟩⟩, by simp [intOf]; omega⟩
        · have hst := fin_stop i V hp he
          rw [hfin] at hst
          obtain ⟨rfl, rfl, hTE⟩ : TF = 0 ∧ TV = [] ∧ TE = (p.take ys).e := ⟨congrArg (·.1) hst, congrArg (·.2.1) hst, congrArg (·.2.2) hst⟩
          have HE0 : Hid ((TE != 0) = true) := hid (by rw [hTE]; simpa using he)
          rw [← hTE] at cT
          have hS1 := hS.later (newB wr (.cells #[.int .i64 p.id, .int .i64 p.kind, .int .i64 p.lo, .int .i64 p.hi, .int .i64 p.most] 46))
          have HB := hid (HBO.out.trans (hS1.low.mono HBO.out.size))
          have HR := hid (HR1.out.later hS1.low)
          clear hp hS hfin he hr' hx' hst hS1 hTE
          generalize strOf (p.take ys).s = st at *
          generalize (p.take ys).n = nn at *
          generalize (p.take ys).c = cc at *
          have he0 := HE0.out
          go_wp2_with (go_at_call 31; ((with_reducible refine cT.mono ?_); rintro e w3 ⟨rfl, hb3⟩; have hR3 := (HR.out.later hb3).alloc (.cells #[.int .i64 nn, .string st] 48); have x0 := hR3.cell 0; have x1 := hR3.cell 1; have p0 := hR3.frozen 0; have p1 := hR3.frozen 1; have HR3 := hid hR3; have HB3 := hid ((HB.out.trans (hb3.mono HB.out.size)).trans ((newB w3 (.cells #[.int .i64 nn, .string st] 48)).mono (HB.out.trans (hb3.mono HB.out.size)).size)); clear hR3))
          have hB := (HR3.out.setCell 0 (.int .i64 0)).setCell 1 (.slice none 0 0)
          exact bodyPost_ret (results_cell2 (b := w.heap.size + 1) (o := 0) rfl rfl hB.whole Try.underlying27 rfl (rc_info _ _)) rfl ⟨none, 0, rfl, .inl rfl, below_setCells (below_setCells HB3.out (by omega) 0 [.int .i64 0]) (by omega) 1 [.slice none 0 0]⟩
      · obtain rfl : k = L.length := by omega
        have hR := HR1.out.later hS.low
        have x0 := hR.cell 0
        have x1 := hR.cell 1
        have p0 := hR.frozen 0
        have p1 := hR.frozen 1
        have y0 := hS.f.cell 0
        have y1 := hS.f.cell 1
        have hlen' := hr'.1
        have HB3 := hid (HBO.out.trans (hS.low.mono HBO.out.size))
        by_cases h0 : len' = 0
        · have hst := fin_end i V (xs := ys) (L := L) (by omega)
          rw [hfin] at hst
          obtain ⟨rfl, rfl, rfl⟩ : TF = i ∧ TV = V ∧ TE = 0 := ⟨congrArg (·.1) hst, congrArg (·.2.1) hst, congrArg (·.2.2) hst⟩
          have hd0 : ¬ (0 < len') := by omega
          have hd1 : decide ((len' : Int) > 0) = false := decide_eq_false (by omega)
          have hd2 : ¬ (0 < (len' : Int)) := by omega
          have HS3 := hid hS
          have HR3 := hid hR
          clear hS hR hfin hst hr' hx' h0
          go_wp2
          obtain ⟨d1, d2, d3⟩ := HS3.out.done HR3.out HSZ.out (by omega) HB3.out
          exact bodyPost_ret (results_cell2 (b := w.heap.size + 1) (o := 0) rfl rfl d1.whole Try.underlying27 rfl (rc_info _ _)) rfl (by first | exact ⟨_, _, rfl, d2, d3⟩ | exact ⟨_, ⟨_, rfl⟩, d2, d3⟩)
        · have hst := fin_rest i V (xs := ys) (L := L) (by omega)
          rw [hfin] at hst
          obtain ⟨rfl, rfl, rfl⟩ : TF = 0 ∧ TV = [] ∧ TE = 6 := ⟨congrArg (·.1) hst, congrArg (·.2.1) hst, congrArg (·.2.2) hst⟩
          have hd0 : 0 < len' := by omega
          have hd1 : decide ((len' : Int) > 0) = true := decide_eq_true (by omega)
          have hd2 : 0 < (len' : Int) := by omega
          have HR3 := hid hR
          clear hS hR hfin hst hr' hx' h0
          go_wp2
          have hB := (HR3.out.setCell 0 (.int .i64 0)).setCell 1 (.slice none 0 0)
          exact bodyPost_ret (results_cell2 (b := w.heap.size + 1) (o := 0) rfl rfl hB.whole Try.underlying27 rfl (rc_info _ _)) rfl ⟨none, 0, rfl, .inl rfl, below_setCells (below_setCells HB3.out (by omega) 0 [.int .i64 0]) (by omega) 1 [.slice none 0 0]⟩
  · rw [decide_eq_false hf] at cF
    rw [if_pos hf]
    simp only
    clear h hL hf hw hrd hxs
    unfold WMR at HX cF
    go_enter Try.func16, Try.ntmps16
    go_wp2_with (go_at_call 23; ((with_reducible refine cF.mono ?_); rintro e w1 ⟨rfl, hb1⟩; obtain ⟨z0, z1, hR1, hbo⟩ := HX.out _ hb1; have x0 := hR1.cell 0; have x1 := hR1.cell 1; have p0 := hR1.frozen 0; have p1 := hR1.frozen 1; have HR1 := hid hR1; have HBO := hid hbo; clear hR1 hbo))
    have hB := (HR1.out.setCell 0 (.int .i64 0)).setCell 1 (.slice none 0 0)
    exact bodyPost_ret (results_cell2 (b := w.heap.size + 1) (o := 0) rfl rfl hB.whole Try.underlying27 rfl (rc_info _ _)) rfl ⟨none, 0, rfl, .inl rfl, below_setCells (below_setCells HBO.out (by omega) 0 [.int .i64 0]) (by omega) 1 [.slice none 0 0]⟩
end Go.Proofs.Ytegeeobfamjjpaa.record
