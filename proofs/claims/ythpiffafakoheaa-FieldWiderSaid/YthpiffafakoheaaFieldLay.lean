/- Contract of Lay of layer 12 (field). No condition. -/
import Derived.Test.YthpiffafakoheaaFieldTake
namespace Go.Proofs.Ythpiffafakoheaa.field
open Go.RowKit Go.Proofs.Ythpiffafakoheaa.cut
set_option linter.unusedVariables false

theorem below_drew {B : Nat} {a w : World} (h : Below B a w) : Below B a w.drew := below_drewN h 1
theorem own_base {w : World} {B base e size n : Nat} {v : Value} {xs : List Value} (h : w.ownsRow base e size v n xs) (hB : B ≤ base) : w.ownsRow B e size v n xs := by
  refine ⟨h.1, ?_⟩
  rcases h.2 with h0 | ⟨g, cap, cur, h1, h2, h3⟩
  · exact .inl h0
  · exact .inr ⟨g, cap, cur, h1, by omega, h3⟩
/-- the call answers a row of its own and an error's number -/
def LaysAs (xs : List Nat) (E : Int) (w : World) (e : Ending) (w' : World) : Prop := ∃ u, e = .returned (.tuple #[u, .int .i64 E]) ∧ w'.ownsRow w.heap.size 5 1 u xs.length (u8v xs) ∧ Below w.heap.size w w'
theorem lay_any (f : Fd) (v : Va) (w : World) : Calls Try.prog 18 #[.agg #[.int .i64 f.id, .int .i64 f.kind, .int .i64 f.lo, .int .i64 f.hi, .int .i64 f.most], .agg #[.int .i64 v.n, .string v.s]] w (LaysAs (f.layB v) (f.layE v) w) := by
  have HW := hid (WV.all f v w)
  have cr := gives_from (right_any f (WV f v w)) (w0 := WV f v w) (Below.refl _ _)
  have ch := fun W (hb : Below (WV f v w).heap.size (WV f v w) W) => gives_from (has_any f v W) hb
  unfold LaysAs
  by_cases h : f.Right
  · rw [decide_eq_true h] at cr
    by_cases hh : f.Has v
    · simp only [decide_eq_true hh] at ch
      have hE : f.layE v = 0 := by unfold Fd.layE; rw [if_neg (show ¬¬ f.Right from fun k => k h), if_neg (show ¬¬ f.Has v from fun k => k hh)]
      rw [hE]
      have hL : f.layB v = if f.kind = 4 then v.s.size :: bytesOf v.s else digits f.size (v.n - f.lo).toNat := by unfold Fd.layB; rw [if_neg (show ¬¬ f.Has v from fun k => k hh)]
      rw [hL]
      have hsp := h.span
      by_cases h4 : f.kind = 4
      · rw [if_pos h4]
        have hs32 : v.s.size ≤ 32 := by obtain ⟨_, _, k⟩ := hh; omega
        have e4 : (f.kind == 4) = true := by rw [beq_iff_eq]; exact h4
        have hbl : (v.s.size :: bytesOf v.s).length = 1 + v.s.size := by rw [List.length_cons, bytesOf_length]; omega
        have hbv : u8v (v.s.size :: bytesOf v.s) = [Value.int .u8 (v.s.size : Int)] ++ Lib.strCells v.s := by rw [strCells_bytes]; rfl
        rw [hbl, hbv]
        obtain ⟨i0, hi, hz0, hz1, hz2⟩ := info_parts u8_info
        have hwr : IntKind.u8.wrap (v.s.size : Int) = (v.s.size : Int) := IntWalk.u8_in _ (by omega)
        unfold WV at HW cr ch
        clear h hh hE hL hsp h4 hbl hbv
        go_enter Try.func18, Try.ntmps18
        go_wp2_with (first
          | (go_at_call 7; (with_reducible refine cr.mono ?_); rintro e w1 ⟨rfl, hb1⟩; obtain ⟨hf1, hv1, hbw1⟩ := HW.out _ hb1)
          | (go_at_call 9; (with_reducible refine (ch _ hb1).mono ?_); rintro e w2 ⟨rfl, hb2⟩; obtain ⟨hf2, hv2, hbw2⟩ := HW.out _ hb2; have hlt : w.heap.size + 1 < w2.heap.size := (by have := hb2.size; simp at this; omega); have hrow := World.ownsRow_lit (base := w.heap.size) (e := 5) (size := 1) w2 #[.int .u8 (v.s.size : Int)] 1 hbw2.size (by unfold maxLen; omega) rfl)
          | (at_builtin; refine Lib.wpList_append_own_string _ rfl _ _ 33 9 rfl w.heap.size 5 i0 Try.underlying33 Try.underlying9 hi hz0 hz1 hz2 (.slice (some ⟨w2.heap.size, 0, none⟩) 1 1) 1 [.int .u8 (v.s.size : Int)] rfl hrow v.s rfl (by unfold maxLen; omega) (by omega) (by simp; omega) ?_))
        intro u w3 ho hg hne
        have hb3 : Below w.heap.size w w3 := (hbw2.alloc hbw2.size _).grown hg (by simp; omega) (fun k hk => by cases hk; exact hbw2.size)
        go_wp2
        go_ret2
        exact ⟨_, rfl, ho, hb3⟩
      · rw [if_neg h4]
        have hs6 := Fd.size_num h h4
        obtain ⟨_, ⟨k1, k2⟩, _⟩ := hh
        obtain ⟨N, hN⟩ : ∃ N : Nat, v.n - f.lo = (N : Int) := ⟨(v.n - f.lo).toNat, by omega⟩
        have hNb : N < 281474976710656 := by omega
        have hwN : IntKind.i64.wrap (v.n - f.lo) = (N : Int) := by rw [IntWalk.i64_in _ (by omega), hN]
        have e4 : (f.kind == 4) = false := by rw [beq_eq_false_iff_ne]; exact h4
        have cs := fun W (hb : Below (WV f v w).heap.size (WV f v w) W) => gives_from (size_any f W) hb
        rw [hN, show ((N : Int)).toNat = N from rfl, digits_length]
        generalize f.size = sz at *
        have cl : ∀ W, Below w.heap.size w W → Calls Try.prog 30 #[.int .i64 (IntKind.i64.wrap (v.n - f.lo)), .int .i64 (sz : Int)] W (fun e w' => ∃ u, e = .returned u ∧ w'.ownsRow w.heap.size 5 1 u sz (u8v (digits sz N)) ∧ Below W.heap.size W w') := fun W hb => by
          rw [hwN]
          exact (layNumber_any N sz hNb hs6 W).mono fun _ _ ⟨u, h1, h2, h3⟩ => ⟨u, h1, own_base h2 hb.size, h3⟩
        unfold WV at HW cr ch cs
        clear h hE hL hsp h4 k1 k2 hwN hN
        go_enter Try.func18, Try.ntmps18
        go_wp2_with (first
          | (go_at_call 7; (with_reducible refine cr.mono ?_); rintro e w1 ⟨rfl, hb1⟩; obtain ⟨hf1, hv1, hbw1⟩ := HW.out _ hb1)
          | (go_at_call 9; (with_reducible refine (ch _ hb1).mono ?_); rintro e w2 ⟨rfl, hb2⟩; obtain ⟨hf2, hv2, hbw2⟩ := HW.out _ hb2))
        have hb2d := below_drew hb2
        have hkd := HW.out w2.drew hb2d
        obtain ⟨hfd, hvd, hbwd⟩ := hkd
        go_region_held3 (fun w' => (w'.cell? ⟨w.heap.size, 0, none⟩ = some (.int .i64 f.id) ∧ w'.cell? ⟨w.heap.size, 1, none⟩ = some (.int .i64 f.kind) ∧ w'.cell? ⟨w.heap.size, 2, none⟩ = some (.int .i64 f.lo) ∧ w'.cell? ⟨w.heap.size, 3, none⟩ = some (.int .i64 f.hi) ∧ w'.cell? ⟨w.heap.size, 4, none⟩ = some (.int .i64 f.most)) ∧ (w'.cell? ⟨w.heap.size + 1, 0, none⟩ = some (.int .i64 v.n) ∧ w'.cell? ⟨w.heap.size + 1, 1, none⟩ = some (.string v.s))) (first | assumption | go_keep) (first
          | (go_at_call 13; (with_reducible refine (cs _ hb2d).mono ?_); rintro e w3 ⟨rfl, hb3⟩; obtain ⟨hf3, hv3, hbw3⟩ := HW.out _ hb3)
          | (go_at_call 30; (with_reducible refine (cl _ hbw3).mono ?_); rintro e w4 ⟨u, rfl, ho, hb4⟩; have hb4' := hb3.trans (hb4.mono hb3.size); obtain ⟨hf4, hv4, hbw4⟩ := HW.out _ hb4'))
        go_wp2
        go_ret2
        exact ⟨_, rfl, ho, hbw4⟩
    · simp only [decide_eq_false hh] at ch
      have hE : f.layE v = 16 := by unfold Fd.layE; rw [if_neg (show ¬¬ f.Right from fun k => k h), if_pos hh]
      have hL : f.layB v = [] := by unfold Fd.layB; rw [if_pos hh]
      rw [hE, hL]
      unfold WV at HW cr ch
      clear h hh hE hL
      go_enter Try.func18, Try.ntmps18
      go_wp2_with (first
        | (go_at_call 7; (with_reducible refine cr.mono ?_); rintro e w1 ⟨rfl, hb1⟩; obtain ⟨hf1, hv1, hbw1⟩ := HW.out _ hb1)
        | (go_at_call 9; (with_reducible refine (ch _ hb1).mono ?_); rintro e w2 ⟨rfl, hb2⟩; obtain ⟨hf2, hv2, hbw2⟩ := HW.out _ hb2))
      go_ret2
      exact ⟨_, rfl, World.ownsRow_nil _ _ _ _, hbw2⟩
  · rw [decide_eq_false h] at cr
    have hE : f.layE v = 2 := by unfold Fd.layE; rw [if_pos h]
    have hL : f.layB v = [] := by unfold Fd.layB; rw [if_pos (fun k => h k.1)]
    rw [hE, hL]
    unfold WV at HW cr ch
    clear h hE hL
    go_enter Try.func18, Try.ntmps18
    go_wp2_with (go_at_call 7; (with_reducible refine cr.mono ?_); rintro e w1 ⟨rfl, hb1⟩; obtain ⟨hf1, hv1, hbw1⟩ := HW.out _ hb1)
    go_ret2
    exact ⟨_, rfl, World.ownsRow_nil _ _ _ _, hbw1⟩
end Go.Proofs.Ythpiffafakoheaa.field
