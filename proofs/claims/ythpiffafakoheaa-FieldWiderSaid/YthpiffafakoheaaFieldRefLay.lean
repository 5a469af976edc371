/- Contract of the reference's Lay of layer 12 (field). No condition but a value that belongs to the field. -/
import Derived.Test.YthpiffafakoheaaFieldLay
import Derived.Lib.ConvBytes
import Derived.Lib.AtoiErrMem
namespace Go.Proofs.Ythpiffafakoheaa.field
open Go.RowKit Go.Proofs.Ythpiffafakoheaa.cut
set_option linter.unusedVariables false

theorem u8v_one (xs : List Nat) : ∀ v ∈ u8v xs, v.oneCell' = true := by intro v hv; obtain ⟨x, _, rfl⟩ := List.mem_map.1 hv; rfl
theorem reads_news {w : World} {a : Option Addr} {len : Nat} {xs : List Nat} (h : Reads .u8 w a len xs) : len = 0 ∨ ∃ ad, a = some ad ∧ ∀ j u, (u8v xs)[j]? = some u → w.cell? (ad.add j) = some u := by
  rcases h.2 with h0 | ⟨b, off, ha, _, hc⟩
  · exact .inl h0
  · refine .inr ⟨_, ha, fun j u hj => ?_⟩
    have hl : j < xs.length := by have := (List.getElem?_eq_some_iff.1 hj).1; simpa [u8v] using this
    rw [u8v_get xs j hl] at hj
    cases hj
    rw [Addr.add_lit]
    exact hc j (by have := h.1; omega)
theorem refSize_any' (f : Fd) (w : World) (sz : Nat) (h : Hid (f.size = sz)) : Calls Try.prog 14 #[.agg #[.int .i64 f.id, .int .i64 f.kind, .int .i64 f.lo, .int .i64 f.hi, .int .i64 f.most]] w (Gives (.int .i64 (sz : Int)) w) := by rw [← h.out]; exact refSize_any f w
theorem refLayNum_any (f : Fd) (v : Va) (h : f.Has v) (h4 : f.kind ≠ 4) (w : World) : Calls Try.prog 21 #[.agg #[.int .i64 f.id, .int .i64 f.kind, .int .i64 f.lo, .int .i64 f.hi, .int .i64 f.most], .agg #[.int .i64 v.n, .string v.s]] w fun e w' => ∃ u, e = .returned u ∧ w'.ownsRow w.heap.size 5 1 u (f.layB v).length (u8v (f.layB v)) ∧ Below w.heap.size w w' := by
  have HW := hid (WV.all f v w)
  obtain ⟨hr, ⟨k1, k2⟩, hh⟩ := h
  have hL : f.layB v = digits f.size (v.n - f.lo).toNat := by unfold Fd.layB; rw [if_neg (show ¬¬ f.Has v from fun k => k ⟨hr, ⟨k1, k2⟩, hh⟩), if_neg h4]
  rw [hL]
  have hsp := hr.span
  have cs := span_from f hr (w0 := WV f v w) (Below.refl _ _)
  have hs6 := Fd.size_num hr h4
  have e4 : (f.kind == 4) = false := by rw [beq_eq_false_iff_ne]; exact h4
  obtain ⟨N, hN⟩ : ∃ N : Nat, v.n - f.lo = (N : Int) := ⟨(v.n - f.lo).toNat, by omega⟩
  rw [hN, show ((N : Int)).toNat = N from rfl, digits_length]
  have hNb : N < 281474976710656 := by omega
  have s1 := hsp.2.2.1
  have s2 := hsp.2.2.2.1
  have hw1 : IntKind.i64.wrap (v.n - f.lo) = (N : Int) := by rw [IntWalk.i64_in _ (by omega), hN]
  have hw2 : wrap64 (v.n - f.lo) = (N : Int) := by rw [IntWalk.wrap64_in _ (by omega), hN]
  have HN := hid hN
  obtain ⟨i0, hi, hz0, hz1, hz2⟩ := info_parts u8_info
  clear hr k1 k2 hh h4 hL hsp hN
  generalize f.great = G at *
  generalize f.long = LL at *
  obtain ⟨sz, HSZ⟩ : ∃ sz, Hid (f.size = sz) := ⟨_, rfl⟩
  rw [HSZ.out] at hs6 ⊢
  unfold WV at HW cs
  go_enter Try.func21, Try.ntmps21
  go_wp2_with (go_at_call 24; (with_reducible refine cs.mono ?_); rintro e w1 ⟨rfl, hb1⟩; obtain ⟨hf1, hv1, hbw1⟩ := HW.out _ hb1; clear cs)
  go_loopw [9, 10, 11] (fun n b i wr => ∃ (k : Nat) (a : Option Addr) (c : Nat), n = .int .i64 ((N / 256 ^ k : Nat) : Int) ∧ b = .slice a k c ∧ i = .int .i64 (k : Int) ∧ k ≤ sz ∧ wr.ownsRow w.heap.size 5 1 (.slice a k c) k (u8v (digits k N)) ∧ Hid (Below ((w.alloc (.cells #[.int .i64 f.id, .int .i64 f.kind, .int .i64 f.lo, .int .i64 f.hi, .int .i64 f.most] 23)).alloc (.cells #[.int .i64 v.n, .string v.s] 25)).heap.size ((w.alloc (.cells #[.int .i64 f.id, .int .i64 f.kind, .int .i64 f.lo, .int .i64 f.hi, .int .i64 f.most] 23)).alloc (.cells #[.int .i64 v.n, .string v.s] 25)) wr)) (fun n b i wr => sz - (intOf i).toNat)
  case atStart => exact ⟨0, none, 0, by simp, rfl, rfl, Nat.zero_le _, World.ownsRow_nil _ _ _ _, hid hb1⟩
  case round =>
    obtain ⟨k, a, c, rfl, rfl, rfl, hk, ho, hbr⟩ := hrel
    have hbr' := hbr.out
    obtain ⟨hfr, hvr, hbwr⟩ := HW.out _ hbr'
    have hNk : N / 256 ^ k ≤ N := Nat.div_le_self _ _
    by_cases hlt : k < sz
    · have hd := digits_cons k N
      have hdiv : N / 256 ^ (k + 1) = N / 256 ^ k / 256 := by rw [Nat.pow_succ, Nat.div_div_eq_div_mul]
      rw [show k + 1 = 1 + k by omega] at hd
      obtain ⟨M, hM⟩ : ∃ M, Hid (N / 256 ^ k = M) := ⟨_, rfl⟩
      rw [hM.out] at hd hdiv hNk ⊢
      have hMb : M < 281474976710656 := by omega
      have hm8 : IntKind.u8.wrap ((M : Int) % 256) = ((M % 256 : Nat) : Int) := by rw [IntWalk.u8_in _ (by omega)]; omega
      have HD := hid hd
      have HDV := hid hdiv
      have HO := hid ho
      clear hd hdiv ho
      have cz1 := refSize_any' f wr sz HSZ
      obtain ⟨V, hV⟩ : ∃ V, Hid (u8v (digits k N) = V) := ⟨_, rfl⟩
      have hVl : Hid (V.length = k) := hid (by rw [← hV.out, u8v_length, digits_length])
      go_wp2_with (first
        | (go_at_call 14; (with_reducible refine cz1.mono ?_); rintro e w2 ⟨rfl, hb2⟩; have hbW := hbr'.trans (hb2.mono hbr'.size); obtain ⟨hf2, hv2, hbw2⟩ := HW.out _ hbW; have ho2 := ownsRow_later HO.out hb2; have hrow := World.ownsRow_lit (base := w.heap.size) (e := 5) (size := 1) w2 #[.int .u8 ((M : Int) % 256)] 1 hbw2.size (by unfold maxLen; omega) rfl; have hnews := reads_news (Reads.own (k := .u8) (xs := digits k N) (w := w2.alloc (.cells #[.int .u8 ((M : Int) % 256)] 5)) (ho2.alloc _)); rw [hV.out] at hnews)
        | (at_builtin; refine wpList_append_from rfl _ _ 33 rfl w.heap.size 5 i0 (.int .u8 0) 1 Try.underlying33 hi hz0 hz1 hz2 rfl (.slice (some ⟨w2.heap.size, 0, none⟩) 1 1) 1 [.int .u8 ((M : Int) % 256)] rfl hrow a k c V rfl hVl.out hnews (by rw [← hV.out]; exact u8v_one _) (by unfold maxLen; omega) (by omega) (Nat.le_trans hbw2.size (by simp)) ?_))
      intro u w3 ho3 hg3
      have hb3 := (hbW.alloc hbW.size (.cells #[.int .u8 ((M : Int) % 256)] 5)).grown hg3 (Nat.le_trans hbW.size (by simp)) (fun k hk => by cases hk; exact hbW.size)
      rw [show Value.int .u8 ((M : Int) % 256) :: V = u8v (digits (1 + k) N) by rw [HD.out, ← hV.out]; simp [u8v], Nat.add_comm 1 k] at ho3
      obtain ⟨a3, c3, rfl, _⟩ := ownsRow_slice ho3
      have HO3 := hid ho3
      have HB3 := hid hb3
      clear ho3 hb3 hg3 hnews hrow ho2
      go_wp2
      go_round
      · exact ⟨k + 1, a3, c3, by rw [HDV.out]; simp, rfl, by simp, by omega, HO3.out, HB3⟩
      · simp [intOf]; omega
    · obtain rfl : k = sz := by omega
      have cz1 := refSize_any' f wr k HSZ
      have HO := hid ho
      clear ho
      go_wp2_with (go_at_call 14; (with_reducible refine cz1.mono ?_); rintro e w2 ⟨rfl, hb2⟩; have hbW := hbr'.trans (hb2.mono hbr'.size); obtain ⟨hf2, hv2, hbw2⟩ := HW.out _ hbW; have ho2 := ownsRow_later HO.out hb2)
      go_ret
      exact ⟨_, rfl, ho2, hbw2⟩
theorem refLayText_any (f : Fd) (v : Va) (h : f.Has v) (h4 : f.kind = 4) (w : World) : Calls Try.prog 21 #[.agg #[.int .i64 f.id, .int .i64 f.kind, .int .i64 f.lo, .int .i64 f.hi, .int .i64 f.most], .agg #[.int .i64 v.n, .string v.s]] w fun e w' => ∃ u, e = .returned u ∧ w'.ownsRow w.heap.size 5 1 u (f.layB v).length (u8v (f.layB v)) ∧ Below w.heap.size w w' := by
  have HW := hid (WV.all f v w)
  obtain ⟨hr, ⟨k1, k2⟩, hh⟩ := h
  have hL : f.layB v = v.s.size :: bytesOf v.s := by unfold Fd.layB; rw [if_neg (show ¬¬ f.Has v from fun k => k ⟨hr, ⟨k1, k2⟩, hh⟩), if_pos h4]
  rw [hL]
  have hsp := hr.span
  have hs32 : v.s.size ≤ 32 := by omega
  have cs := span_from f hr (w0 := WV f v w) (Below.refl _ _)
  have e4 : (f.kind == 4) = true := by rw [beq_iff_eq]; exact h4
  obtain ⟨i0, hi, hz0, hz1, hz2⟩ := info_parts u8_info
  have hbl : (v.s.size :: bytesOf v.s).length = 1 + v.s.size := by rw [List.length_cons, bytesOf_length]; omega
  have hbv : u8v (v.s.size :: bytesOf v.s) = [Value.int .u8 (v.s.size : Int)] ++ u8v (bytesOf v.s) := rfl
  rw [hbl, hbv]
  have hwr : IntKind.u8.wrap (v.s.size : Int) = (v.s.size : Int) := IntWalk.u8_in _ (by omega)
  have hcv : Hid (∀ w1 : World, (convert 9 33 (.string v.s)).run Try.prog w1 = .ok (.slice (some ⟨w1.heap.size, 0, none⟩) v.s.size (grownCap w1 v.s.size 0 5)) (Lib.bytesWorld w1 5 v.s)) :=
    hid fun w1 => Lib.run_convert_string_bytes w1 _ _ _ _ Try.underlying9 Try.underlying33 Try.underlying5
  have hnw : Hid (∀ w1 : World, v.s.size = 0 ∨ ∃ ad, (some ⟨w1.heap.size, 0, none⟩ : Option Addr) = some ad ∧ ∀ j u, (u8v (bytesOf v.s))[j]? = some u → (Lib.bytesWorld w1 5 v.s).cell? (ad.add j) = some u) := hid fun w1 => by
    refine reads_news (xs := bytesOf v.s) ⟨by rw [bytesOf_length], .inr ⟨_, _, rfl, by rw [Lib.bytesWorld_size]; omega, fun i hi => ?_⟩⟩
    rw [Nat.zero_add, Lib.bytesWorld_cell _ _ _ _ hi]
    have hi' : i < v.s.data.toList.length := by rw [Array.length_toList]; exact hi
    simp [bytesOf, List.getD_eq_getElem?_getD, List.getElem?_eq_getElem hi']
  have hun : Hid ((u8v (bytesOf v.s)).length = v.s.size) := hid (by rw [u8v_length, bytesOf_length])
  clear hr k1 k2 hh h4 hL hsp hbl hbv
  generalize f.great = G at *
  generalize f.long = LL at *
  unfold WV at HW cs
  go_enter Try.func21, Try.ntmps21
  go_wp2_with (first
    | (go_at_call 24; (with_reducible refine cs.mono ?_); rintro e w2 ⟨rfl, hb2⟩; obtain ⟨hf2, hv2, hbw2⟩ := HW.out _ hb2; clear cs; have hlt : w.heap.size + 1 < w2.heap.size := (by have := hb2.size; simp at this; omega); have hrow := World.ownsRow_lit (base := w.heap.size) (e := 5) (size := 1) w2 #[.int .u8 (v.s.size : Int)] 1 hbw2.size (by unfold maxLen; omega) rfl; have hc1 := hcv.out (w2.alloc (.cells #[.int .u8 (v.s.size : Int)] 5)))
    | (at_builtin; refine wpList_append_from rfl _ _ 33 rfl w.heap.size 5 i0 (.int .u8 0) 1 Try.underlying33 hi hz0 hz1 hz2 rfl (.slice (some ⟨w2.heap.size, 0, none⟩) 1 1) 1 [.int .u8 (v.s.size : Int)] rfl (ownsRow_later hrow (Lib.bytesWorld_below _ _ _)) (some ⟨w2.heap.size + 1, 0, none⟩) v.s.size _ (u8v (bytesOf v.s)) rfl hun.out (by simpa using hnw.out (w2.alloc (.cells #[.int .u8 (v.s.size : Int)] 5))) (u8v_one _) (by unfold maxLen; omega) (by omega) (by rw [Lib.bytesWorld_size]; simp; omega) ?_))
  intro u w3 ho3 hg3
  have hbb := (hbw2.alloc hbw2.size (.cells #[.int .u8 (v.s.size : Int)] 5))
  have hbc := hbb.trans ((Lib.bytesWorld_below (w2.alloc (.cells #[.int .u8 (v.s.size : Int)] 5)) 5 v.s).mono hbb.size)
  have hb3 := hbc.grown hg3 hbc.size (fun k hk => by cases hk; exact hbw2.size)
  go_wp2
  go_ret
  exact ⟨_, rfl, ho3, hb3⟩
theorem refLay_any (f : Fd) (v : Va) (h : f.Has v) (w : World) : Calls Try.prog 21 #[.agg #[.int .i64 f.id, .int .i64 f.kind, .int .i64 f.lo, .int .i64 f.hi, .int .i64 f.most], .agg #[.int .i64 v.n, .string v.s]] w fun e w' => ∃ u, e = .returned u ∧ w'.ownsRow w.heap.size 5 1 u (f.layB v).length (u8v (f.layB v)) ∧ Below w.heap.size w w' := by
  by_cases h4 : f.kind = 4
  · exact refLayText_any f v h h4 w
  · exact refLayNum_any f v h h4 w
end Go.Proofs.Ythpiffafakoheaa.field
