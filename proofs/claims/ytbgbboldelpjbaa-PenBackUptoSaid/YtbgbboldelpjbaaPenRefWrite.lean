/- Contracts of the reference's Count, Num, Word and Text, which write. No condition but a text of at most 2^46 bytes. -/
import Derived.Test.YtbgbboldelpjbaaPenDone
namespace Go.Proofs.Ytbgbboldelpjbaa.pen
open Go.RowKit Go.Proofs.Ytbgbboldelpjbaa.texts
set_option linter.unusedVariables false

set_option maxRecDepth 8000 in
theorem refCount_any (x : Nat) (hx : x < 18446744073709551616) (w : World) : Calls Try.prog 32 #[.int .u64 (x : Int)] w (Copies (vb x) w) := by
  obtain ⟨i0, hi, hz0, hz1, hz2⟩ := info_parts info5
  have hlen := vb_ten x hx
  obtain ⟨X, hX⟩ : ∃ X, Hid (vb x = X) := ⟨_, rfl⟩
  rw [hX.out] at hlen ⊢
  have HX : Hid (([] : List Nat) ++ vb x = X) := hX.out
  go_enter Try.func32, Try.ntmps32
  go_wp2
  go_loopw [0, 3] (fun u v wr => ∃ (y : Nat) (ys : List Nat), u = .int .u64 (y : Int) ∧ y < 18446744073709551616 ∧ wr.ownsRow w.heap.size 5 1 v ys.length (u8v ys) ∧ Below w.heap.size w wr ∧ Hid (ys ++ vb y = X))
    (fun u v _ => (intOf u).toNat)
  case atStart => exact ⟨x, [], rfl, hx, World.ownsRow_nil _ _ _ _, Below.refl _ _, HX⟩
  case round =>
    obtain ⟨y, ys, rfl, hy, ho, hb, he⟩ := hrel
    obtain ⟨a, c, rfl, hac⟩ := ownsRow_slice ho
    have hl : ys.length + (vb y).length = X.length := by rw [← he.out, List.length_append]
    have hpos := vb_pos y
    have HO := hid ho
    have HB := hid hb
    have hsz := hb.size
    clear ho hb
    by_cases h128 : y < 128
    · have hq : ¬ ((127 : Int) < y) := by omega
      have hE : Hid (ys ++ [y] = X) := by show _ = _; rw [← he.out, vb_small h128]
      have hys : ys.length + 1 ≤ 10 := by omega
      clear hl hpos he
      go_wp2_with (at_builtin; refine wpList_append_from rfl _ _ 25 rfl w.heap.size 5 i0 (.int .u8 0) 1 Try.underlying25 hi hz0 hz1 hz2 rfl _ ys.length (u8v ys) rfl (ownsRow_heap HO.out (fun g hg => Below.heap_alloc wr _ g (World.ownsRow.lt HO.out g hg).2)) (some ⟨wr.heap.size, 0, none⟩) 1 1 [.int .u8 (y : Int)] rfl rfl (.inr ⟨_, rfl, one_new _ _ _⟩) (one_cell rfl) (by unfold maxLen; omega) (by omega) (by simp; omega) ?_)
      intro v' w2 ho2 hg2
      have hb2 : Below w.heap.size w w2 := (HB.out.alloc hsz _).grown hg2 (by simp; omega) (fun k hk => (World.ownsRow.lt HO.out k hk).1)
      have ho3 : w2.ownsRow w.heap.size 5 1 v' X.length (u8v X) := by rw [← hE.out, u8v_append, List.length_append]; exact ho2
      have HO2 := hid ho3
      have HB2 := hid hb2
      clear ho2 hg2 hb2 ho3 HO
      go_wp2
      go_ret
      exact ⟨_, rfl, HO2.out, HB2.out⟩
    · have hq : (127 : Int) < y := by omega
      have hE : Hid ((ys ++ [128 + y % 128]) ++ vb (y / 128) = X) := by show _ = _; rw [← he.out, vb_big h128]; simp
      have hys : ys.length + 1 ≤ 10 := by omega
      clear hl hpos he
      go_wp2_with (at_builtin; refine wpList_append_from rfl _ _ 25 rfl w.heap.size 5 i0 (.int .u8 0) 1 Try.underlying25 hi hz0 hz1 hz2 rfl _ ys.length (u8v ys) rfl (ownsRow_heap HO.out (fun g hg => Below.heap_alloc wr _ g (World.ownsRow.lt HO.out g hg).2)) (some ⟨wr.heap.size, 0, none⟩) 1 1 [_] rfl rfl (.inr ⟨_, rfl, one_new _ _ _⟩) (one_cell (by rfl)) (by unfold maxLen; omega) (by omega) (by simp; omega) ?_)
      intro v' w2 ho2 hg2
      have hb2 : Below w.heap.size w w2 := (HB.out.alloc hsz _).grown hg2 (by simp; omega) (fun k hk => (World.ownsRow.lt HO.out k hk).1)
      have ho3 : w2.ownsRow w.heap.size 5 1 v' (ys ++ [128 + y % 128]).length (u8v (ys ++ [128 + y % 128])) := by
        rw [u8v_append, List.length_append, show u8v [128 + y % 128] = [.int .u8 (128 + (y : Int) % 128)] from congrArg (fun z => [Value.int .u8 z]) (by omega)]; exact ho2
      have HO2 := hid ho3
      have HB2 := hid hb2
      clear ho2 hg2 hb2 ho3 HO
      go_wp2
      exact ⟨⟨y / 128, ys ++ [128 + y % 128], by go_num, by omega, HO2.out, HB2.out, hE⟩, by simp [intOf]; omega⟩

theorem refNum_any (n : Int) (h1 : -9223372036854775808 ≤ n) (h2 : n ≤ 9223372036854775807) (w : World) : Calls Try.prog 33 #[.int .i64 n] w (Copies (vb (zig n)) w) := by
  have c1 := refCount_any (zig n) (zig_lt n h1 h2) w
  obtain ⟨X, hX⟩ : ∃ X, Hid (vb (zig n) = X) := ⟨_, rfl⟩
  rw [hX.out] at c1 ⊢
  by_cases h0 : n < 0
  · have hz : (zig n : Int) = 2 * (-n - 1) + 1 := by unfold zig; rw [if_pos h0]; omega
    have c2 : ∀ z : Int, z = 2 * (-n - 1) + 1 → Calls Try.prog 32 #[.int .u64 z] w (Copies X w) := by
      rintro z rfl; rw [← hz]; exact c1
    clear hz c1 hX
    go_enter Try.func33, Try.ntmps33
    go_wp2_with (go_at_call 32; (with_reducible refine (c2 _ (by omega)).mono ?_); clear c2; rintro e w1 ⟨v, rfl, ho, hb⟩)
    go_ret
    exact ⟨_, rfl, ho, hb⟩
  · have hz : (zig n : Int) = 2 * n := by unfold zig; rw [if_neg h0]; omega
    have c2 : ∀ z : Int, z = 2 * n → Calls Try.prog 32 #[.int .u64 z] w (Copies X w) := by
      rintro z rfl; rw [← hz]; exact c1
    clear hz c1 hX
    go_enter Try.func33, Try.ntmps33
    go_wp2_with (go_at_call 32; (with_reducible refine (c2 _ (by omega)).mono ?_); clear c2; rintro e w1 ⟨v, rfl, ho, hb⟩)
    go_ret
    exact ⟨_, rfl, ho, hb⟩
/-- a row that was just built -/
theorem ownsRow_built (w : World) (xs : List Nat) (m : Nat) (hm : xs.length = m) (hl : m ≤ 140737488355328) (vals : Array Value) (hv : vals = (u8v xs).toArray) :
    (w.alloc (.cells vals 5)).ownsRow w.heap.size 5 1 (.slice (some ⟨w.heap.size, 0, none⟩) m m) xs.length (u8v xs) := by
  subst hm hv
  exact ⟨by rw [u8v_length]; omega, .inr ⟨w.heap.size, xs.length, (u8v xs).toArray, rfl, Nat.le_refl _, heap_alloc_last w _, Nat.le_refl _, by unfold maxLen; omega, by simp [u8v_length], by rw [List.take_of_length_le (by simp [u8v_length])]⟩⟩
theorem refWord_any (x : Nat) (hx : x < 4294967296) (w : World) : Calls Try.prog 34 #[.int .u32 (x : Int)] w (Copies (wb x) w) := by
  go_enter Try.func34, Try.ntmps34
  go_wp2
  go_ret
  refine ⟨_, rfl, ownsRow_built w (wb x) 4 rfl (by omega) _ ?_, (Below.refl _ _).alloc (Nat.le_refl _) _⟩
  simp [u8v, wb]
theorem refText_any (s : List UInt8) (hs : s.length ≤ 70368744177664) (w : World) : Calls Try.prog 35 #[.string (strL s)] w (Copies (vb s.length ++ nums s) w) := by
  obtain ⟨i0, hi, hz0, hz1, hz2⟩ := info_parts info5
  have c1 : Calls Try.prog 32 #[.int .u64 ((strL s).size : Int)] w (Copies (vb s.length) w) := by
    rw [strL_size]; exact refCount_any s.length (by omega) w
  have hl := vb_ten s.length (by omega)
  have hcv : Hid (∀ w1 : World, (convert 9 25 (.string (strL s))).run Try.prog w1 = .ok (.slice (some ⟨w1.heap.size, 0, none⟩) (strL s).size (grownCap w1 (strL s).size 0 5)) (Lib.bytesWorld w1 5 (strL s))) :=
    fun w1 => Lib.run_convert_string_bytes w1 _ _ _ _ Try.underlying9 Try.underlying25 Try.underlying5
  have hnw : Hid (∀ w1 : World, (strL s).size = 0 ∨ ∃ ad, (some ⟨w1.heap.size, 0, none⟩ : Option Addr) = some ad ∧ ∀ j u, (u8v (nums s))[j]? = some u → (Lib.bytesWorld w1 5 (strL s)).cell? (ad.add j) = some u) := fun w1 => by
    refine Reads.news (xs := nums s) ⟨by rw [nums_len, strL_size], .inr ⟨_, _, rfl, by rw [Lib.bytesWorld_size]; omega, fun i hi => ?_⟩⟩
    rw [strL_size] at hi
    rw [Nat.zero_add, Lib.bytesWorld_cell _ _ _ _ (by rw [strL_size]; exact hi), strL_data]
    simp [nums, List.getD_eq_getElem?_getD, List.getElem?_eq_getElem hi]
  have hun : Hid ((u8v (nums s)).length = (strL s).size) := by show _ = _; rw [u8v_length, nums_len, strL_size]
  have hsz : (strL s).size ≤ 70368744177664 := by rw [strL_size]; exact hs
  obtain ⟨S, hS⟩ : ∃ S, Hid (strL s = S) := ⟨_, rfl⟩
  obtain ⟨V, hV⟩ : ∃ V, Hid (vb s.length = V) := ⟨_, rfl⟩
  rw [hS.out] at c1 hcv hnw hun hsz ⊢
  rw [hV.out] at c1 hl ⊢
  have HL := hid hl
  clear hl
  go_enter Try.func35, Try.ntmps35
  go_wp2_with (first
    | (go_at_call 32; (with_reducible refine c1.mono ?_); clear c1; rintro e w1 ⟨v, rfl, ho, hb⟩; obtain ⟨a1, k1, rfl, _⟩ := ownsRow_slice ho; have hc1 := hcv.out w1; have HO := hid ho; have HB := hid hb; clear ho hb)
    | (at_builtin; refine wpList_append_from rfl _ _ 25 rfl w.heap.size 5 i0 (.int .u8 0) 1 Try.underlying25 hi hz0 hz1 hz2 rfl (.slice a1 V.length k1) V.length (u8v V) rfl (ownsRow_heap HO.out (fun g hg => Lib.bytesWorld_at_old w1 _ S g (World.ownsRow.lt HO.out g hg).2)) (some ⟨w1.heap.size, 0, none⟩) S.size _ (u8v (nums s)) rfl hun.out (hnw.out w1) (u8v_one _) (by have := HL.out; unfold maxLen; omega) (by have := HL.out; omega) (by rw [Lib.bytesWorld_size]; have := HB.out.size; omega) ?_))
  intro v' w2 ho2 hg2
  have hbw : Below w.heap.size w (Lib.bytesWorld w1 5 S) := HB.out.trans ⟨rfl, rfl, rfl, by rw [Lib.bytesWorld_size]; omega, fun k hk => Lib.bytesWorld_at_old w1 _ _ k (Nat.lt_of_lt_of_le hk HB.out.size)⟩
  have hb2 : Below w.heap.size w w2 := hbw.grown hg2 hbw.size (fun k hk => (World.ownsRow.lt HO.out k hk).1)
  have ho3 : w2.ownsRow w.heap.size 5 1 v' (V ++ nums s).length (u8v (V ++ nums s)) := by
    rw [u8v_append, List.length_append, ← u8v_length (nums s), hun.out]; exact ho2
  have HO2 := hid ho3
  have HB2 := hid hb2
  clear ho2 hg2 hb2 ho3 HO hbw hc1 hnw hun
  go_wp2
  go_ret
  exact ⟨_, rfl, HO2.out, HB2.out⟩
end Go.Proofs.Ytbgbboldelpjbaa.pen
