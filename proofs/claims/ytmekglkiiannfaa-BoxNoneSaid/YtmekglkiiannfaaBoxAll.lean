/- Contracts of First and All for boxes of ints. No condition. -/
import Derived.Test.YtmekglkiiannfaaBoxNew
import Derived.Maps.AppendAt
namespace Go.Proofs.Ytmekglkiiannfaa.box
open Go.Conc Go.RowKit
set_option linter.unusedVariables false

theorem info_el : (Try.prog.info? 3).map (fun i => (i.zero, i.size, i.bytes)) = some (some (.int .i64 0), 1, 8) := by kernel_rfl
theorem info_el_parts : ∃ i, Try.prog.info? 3 = some i ∧ i.zero = some (.int .i64 0) ∧ i.size = 1 ∧ i.bytes = 8 := by
  obtain ⟨i, hi, he⟩ := Option.map_eq_some_iff.1 info_el
  simp only [Prod.mk.injEq] at he
  exact ⟨i, hi, he.1, he.2.1, he.2.2⟩
set_option maxRecDepth 8000 in
theorem all_any (b c cap : Nat) (xs : List Int) (hn : xs.length ≤ 1000) (w : World) (h : BoxAt 51 3 b c cap (xs.map (Value.int .i64)) w) :
    Calls Try.prog 14 #[.pointer (some ⟨b, 0, none⟩)] w fun e w' => ∃ a k, e = .returned (.slice a xs.length k) ∧ Vals w' a xs.length (xs.map (Value.int .i64)) ∧ BoxAt 51 3 b c cap [] w' ∧ But w.heap.size c w w' := by
  obtain ⟨i0, hi, hz0, hz1, hz2⟩ := info_el_parts
  have hlt := h.lt.2
  have H := hid h.in
  clear h
  have cT := fun w1 ys (h : BoxIn w.heap.size 51 3 b c cap (List.map (Value.int .i64) ys) w1) => take_in w.heap.size b c cap ys w1 h
  go_enter Try.func14, Try.ntmps14
  go_wp2_with (go_at_call 11; (with_reducible refine (cT _ xs H.out).mono ?_); rintro e w1 ⟨rfl, hB1, hb1⟩; have HB1 := hid hB1; have Hb1 := hid hb1; clear hB1 hb1)
  go_loopw [3, 4, 5] (fun u v o wr => ∃ (ds rs : List Int), Hid (xs = ds ++ rs) ∧ v = .int .i64 (rs.head?.getD 0) ∧ o = .bool (!rs.isEmpty) ∧ BoxIn w.heap.size 51 3 b c cap (rs.tail.map (Value.int .i64)) wr ∧ But w.heap.size c w wr ∧ wr.ownsRow w.heap.size 3 1 u ds.length (ds.map (Value.int .i64)))
    (fun u _ _ _ => match u with | .slice _ n _ => xs.length - n | _ => 0)
  case atStart => exact ⟨[], xs, rfl, rfl, rfl, HB1.out, Hb1.out, World.ownsRow_nil _ _ _ _⟩
  case round =>
    obtain ⟨ds, rs, he, rfl, rfl, hB, hb, ho⟩ := hrel
    cases rs with
    | nil =>
      obtain rfl : xs = ds := by simpa using he.out
      obtain ⟨a, k, rfl, hak⟩ := ownsRow_slice ho
      have HV := hid (Vals.own ho)
      have HBB := hid hB
      have Hbb := hid hb
      clear ho hB hb cT H HB1 Hb1 he
      simp only [List.isEmpty_nil, Bool.not_true, List.head?_nil, Option.getD_none] at *
      go_wp2
      go_ret
      exact ⟨a, k, rfl, HV.out, HBB.out.at, Hbb.out⟩
    | cons x rs =>
      obtain ⟨a, k, rfl, hak⟩ := ownsRow_slice ho
      have hl : ds.length + rs.length + 1 = xs.length := by rw [he.out]; simp; omega
      have hsz : w.heap.size ≤ wr.heap.size := hb.2.2.2.1
      have HE : Hid (xs = (ds ++ [x]) ++ rs) := by show _ = _; rw [he.out]; simp
      have HO := hid ho
      have HB := hid hB
      have Hb := hid hb
      have hlen : ds.length + 1 ≤ 1000 := by omega
      clear ho hB hb he H HB1 Hb1
      simp only [List.isEmpty_cons, Bool.not_false, List.head?_cons, Option.getD_some, List.tail_cons] at *
      go_wp2_with (first
        | (at_builtin; refine wpList_append_from rfl _ _ 27 rfl w.heap.size 3 i0 (.int .i64 0) 8 Try.underlying27 hi hz0 hz1 hz2 rfl _ ds.length (ds.map (Value.int .i64)) rfl (ownsRow_same HO.out (fun g hg => Below.heap_alloc wr _ g (World.ownsRow.lt HO.out g hg).2)) (some ⟨wr.heap.size, 0, none⟩) 1 1 [.int .i64 x] rfl rfl (.inr ⟨_, rfl, one_new _ _ _⟩) (one_cell rfl) (by unfold maxLen; omega) (by omega) (by simp; omega) ?_; intro v' w2 ho2 hg2; have hb2 : Below w.heap.size wr w2 := ((Below.refl wr.heap.size wr).alloc (Nat.le_refl _) _).mono hsz |>.grown hg2 (by simp; omega) (fun k hk => (World.ownsRow.lt HO.out k hk).1); have HO2 : Hid (w2.ownsRow w.heap.size 3 1 v' (ds ++ [x]).length ((ds ++ [x]).map (Value.int .i64))) := by { show World.ownsRow _ _ _ _ _ _ _; rw [List.length_append, List.map_append]; exact ho2 }; have HB2 := hid (HB.out.same (w' := w2) fun k hk => hb2.block k hk); have Hb2 := hid (below_but Hb.out hb2); clear ho2 hg2 hb2 HO HB Hb))
      go_at_call 11
      with_reducible refine (cT _ rs HB2.out).mono ?_
      rintro e w3 ⟨rfl, hB3, hb3⟩; have HB3 := hid hB3; have Hb3 := hid (Hb2.out.trans (hb3.mono Hb2.out.2.2.2.1)); have HO3 := hid (row_but HO2.out hb3 hlt); clear hB3 hb3 HO2 HB2 Hb2
      go_wp2
      exact ⟨⟨ds ++ [x], rs, HE, rfl, rfl, HB3.out, Hb3.out, HO3.out⟩, by obtain ⟨a', k', rfl, _⟩ := ownsRow_slice HO3.out; simp only [List.length_append, List.length_cons, List.length_nil]; omega⟩
end Go.Proofs.Ytmekglkiiannfaa.box
