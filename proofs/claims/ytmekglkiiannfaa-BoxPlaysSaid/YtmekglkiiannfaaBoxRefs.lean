/- Contracts of the reference's box of ints: Put and Take. No condition. -/
import Derived.Test.YtmekglkiiannfaaBoxRef
import Derived.BigQuiet
namespace Go.Proofs.Ytmekglkiiannfaa.box
open Go.Conc Go.RowKit
set_option linter.unusedVariables false

theorem vals_news {w : World} {a : Option Addr} {len : Nat} {vs : List Value} (h : Vals w a len vs) : len = 0 ∨ ∃ ad, a = some ad ∧ ∀ j u, vs[j]? = some u → w.cell? (ad.add j) = some u := by
  rcases h.2 with h0 | ⟨b, off, ha, _, hc⟩
  · exact .inl h0
  · exact .inr ⟨_, ha, fun j u hu => by rw [Addr.add_lit]; exact hc j u hu⟩
theorem ints_one (xs : List Int) : ∀ v ∈ xs.map (Value.int .i64), v.oneCell' = true := by intro v hv; obtain ⟨x, _, rfl⟩ := List.mem_map.1 hv; rfl
theorem own_intRow {w : World} {base n k : Nat} {a : Option Addr} {vs : List Value} (h : w.ownsRow base 3 1 (.slice a n k) n vs) : OnRow w a := by
  intro x hx
  subst hx
  obtain ⟨_, hr⟩ := h
  rcases hr with ⟨hv, _⟩ | ⟨g', cap', cur, hv, hb, hg, _⟩
  · cases hv
  · cases hv
    exact ⟨cur, (0, 0), hg⟩
theorem cut_ints (W : World) (a : Option Addr) (len cap k : Nat) (h : k ≤ len) : (Instr.slice 27 (.slice a len cap) (some (.int .i64 (k : Int))) none none).run Try.prog W = .ok (.slice (vshift a k cap) (len - k) (cap - k)) W := by
  rw [run_slice_l W 27 a len cap (by kernel_rfl) .i64 k (by omega) (by omega)]
  rw [show (sizeOf (Try.prog.elem 27)).run Try.prog W = .ok 1 W by kernel_rfl]
  simp [Result.andThen, sliced, vshift]

set_option maxRecDepth 8000 in
theorem refPut_any (g room : Nat) (xs : List Int) (x : Int) (w : World) (h : RefAt g room xs w) (hle : xs.length ≤ room) (hn : room ≤ 64) :
    Calls Try.prog 10 #[.pointer (some ⟨g, 0, none⟩), .int .i64 x] w fun e w' => e = .returned (.bool (decide (xs.length < room))) ∧ RefAt g room (if xs.length < room then xs ++ [x] else xs) w' ∧ But w.heap.size g w w' := by
  obtain ⟨i0, hi, hz0, hz1, hz2⟩ := info_el_parts
  have H := hid h
  obtain ⟨a, k, hb, hk, hv, ho⟩ := h
  have hc0 : w.cell? ⟨g, 0, none⟩ = some (.slice a xs.length k) := by rw [hb.cell]; rfl
  have hc1 : w.cell? ⟨g, 1, none⟩ = some (.int .i64 (room : Int)) := by rw [hb.cell]; rfl
  have f0 := hb.frozen 0
  have f1 := hb.frozen 1
  have hlt := hb.lt
  have dc0 : ∀ m, (w.drewN m).cell? ⟨g, 0, none⟩ = some (.slice a xs.length k) := fun _ => hc0
  have df0 : ∀ m, (w.drewN m).frozen? ⟨g, 0, none⟩ = false := fun _ => f0
  by_cases hr : xs.length < room
  · rw [if_pos hr, decide_eq_true hr]
    have ht : ((xs.length : Int) == (room : Int)) = false := by rw [beq_eq_false_iff_ne]; omega
    have HN := hid (vals_news hv)
    have hlen : (xs.map (Value.int .i64)).length = xs.length := by simp
    have HO1 := hid (ints_one xs)
    have HB := hid hb
    clear hb hv ho
    go_enter Try.func10, Try.ntmps10
    go_wp2
    go_quiet (fail)
    go_wp2_with (at_builtin; refine wpList_append_from rfl _ _ 27 rfl w.heap.size 3 i0 (.int .i64 0) 8 Try.underlying27 hi hz0 hz1 hz2 rfl _ 0 [] rfl (World.ownsRow_nil _ _ _ _) a xs.length k (xs.map (Value.int .i64)) rfl hlen HN.out HO1.out (by unfold maxLen; omega) (by omega) (by simp) ?_)
    intro v1 w1 ho1 hg1
    have hb1 : Below w.heap.size w w1 := (below_drewN (Below.refl _ w) nq).grown hg1 (Nat.le_refl _) (fun k hk => by cases hk)
    have hs1 := hb1.size
    have HO2 := hid ho1
    have Hb1 := hid hb1
    clear ho1 hg1 hb1
    go_wp2_with (at_builtin; refine wpList_append_from rfl _ _ 27 rfl w.heap.size 3 i0 (.int .i64 0) 8 Try.underlying27 hi hz0 hz1 hz2 rfl _ xs.length (xs.map (Value.int .i64)) rfl (ownsRow_same HO2.out (fun g hg => Below.heap_alloc w1 _ g (World.ownsRow.lt HO2.out g hg).2)) (some ⟨w1.heap.size, 0, none⟩) 1 1 [.int .i64 x] rfl rfl (.inr ⟨_, rfl, one_new _ _ _⟩) (one_cell rfl) (by unfold maxLen; omega) (by omega) (by simp; omega) ?_)
    intro v2 w2 ho2 hg2
    have hb2 : Below w.heap.size w w2 := (Hb1.out.alloc hs1 _).grown hg2 (by simp; omega) (fun k hk => (World.ownsRow.lt HO2.out k hk).1)
    obtain ⟨a2, k2, rfl, hk2⟩ := ownsRow_slice ho2
    have hB2 := HB.out.below hb2 hlt
    have hcell2 : w2.cell? ⟨g, 0, none⟩ = some (.slice a xs.length k) := by rw [hB2.cell]; rfl
    have hfr2 := hB2.frozen 0
    have hS := (But.refl w2.heap.size g w2).setCell 0 (.slice a2 (xs.length + 1) k2)
    have hR : RefAt g room (xs ++ [x]) (w2.setCell ⟨g, 0, none⟩ (.slice a2 (xs.length + 1) k2)) := by
      have hon : OnRow w2 a2 := own_intRow ho2
      have hne : ¬ IntRow w2 g := fun h2 => h2.ne hB2 (by decide) rfl
      refine ⟨a2, k2, ?_, by simpa using hk2, ?_, hon.but hS hne⟩
      · simpa using hB2.setCell 0 (.slice a2 (xs.length + 1) k2)
      · have := (Vals.own ho2).but hS (fun x hx => by rintro rfl; exact hne (hon x hx))
        simpa using this
    have hBut : But w.heap.size g w (w2.setCell ⟨g, 0, none⟩ (.slice a2 (xs.length + 1) k2)) := (Below.but hb2).trans (hS.mono hb2.size)
    have HR := hid hR
    have HBut := hid hBut
    clear ho2 hg2 hb2 hB2 hS hR hBut HO2 Hb1
    go_wp2
    go_ret
    exact ⟨rfl, HR.out, HBut.out⟩
  · rw [if_neg hr, decide_eq_false hr]
    have ht : ((xs.length : Int) == (room : Int)) = true := by rw [beq_iff_eq]; omega
    clear hb hv ho
    go_enter Try.func10, Try.ntmps10
    go_wp2
    go_quiet (fail)
    go_wp2
    go_ret
    exact ⟨rfl, H.out, But.refl _ _ _⟩

set_option maxRecDepth 8000 in
theorem refTake_any (g room : Nat) (xs : List Int) (w : World) (h : RefAt g room xs w) :
    Calls Try.prog 12 #[.pointer (some ⟨g, 0, none⟩)] w fun e w' => e = .returned (.tuple #[.int .i64 (xs.head?.getD 0), .bool (!xs.isEmpty)]) ∧ RefAt g room xs.tail w' ∧ But w.heap.size g w w' := by
  have H := hid h
  obtain ⟨a, k, hb, hk, hv, ho⟩ := h
  have hc0 : w.cell? ⟨g, 0, none⟩ = some (.slice a xs.length k) := by rw [hb.cell]; rfl
  have f0 := hb.frozen 0
  have hlt := hb.lt
  cases xs with
  | nil =>
    rw [show (((([] : List Int).length : Nat)) : Nat) = 0 from rfl] at hc0
    clear hb hv ho
    go_enter Try.func12, Try.ntmps12
    go_wp2
    go_ret2
    exact ⟨rfl, H.out, But.refl _ _ _⟩
  | cons x xs =>
    obtain ⟨b, off, rfl, hlt2, hcell⟩ := hv.at (i := 0) (by simp)
    have hx0 : w.cell? ⟨b, off, none⟩ = some (.int .i64 x) := by have := hcell 0 (.int .i64 x) rfl; simpa using this
    have ht : (((xs.length : Int) + 1) == 0) = false := by rw [beq_eq_false_iff_ne]; omega
    have hpos : (0 : Int) < (xs.length : Int) + 1 := by omega
    have hcut : ∀ W, (Instr.slice 27 (.slice (some ⟨b, off, none⟩) (x :: xs).length k) (some (.int .i64 1)) none none).run Try.prog W = .ok (.slice (vshift (some ⟨b, off, none⟩) 1 k) ((x :: xs).length - 1) (k - 1)) W := fun W => cut_ints W (some ⟨b, off, none⟩) (x :: xs).length k 1 (by simp)
    have hS := (But.refl w.heap.size g w).setCell 0 (.slice (vshift (some ⟨b, off, none⟩) 1 k) xs.length (k - 1))
    have hR : RefAt g room xs (w.setCell ⟨g, 0, none⟩ (.slice (vshift (some ⟨b, off, none⟩) 1 k) xs.length (k - 1))) := by
      have hne : ¬ IntRow w g := fun h2 => h2.ne hb (by decide) rfl
      have hbg : b ≠ g := by rintro rfl; exact hne (ho _ rfl)
      have hon : OnRow w (vshift (some ⟨b, off, none⟩) 1 k) := by
        intro y hy
        have : y.block = b := by
          unfold vshift at hy
          split at hy
          · cases hy; rfl
          · simp only [Option.map_some, Addr.add_lit, Option.some.injEq] at hy; rw [← hy]
        rw [this]
        exact ho _ rfl
      refine ⟨_, k - 1, hb.setCell 0 _, by simp at hk; omega, ?_, hon.but hS hne⟩
      have hd := hv.drop (k := 1) (by simp) hk
      simp only [List.map_cons, List.drop_one, List.tail_cons, List.length_cons, Nat.add_sub_cancel] at hd
      exact hd.but hS (fun y hy => by rintro rfl; exact hne (hon y hy))
    have HR := hid hR
    have HS := hid hS
    simp only [List.length_cons, Nat.add_sub_cancel] at hc0 hcut
    clear hb hv ho hcell hR hS H
    generalize hA : vshift (some (⟨b, off, none⟩ : Addr)) 1 k = A at *
    go_enter Try.func12, Try.ntmps12
    go_wp2
    go_ret2
    exact ⟨rfl, HR.out, HS.out⟩
end Go.Proofs.Ytmekglkiiannfaa.box
