/- Contracts of Seal of layer 2 (zeros) and of the reference's Sum, Seal and Right, for slices of words. -/
import Derived.Test.YtcgfinfafphapaaZerosCount
import Derived.Test.YtcgfinfafphapaaWordRefOnes
import Derived.Laws.CopyOwn
import Derived.Laws.AppendOwnNone
namespace Go.Proofs.Ytcgfinfafphapaa.zeros
open Go.RowKit Go.Proofs.Ytcgfinfafphapaa.word
set_option linter.unusedVariables false

/-- words followed by the number of their zero bits -/
def sealed (xs : List Nat) : List Nat := xs ++ [zcount xs % 4294967296]
theorem Tryinfo34 : (Try.prog.info? 23).map (fun i => (i.zero, i.size, i.bytes)) = some (some (.int .u32 0), 1, 4) := by kernel_rfl
theorem Reads.cells {k : IntKind} {w : World} {a : Option Addr} {len : Nat} {xs : List Nat} (h : Reads k w a len xs) : 0 < (xs.map fun x : Nat => Value.int k (x : Int)).length → ∃ ad, a = some ad ∧ ∀ (j : Nat) (v : Value), (xs.map fun x : Nat => Value.int k (x : Int))[j]? = some v → w.cell? (ad.add j) = some v := by
  intro hp
  have hl : xs.length = len := h.1
  obtain ⟨b, off, rfl, hb, hc⟩ := h.at (i := 0) (by simp at hp; omega)
  refine ⟨_, rfl, fun j v hj => ?_⟩
  have hj' : j < xs.length := by
    have := (List.getElem?_eq_some_iff.1 hj).1
    simpa using this
  rw [Addr.add_lit, hc j (by omega)]
  rw [List.getElem?_map, List.getElem?_eq_getElem hj'] at hj
  simp only [Option.map_some, Option.some.injEq] at hj
  subst hj
  rw [List.getD_eq_getElem?_getD, List.getElem?_eq_getElem hj']; rfl
theorem ints_one (k : IntKind) (xs : List Nat) : ∀ v ∈ xs.map (fun x : Nat => Value.int k (x : Int)), v.oneCell' = true := by
  intro v hv
  obtain ⟨x, _, rfl⟩ := List.mem_map.1 hv
  rfl
set_option maxHeartbeats 1600000 in
theorem seal_any (a : Option Addr) (len cap : Nat) (xs : List Nat) (w : World) (hr : Reads .u32 w a len xs) (hx : ∀ x ∈ xs, x < 4294967296) (hl : len ≤ 35184372088832) :
    Calls Try.prog 10 #[.slice a len cap] w fun e w' => ∃ v, e = .returned v ∧ w'.ownsRow w.heap.size 23 1 v (len + 1) ((sealed xs).map fun x : Nat => Value.int .u32 (x : Int)) ∧ Below w.heap.size w w' := by
  obtain ⟨i0, hi, hz0, hz1, hz2⟩ := info_parts Tryinfo34
  have hlen := hr.1
  have c := fun w' (h : Reads .u32 w' a len xs) => sum_any a len cap xs w' h hx (by omega)
  have q1 : IntKind.i64.wrap ((len : Int) + 1) = (len : Int) + 1 := IntWalk.i64_in _ (by omega)
  unfold sealed
  generalize zcount xs % 4294967296 = z at *
  have HX := hid hx
  have HL := hid hlen
  clear hx hlen
  go_enter Try.func10, Try.ntmps10
  go_wp2_with (at_make; refine wpList_make_full _ rfl _ _ 22 rfl w.heap.size 23 i0 (.int .u32 0) 1 Try.underlying22 hi hz0 hz1 _ _ _ _ (len + 1) rfl rfl (by simp) (by simp) (by rw [hz2]; omega) (by unfold maxLen; omega) (Nat.le_refl _) ?_)
  intro w1 hown hgrow
  rw [toList_madeCells_one] at hown
  have hb1 := (Below.refl w.heap.size w).grown hgrow (Nat.le_refl _) (fun k h => by cases h)
  have hr1 := hr.below hb1
  obtain ⟨hol, hor⟩ := hown
  rcases hor with ⟨_, h0⟩ | ⟨g, cap', cur, hv, hb, hg, h1, h2, h3, h4⟩
  · omega
  · simp only [Value.slice.injEq, Option.some.injEq, Addr.mk.injEq, and_true, true_and] at hv
    obtain ⟨rfl, rfl⟩ := hv
    have hcur : cur.toList = List.replicate (len + 1) (.int .u32 0) := by
      rw [← h4, List.take_of_length_le (by rw [Array.length_toList]; omega)]
    have hg2 : w1.heap[w.heap.size]? = some (.cells (List.replicate (len + 1) (Value.int .u32 0)).toArray 23 (0, 0)) := by rw [← hcur]; simpa using hg
    have hsz1 : (Try.prog.info? 23).map (·.size) = some 1 := by rw [hi]; simp [hz1]
    have hpos : 0 < (xs.map fun x : Nat => Value.int .u32 (x : Int)).length → some (⟨w.heap.size, 0, none⟩ : Addr) = some ⟨w.heap.size, 0, none⟩ ∧ ∃ ad, a = some ad ∧ ∀ j v, (xs.map fun x : Nat => Value.int .u32 (x : Int))[j]? = some v → w1.cell? (ad.add j) = some v := fun h => ⟨rfl, Reads.cells hr1 h⟩
    have hn : (xs.map fun x : Nat => Value.int .u32 (x : Int)).length = Nat.min len (len + 1) := by rw [List.length_map, HL.out]; exact (Nat.min_eq_left (by omega)).symm
    have hfit : 0 + (xs.map fun x : Nat => Value.int .u32 (x : Int)).length ≤ (List.replicate (len + 1) (Value.int .u32 0)).length := by rw [List.length_map, HL.out, List.length_replicate]; omega
    have hone := ints_one .u32 xs
    have HN := hid hn
    have HF := hid hfit
    have HO := hid hone
    have HG := hid hg2
    have HP := hid hpos
    clear hn hfit hone hg2 hpos hg hcur h4 hr1 hol hb
    go_wp2_with (with_reducible refine wpList_copy_splice rfl (.tmp 8) (.tmp 9) 22 22 rfl 23 Try.underlying22 hsz1 (some ⟨w.heap.size, 0, none⟩) a (len + 1) (len + 1) len cap rfl rfl w.heap.size 0 (List.replicate (len + 1) (Value.int .u32 0)) 23 HG.out (xs.map fun x : Nat => Value.int .u32 (x : Int)) HN.out HP.out HF.out HO.out w.heap.size w hb1 (Nat.le_refl _) ?_)
    intro w2 HG2 hb2
    have hr2 := hr.below hb2
    have ho2 : w2.ownsRow w.heap.size 23 1 (.slice (some ⟨w.heap.size, 0, none⟩) (len + 1) (len + 1)) (len + 1) ((xs.map fun x : Nat => Value.int .u32 (x : Int)) ++ [Value.int .u32 0]) := by
      refine ⟨by simp [HL.out], .inr ⟨w.heap.size, len + 1, _, rfl, Nat.le_refl _, HG2.out, Nat.le_refl _, h2, ?_, ?_⟩⟩
      · rw [List.size_toArray, length_splice _ _ _ HF.out]; simp
      · simp only [splice, List.take_zero, List.nil_append, Nat.zero_add]
        rw [List.length_map, HL.out, List.drop_replicate, List.take_of_length_le (by simp [HL.out])]
        simp
    have f2 := ho2.frozenAt len
    have c2 : w2.cell? ⟨w.heap.size, len, none⟩ = some (.int .u32 0) := by
      rw [ho2.cellAt len (by omega)]
      rw [List.getElem?_append_right (by simp [HL.out])]
      simp [HL.out]
    have HO2 := hid ho2
    clear ho2
    rw [HL.out]
    go_wp2_with (go_at_call 7; (with_reducible refine (c _ hr2).mono ?_); rintro e w' ⟨rfl, m2, rfl⟩)
    go_ret
    have hst := (HO2.out.drewN m2).stored len (.int .u32 (z : Int))
    have hmap : ((xs.map fun x : Nat => Value.int .u32 (x : Int)) ++ [Value.int .u32 0]).set len (.int .u32 (z : Int)) = (xs ++ [z]).map fun x : Nat => Value.int .u32 (x : Int) := by
      rw [List.set_append_right _ _ (by simp [HL.out])]
      simp [HL.out]
    rw [hmap] at hst
    exact ⟨_, rfl, hst.1, (below_drewN hb2 m2).setCell (Nat.le_refl _) _⟩
end Go.Proofs.Ytcgfinfafphapaa.zeros
