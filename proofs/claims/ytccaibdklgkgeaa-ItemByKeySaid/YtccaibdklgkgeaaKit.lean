/- Small lemmas on memory that the proofs of this seat share: what a slice of integers reads as, and what a quiet call leaves. No condition. -/
import Derived.Test.YtccaibdklgkgeaaRows
import Derived.WalkKit
import Derived.BigQuiet
namespace Go.Proofs.Ytccaibdklgkgeaa
open Go.RowKit

theorem hid {p : Prop} (h : p) : Hid p := h
theorem ret_int {k : IntKind} {a b : Int} (h : a = b) : Ending.returned (.int k a) = .returned (.int k b) := by rw [h]
theorem ret_bool {a b : Bool} (h : a = b) : Ending.returned (.bool a) = .returned (.bool b) := by rw [h]

/-- the call returns v and changes nothing; it may draw orders -/
def Quiet (v : Value) (w : World) (e : Ending) (w' : World) : Prop := e = .returned v ∧ ∃ n, w' = w.drewN n
theorem Quiet.mk0 {v : Value} {w : World} : Quiet v w (.returned v) w := ⟨rfl, 0, rfl⟩
theorem _root_.Go.Proofs.Ytccaibdklgkgeaa.quietAt {P : Program} {f : FuncId} {args : Array Value} {w : World} {n : Nat} {v : Value}
    (h : Calls P f args (w.drewN n) (Quiet v (w.drewN n))) : Calls P f args (w.drewN n) fun e w'' => e = .returned v ∧ ∃ m, w'' = w.drewN m :=
  h.mono fun _ _ ⟨he, m, hm⟩ => ⟨he, n + m, by rw [hm, World.drewN_drewN]⟩

theorem below_drewN {B : Nat} {a w : World} (h : Below B a w) (n : Nat) : Below B a (w.drewN n) :=
  ⟨h.os, h.tape, h.output, h.size, h.block⟩

theorem _root_.Go.World.ownsRow.drewN {w : World} {base e size n : Nat} {v : Value} {xs : List Value} (h : w.ownsRow base e size v n xs) (m : Nat) : (w.drewN m).ownsRow base e size v n xs := h

/-- the slice at address a, of length len, reads as the numbers xs of kind k -/
def Reads (k : IntKind) (w : World) (a : Option Addr) (len : Nat) (xs : List Nat) : Prop :=
  xs.length = len ∧ (len = 0 ∨ ∃ b off, a = some ⟨b, off, none⟩ ∧ b < w.heap.size ∧ ∀ i, i < len → w.cell? ⟨b, off + i, none⟩ = some (.int k ((xs.getD i 0 : Nat) : Int)))

theorem Reads.at {k : IntKind} {w : World} {a : Option Addr} {len : Nat} {xs : List Nat} (h : Reads k w a len xs) {i : Nat} (hi : i < len) :
    ∃ b off, a = some ⟨b, off, none⟩ ∧ b < w.heap.size ∧ ∀ i, i < len → w.cell? ⟨b, off + i, none⟩ = some (.int k ((xs.getD i 0 : Nat) : Int)) := by
  rcases h.2 with h | h
  · omega
  · exact h
theorem Reads.below {k : IntKind} {w w' : World} {a : Option Addr} {len : Nat} {xs : List Nat} (h : Reads k w a len xs) (hb : Below w.heap.size w w') : Reads k w' a len xs := by
  refine ⟨h.1, ?_⟩
  rcases h.2 with h | ⟨b, off, ha, hlt, hc⟩
  · exact .inl h
  · exact .inr ⟨b, off, ha, Nat.lt_of_lt_of_le hlt hb.size, fun i hi => by rw [hb.cell (p := ⟨b, off + i, none⟩) hlt]; exact hc i hi⟩
theorem Reads.drewN {k : IntKind} {w : World} {a : Option Addr} {len : Nat} {xs : List Nat} (h : Reads k w a len xs) (n : Nat) : Reads k (w.drewN n) a len xs :=
  h.below (below_drewN (Below.refl _ _) n)
theorem Reads.nil {k : IntKind} {w : World} {a : Option Addr} : Reads k w a 0 [] := ⟨rfl, .inl rfl⟩

/-- what the call itself made reads so -/
theorem Reads.own {k : IntKind} {w : World} {base e n : Nat} {a : Option Addr} {cap : Nat} {xs : List Nat} (h : w.ownsRow base e 1 (.slice a n cap) n (xs.map fun x : Nat => Value.int k (x : Int))) :
    Reads k w a n xs := by
  obtain ⟨hl, hr⟩ := h
  simp at hl
  refine ⟨hl, ?_⟩
  rcases hr with ⟨hv, h0⟩ | ⟨g, cap', cur, hv, _, hg, _, _, _, htake⟩
  · exact .inl h0
  · cases hv
    refine .inr ⟨g, 0, rfl, (Array.getElem?_eq_some_iff.1 hg).1, fun i hi => ?_⟩
    rw [Nat.zero_add, cell_of_row w g i cur e (0, 0) hg]
    have h2 : (cur.toList.take (n * 1))[i]? = ((xs.map fun x : Nat => Value.int k (x : Int)))[i]? := by rw [htake]
    rw [List.getElem?_take, if_pos (by omega), List.getElem?_map] at h2
    rw [Array.getElem?_toList] at h2
    rw [h2, List.getD_eq_getElem?_getD, List.getElem?_eq_getElem (by omega)]
    simp

/-- a list of n numbers whose first k are filled by f, the others 0 -/
def upTo (f : Nat → Nat) (k n : Nat) : List Nat := (List.range n).map fun i => if i < k then f i else 0
theorem upTo_zero (f : Nat → Nat) (n : Nat) : upTo f 0 n = List.replicate n 0 := by
  apply List.ext_getElem?
  intro j
  unfold upTo
  by_cases hj : j < n <;> simp [hj]
theorem upTo_all (f : Nat → Nat) (n : Nat) : upTo f n n = (List.range n).map f := by
  unfold upTo
  apply List.map_congr_left
  intro i hi
  rw [if_pos (List.mem_range.1 hi)]
theorem upTo_set (f : Nat → Nat) (k n : Nat) (hk : k < n) : (upTo f k n).set k (f k) = upTo f (k + 1) n := by
  apply List.ext_getElem?
  intro j
  unfold upTo
  rw [List.getElem?_set]
  by_cases hj : j < n
  · by_cases h : k = j
    · subst h; simp [hj]
    · rw [if_neg h, List.getElem?_map, List.getElem?_map, List.getElem?_range hj]
      have e : j < k + 1 ↔ j < k := by omega
      simp [e]
  · rw [if_neg (by omega)]; simp [hj]
end Go.Proofs.Ytccaibdklgkgeaa
