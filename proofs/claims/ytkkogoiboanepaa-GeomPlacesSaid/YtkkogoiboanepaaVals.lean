/- A slice that holds given values. No condition. -/
import Derived.Test.YtkkogoiboanepaaAppend
namespace Go.Proofs.Ytkkogoiboanepaa
open Go.RowKit
set_option linter.unusedVariables false

/-- the slice at address a, of length len, holds the values vs -/
def Vals (w : World) (a : Option Addr) (len : Nat) (vs : List Value) : Prop :=
  vs.length = len ∧ (len = 0 ∨ ∃ b off, a = some ⟨b, off, none⟩ ∧ b < w.heap.size ∧ ∀ i v, vs[i]? = some v → w.cell? ⟨b, off + i, none⟩ = some v)
theorem Vals.nil {w : World} {a : Option Addr} : Vals w a 0 [] := ⟨rfl, .inl rfl⟩
theorem Vals.at {w : World} {a : Option Addr} {len : Nat} {vs : List Value} (h : Vals w a len vs) {i : Nat} (hi : i < len) :
    ∃ b off, a = some ⟨b, off, none⟩ ∧ b < w.heap.size ∧ ∀ i v, vs[i]? = some v → w.cell? ⟨b, off + i, none⟩ = some v := by
  rcases h.2 with h | h
  · omega
  · exact h
theorem Vals.below {w w' : World} {a : Option Addr} {len : Nat} {vs : List Value} (h : Vals w a len vs) (hb : Below w.heap.size w w') : Vals w' a len vs := by
  refine ⟨h.1, ?_⟩
  rcases h.2 with h | ⟨b, off, ha, hlt, hc⟩
  · exact .inl h
  · exact .inr ⟨b, off, ha, Nat.lt_of_lt_of_le hlt hb.size, fun i v hv => by rw [hb.cell (p := ⟨b, off + i, none⟩) hlt]; exact hc i v hv⟩
theorem Vals.drewN {w : World} {a : Option Addr} {len : Nat} {vs : List Value} (h : Vals w a len vs) (n : Nat) : Vals (w.drewN n) a len vs := h.below (below_drewN (Below.refl _ _) n)
theorem Vals.own {w : World} {base e n : Nat} {a : Option Addr} {cap : Nat} {vs : List Value} (h : w.ownsRow base e 1 (.slice a n cap) n vs) : Vals w a n vs := by
  obtain ⟨hl, hr⟩ := h
  simp at hl
  refine ⟨hl, ?_⟩
  rcases hr with ⟨hv, h0⟩ | ⟨g, cap', cur, hv, _, hg, _, _, _, htake⟩
  · exact .inl h0
  · cases hv
    refine .inr ⟨g, 0, rfl, (Array.getElem?_eq_some_iff.1 hg).1, fun i v hv => ?_⟩
    have hi : i < n := by have := (List.getElem?_eq_some_iff.1 hv).1; omega
    rw [Nat.zero_add, cell_of_row w g i cur e (0, 0) hg]
    have h2 : (cur.toList.take (n * 1))[i]? = vs[i]? := by rw [htake]
    rw [List.getElem?_take, if_pos (by omega), Array.getElem?_toList] at h2
    rw [h2, hv]
theorem Vals.but {w w' : World} {a : Option Addr} {len g : Nat} {vs : List Value} (h : Vals w a len vs) (hb : But w.heap.size g w w') (ha : ∀ x, a = some x → x.block ≠ g) : Vals w' a len vs := by
  refine ⟨h.1, ?_⟩
  rcases h.2 with h | ⟨b, off, rfl, hlt, hc⟩
  · exact .inl h
  · refine .inr ⟨b, off, rfl, Nat.lt_of_lt_of_le hlt hb.2.2.2.1, fun i v hv => ?_⟩
    rw [← hc i v hv]
    show w'.cell? _ = w.cell? _
    unfold World.cell?
    rw [hb.2.2.2.2 b hlt (ha _ rfl)]
/-- where a part of a slice from k on lies -/
def vshift (a : Option Addr) (k cap : Nat) : Option Addr := if cap = k then a else a.map (·.add k)
theorem Vals.drop {w : World} {a : Option Addr} {len cap k : Nat} {vs : List Value} (h : Vals w a len vs) (hk : k ≤ len) (hc : len ≤ cap) : Vals w (vshift a k cap) (len - k) (vs.drop k) := by
  refine ⟨by rw [List.length_drop, h.1], ?_⟩
  by_cases h0 : len - k = 0
  · exact .inl h0
  · obtain ⟨b, off, rfl, hb, hcell⟩ := h.at (i := 0) (by omega)
    refine .inr ⟨b, off + k, ?_, hb, fun i v hv => ?_⟩
    · rw [vshift, if_neg (by omega), Option.map_some, Addr.add_lit]
    · rw [List.getElem?_drop] at hv
      rw [Nat.add_assoc]
      exact hcell (k + i) v hv
theorem vshift_block {a : Option Addr} {k cap b : Nat} (h : ∀ x, a = some x → x.block ≠ b) : ∀ x, vshift a k cap = some x → x.block ≠ b := by
  intro x hx
  unfold vshift at hx
  split at hx
  · exact h x hx
  · cases a with
    | none => cases hx
    | some y =>
      cases hx
      have := h y rfl
      unfold Addr.add
      split <;> exact this
theorem own_apart {w : World} {base e n g : Nat} {a : Option Addr} {cap : Nat} {vs : List Value} (h : w.ownsRow base e 1 (.slice a n cap) n vs) (hg : g < base) : ∀ x, a = some x → x.block ≠ g := by
  intro x hx e
  subst hx
  obtain ⟨_, hr⟩ := h
  rcases hr with ⟨hv, _⟩ | ⟨g', cap', cur, hv, hb, _⟩
  · cases hv
  · cases hv
    simp at e
    omega
theorem ownsRow_same {w w' : World} {base e size n : Nat} {v : Value} {xs : List Value} (h : w.ownsRow base e size v n xs) (hh : ∀ g, v.ownBlock = some g → w'.heap[g]? = w.heap[g]?) : w'.ownsRow base e size v n xs := by
  refine ⟨h.1, ?_⟩
  rcases h.2 with h0 | ⟨g, cap, cur, hv, h1, hg, h2, h3, h4, h5⟩
  · exact .inl h0
  · exact .inr ⟨g, cap, cur, hv, h1, (hh g (by rw [hv]; rfl)).trans hg, h2, h3, h4, h5⟩
end Go.Proofs.Ytkkogoiboanepaa
