/- A box in the memory: what its blocks hold, and what putting and taking makes of them. No condition. -/
import Derived.Test.YtmekglkiiannfaaVals
import Derived.Conc.LoneSelect
import Derived.Conc.LoneSelectN
namespace Go.Proofs.Ytmekglkiiannfaa.box
open Go.RowKit Go.Conc
set_option linter.unusedVariables false

/-- pointers to the blocks ps -/
def ptrs (ps : List Nat) : List Value := ps.map fun p => .pointer (some ⟨p, 0, none⟩)
/-- a box of type bt at block b, its channel at block c: capacity cap; it holds vs, of type et -/
def BoxAt (bt et : TypeId) (b c cap : Nat) (vs : List Value) (w : World) : Prop :=
  Block w b bt [.chan (some c)] ∧ ∃ (ps : List Nat) (s r : Nat), w.heap[c]? = some (.chan cap (ptrs ps).toArray false s r false) ∧ ps.length = vs.length ∧ ∀ (i p : Nat) (v : Value), ps[i]? = some p → vs[i]? = some v → Block w p et [v]
section
variable {bt et : TypeId} {b c cap : Nat} {vs : List Value} {w w' : World}
theorem BoxAt.lt (h : BoxAt bt et b c cap vs w) : b < w.heap.size ∧ c < w.heap.size := by
  obtain ⟨hb, ps, s, r, hc, _⟩ := h
  exact ⟨hb.lt, (Array.getElem?_eq_some_iff.1 hc).1⟩
theorem BoxAt.later (h : BoxAt bt et b c cap vs w) (hw : Below w.heap.size w w') : BoxAt bt et b c cap vs w' := by
  obtain ⟨hb, ps, s, r, hc, hl, hp⟩ := h
  exact ⟨hb.later hw, ps, s, r, (hw.block c (Array.getElem?_eq_some_iff.1 hc).1).trans hc, hl, fun i p v h1 h2 => (hp i p v h1 h2).later hw⟩
theorem BoxAt.drewN (h : BoxAt bt et b c cap vs w) (n : Nat) : BoxAt bt et b c cap vs (w.drewN n) := h
/-- the same, with all its blocks below hi -/
def BoxIn (hi : Nat) (bt et : TypeId) (b c cap : Nat) (vs : List Value) (w : World) : Prop :=
  Block w b bt [.chan (some c)] ∧ b < hi ∧ c < hi ∧ ∃ (ps : List Nat) (s r : Nat), w.heap[c]? = some (.chan cap (ptrs ps).toArray false s r false) ∧ ps.length = vs.length ∧ (∀ (i p : Nat) (v : Value), ps[i]? = some p → vs[i]? = some v → Block w p et [v]) ∧ ∀ p ∈ ps, p < hi
theorem BoxIn.at {hi : Nat} (h : BoxIn hi bt et b c cap vs w) : BoxAt bt et b c cap vs w := by
  obtain ⟨hb, _, _, ps, s, r, hc, hl, hp, _⟩ := h
  exact ⟨hb, ps, s, r, hc, hl, hp⟩
theorem BoxAt.in (h : BoxAt bt et b c cap vs w) : BoxIn w.heap.size bt et b c cap vs w := by
  have hlt := h.lt
  obtain ⟨hb, ps, s, r, hc, hl, hp⟩ := h
  refine ⟨hb, hlt.1, hlt.2, ps, s, r, hc, hl, hp, fun p hm => ?_⟩
  obtain ⟨i, hi, rfl⟩ := List.getElem_of_mem hm
  exact (hp i _ (vs[i]'(by omega)) (List.getElem?_eq_getElem hi) (List.getElem?_eq_getElem (by omega))).lt
theorem BoxIn.same {hi : Nat} (h : BoxIn hi bt et b c cap vs w) (hw : ∀ k, k < hi → w'.heap[k]? = w.heap[k]?) : BoxIn hi bt et b c cap vs w' := by
  obtain ⟨hb, h1, h2, ps, s, r, hc, hl, hp, hq⟩ := h
  exact ⟨(hw b h1).trans hb, h1, h2, ps, s, r, (hw c h2).trans hc, hl, fun i p v hi hv => (hw p (hq p (List.mem_of_getElem? hi))).trans (hp i p v hi hv), hq⟩
/-- what turns another block leaves the box alone -/
theorem BoxAt.but {g : Nat} (h : BoxAt bt et b c cap vs w) (hw : But w.heap.size g w w') (h1 : ∀ cs, ¬ Block w g bt cs) (h2 : ∀ cs, ¬ Block w g et cs) (h3 : c ≠ g) : BoxAt bt et b c cap vs w' := by
  obtain ⟨hb, ps, s, r, hc, hl, hp⟩ := h
  refine ⟨hb.but hw hb.lt (by rintro rfl; exact h1 _ hb), ps, s, r, (hw.2.2.2.2 c (Array.getElem?_eq_some_iff.1 hc).1 h3).trans hc, hl, fun i p v hi hv => ?_⟩
  have := hp i p v hi hv
  exact this.but hw this.lt (by rintro rfl; exact h2 _ this)
/-- the channel's block is no row -/
theorem BoxAt.noRow (h : BoxAt bt et b c cap vs w) (t : TypeId) (cs : List Value) : ¬ Block w c t cs := by
  obtain ⟨_, ps, s, r, hc, _⟩ := h
  intro hb
  unfold Block at hb
  rw [hc] at hb
  cases hb
theorem Block.other {g : Nat} {t t' : TypeId} {cs : List Value} (h : Block w g t cs) (ht : t ≠ t') (cs' : List Value) : ¬ Block w g t' cs' := by
  intro h'
  unfold Block at h h'
  rw [h] at h'
  cases h'
  exact ht rfl
theorem but_chan {B : Nat} (w : World) (c cap : Nat) (buf : Array Value) (cl : Bool) (s r : Nat) (tm : Bool) : But B c w (w.setChan c cap buf cl s r tm) :=
  ⟨rfl, rfl, rfl, by simp [World.setChan], fun k hk hg => by simp only [World.setChan]; rw [Array.getElem?_setIfInBounds_ne (by omega)]⟩
/-- behind a send -/
theorem BoxAt.pushed {ps : List Nat} {s r : Nat} (v : Value) (hb : Block w b bt [.chan (some c)]) (hc : w.heap[c]? = some (.chan cap (ptrs ps).toArray false s r false)) (hl : ps.length = vs.length) (hp : ∀ (i p : Nat) (v : Value), ps[i]? = some p → vs[i]? = some v → Block w p et [v]) :
    BoxAt bt et b c cap (vs ++ [v]) ((w.alloc (.cells #[v] et)).setChan c cap ((ptrs ps).toArray.push (.pointer (some ⟨w.heap.size, 0, none⟩))) false (s + 1) r false) ∧
    But w.heap.size c w ((w.alloc (.cells #[v] et)).setChan c cap ((ptrs ps).toArray.push (.pointer (some ⟨w.heap.size, 0, none⟩))) false (s + 1) r false) := by
  have hlt := (Array.getElem?_eq_some_iff.1 hc).1
  have h1 : But (w.heap.size + 1) c (w.alloc (.cells #[v] et)) ((w.alloc (.cells #[v] et)).setChan c cap ((ptrs ps).toArray.push (.pointer (some ⟨w.heap.size, 0, none⟩))) false (s + 1) r false) := but_chan _ _ _ _ _ _ _ _
  have hnew : Block (w.alloc (.cells #[v] et)) w.heap.size et [v] := Block.new w et [v]
  have hbc : b ≠ c := by rintro rfl; unfold Block at hb; rw [hc] at hb; cases hb
  refine ⟨⟨(hb.alloc _).but h1 (by have := hb.lt; omega) hbc, ps ++ [w.heap.size], s + 1, r, ?_, by simp [hl], fun i p u hi hu => ?_⟩, (Below.but ((Below.refl w.heap.size w).alloc (Nat.le_refl _) _)).trans (h1.mono (by omega))⟩
  · rw [heap_setChan _ _ _ _ _ _ _ _ (by simp; omega)]
    simp [ptrs]
  · by_cases hi' : i < ps.length
    · rw [List.getElem?_append_left hi'] at hi
      rw [List.getElem?_append_left (by omega)] at hu
      have hB := hp i p u hi hu
      exact (hB.alloc _).but h1 (by have := hB.lt; omega) (by rintro rfl; unfold Block at hB; rw [hc] at hB; cases hB)
    · have hi2 := (List.getElem?_eq_some_iff.1 hi).1
      have : i = ps.length := by simp at hi2; omega
      subst this
      rw [List.getElem?_append_right (by omega)] at hi
      rw [List.getElem?_append_right (by omega)] at hu
      simp at hi
      simp [hl] at hu
      subst hi; subst hu
      exact hnew.but h1 (by omega) (by omega)
/-- behind a receive -/
theorem BoxAt.popped {p : Nat} {ps : List Nat} {s r : Nat} {v : Value} (hb : Block w b bt [.chan (some c)]) (hc : w.heap[c]? = some (.chan cap (ptrs (p :: ps)).toArray false s r false)) (hl : (p :: ps).length = (v :: vs).length)
    (hp : ∀ (i q : Nat) (u : Value), (p :: ps)[i]? = some q → (v :: vs)[i]? = some u → Block w q et [u]) :
    BoxAt bt et b c cap vs (w.setChan c cap (ptrs ps).toArray false s (r + 1) false) ∧ Block (w.setChan c cap (ptrs ps).toArray false s (r + 1) false) p et [v] ∧ But w.heap.size c w (w.setChan c cap (ptrs ps).toArray false s (r + 1) false) := by
  have hlt := (Array.getElem?_eq_some_iff.1 hc).1
  have h1 : But w.heap.size c w (w.setChan c cap (ptrs ps).toArray false s (r + 1) false) := but_chan _ _ _ _ _ _ _ _
  have hno : ∀ q t cs, Block w q t cs → q ≠ c := by rintro q t cs h rfl; unfold Block at h; rw [hc] at h; cases h
  refine ⟨⟨hb.but h1 hb.lt (hno _ _ _ hb), ps, s, r + 1, heap_setChan _ _ _ _ _ _ _ _ hlt, by simpa using hl, fun i q u hi hu => ?_⟩, ?_, h1⟩
  · have hB := hp (i + 1) q u (by simpa using hi) (by simpa using hu)
    exact hB.but h1 hB.lt (hno _ _ _ hB)
  · have hB := hp 0 p v rfl rfl
    exact hB.but h1 hB.lt (hno _ _ _ hB)
end
/-- the capacity that a box gets -/
def roomOf (n : Int) : Nat := (min (max n 0) 64).toNat
theorem below_but {B c : Nat} {w wr w' : World} (h : But B c w wr) (k : Below B wr w') : But B c w w' := h.trans (Below.but k)
/-- what a take of the box leaves of a row above -/
theorem row_but {base e n c : Nat} {v : Value} {xs : List Value} {w w' : World} (h : w.ownsRow base e 1 v n xs) (hb : But w.heap.size c w w') (hc : c < base) : w'.ownsRow base e 1 v n xs :=
  ownsRow_same h fun g hg => hb.2.2.2.2 g (World.ownsRow.lt h g hg).2 (by have := (World.ownsRow.lt h g hg).1; omega)
end Go.Proofs.Ytmekglkiiannfaa.box
