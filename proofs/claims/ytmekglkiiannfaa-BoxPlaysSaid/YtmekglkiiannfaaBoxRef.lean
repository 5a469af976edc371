/- The reference's box of ints in the memory, and its contracts: New, Put, Take. No condition. -/
import Derived.Test.YtmekglkiiannfaaBoxAll
import Derived.Handy
namespace Go.Proofs.Ytmekglkiiannfaa.box
open Go.Conc Go.RowKit
set_option linter.unusedVariables false

/-- block g is a row of ints -/
def IntRow (w : World) (g : Nat) : Prop := ∃ cs fr, w.heap[g]? = some (.cells cs 3 fr)
/-- the slice's row is a row of ints -/
def OnRow (w : World) (a : Option Addr) : Prop := ∀ x, a = some x → IntRow w x.block
/-- the reference's box at block g -/
def RefAt (g room : Nat) (xs : List Int) (w : World) : Prop :=
  ∃ a k, Block w g 29 [.slice a xs.length k, .int .i64 (room : Int)] ∧ xs.length ≤ k ∧ Vals w a xs.length (xs.map (Value.int .i64)) ∧ OnRow w a
section
variable {g room : Nat} {xs : List Int} {w w' : World}
theorem RefAt.lt (h : RefAt g room xs w) : g < w.heap.size := by obtain ⟨a, k, hb, _⟩ := h; exact hb.lt
theorem IntRow.lt {b : Nat} (h : IntRow w b) : b < w.heap.size := by obtain ⟨cs, fr, h⟩ := h; exact (Array.getElem?_eq_some_iff.1 h).1
theorem IntRow.ne {b : Nat} {t : TypeId} {cs : List Value} (h : IntRow w b) (hb : Block w g t cs) (ht : t ≠ 3) : b ≠ g := by
  rintro rfl
  obtain ⟨cs', fr, h⟩ := h
  unfold Block at hb
  rw [hb] at h
  cases h
  exact ht rfl
theorem OnRow.but {a : Option Addr} {c : Nat} (h : OnRow w a) (hw : But w.heap.size c w w') (hc : ¬ IntRow w c) : OnRow w' a := by
  intro x hx
  have h1 := h x hx
  obtain ⟨cs, fr, h2⟩ := h1
  exact ⟨cs, fr, (hw.2.2.2.2 _ (Array.getElem?_eq_some_iff.1 h2).1 (by rintro rfl; exact hc ⟨cs, fr, h2⟩)).trans h2⟩
theorem RefAt.but {c : Nat} (h : RefAt g room xs w) (hw : But w.heap.size c w w') (hc : ¬ IntRow w c) (hg : g ≠ c) : RefAt g room xs w' := by
  obtain ⟨a, k, hb, hk, hv, ho⟩ := h
  exact ⟨a, k, hb.but hw hb.lt hg, hk, hv.but hw (fun x hx => by rintro rfl; exact hc (ho x hx)), ho.but hw hc⟩
theorem RefAt.later (h : RefAt g room xs w) (hw : Below w.heap.size w w') : RefAt g room xs w' := by
  obtain ⟨a, k, hb, hk, hv, ho⟩ := h
  exact ⟨a, k, hb.later hw, hk, hv.below hw, fun x hx => by obtain ⟨cs, fr, h2⟩ := ho x hx; exact ⟨cs, fr, (hw.block _ (Array.getElem?_eq_some_iff.1 h2).1).trans h2⟩⟩
theorem RefAt.drewN (h : RefAt g room xs w) (n : Nat) : RefAt g room xs (w.drewN n) := h
theorem noIntRow_chan {bt et : TypeId} {b c cap : Nat} {vs : List Value} (h : BoxAt bt et b c cap vs w) : ¬ IntRow w c := by
  obtain ⟨_, ps, s, r, hc, _⟩ := h
  rintro ⟨cs, fr, h2⟩
  rw [hc] at h2
  cases h2
theorem noIntRow_ref (h : RefAt g room xs w) : ¬ IntRow w g := by
  obtain ⟨a, k, hb, _⟩ := h
  intro h2
  exact h2.ne hb (by decide) rfl
end

theorem refNew_any (n : Int) (w : World) : Calls Try.prog 8 #[.int .i64 n] w fun e w' => e = .returned (.agg #[.slice none 0 0, .int .i64 (roomOf n)]) ∧ Below w.heap.size w w' := by
  by_cases h1 : n < 0
  · rw [show ((roomOf n : Nat) : Int) = 0 by unfold roomOf; omega]
    go_enter Try.func8, Try.ntmps8
    go_wp2
    go_returns
    exact ⟨rfl, ((Below.refl _ w).alloc (Nat.le_refl _) _)⟩
  · by_cases h2 : 64 < n
    · rw [show ((roomOf n : Nat) : Int) = 64 by unfold roomOf; omega]
      go_enter Try.func8, Try.ntmps8
      go_wp2
      go_returns
      exact ⟨rfl, ((Below.refl _ w).alloc (Nat.le_refl _) _)⟩
    · rw [show ((roomOf n : Nat) : Int) = n by unfold roomOf; omega]
      go_enter Try.func8, Try.ntmps8
      go_wp2
      go_returns
      exact ⟨rfl, ((Below.refl _ w).alloc (Nat.le_refl _) _)⟩
end Go.Proofs.Ytmekglkiiannfaa.box
