/- A pen and a row beside it; how long what is written can be. No condition. -/
import Derived.Test.YtbgbboldelpjbaaPenAwake
import Derived.Test.YtbgbboldelpjbaaPenOpen
namespace Go.Proofs.Ytbgbboldelpjbaa.pen
open Go.RowKit Go.Proofs.Ytbgbboldelpjbaa.texts
set_option linter.unusedVariables false

theorem enc_len (p : Piece) (hp : Fit p) : (enc p).length ≤ 10 + p.2.2.length := by
  have h1 := hp.n1
  have h2 := hp.n2
  unfold enc
  split
  · simp; omega
  · split
    · split
      · simp
      · have := vb_ten p.2.1.toNat (by omega); omega
    · split
      · have := vb_ten _ (zig_lt p.2.1 h1 h2); omega
      · split
        · simp [wb]; omega
        · have := vb_ten p.2.2.length (by have := hp.s; omega)
          rw [List.length_append, nums_len]; omega
theorem encs_cons (p : Piece) (l : List Piece) : encs (p :: l) = enc p ++ encs l := by simp [encs]
theorem encs_nil : encs [] = [] := rfl
theorem encs_append (l r : List Piece) : encs (l ++ r) = encs l ++ encs r := by simp [encs]
theorem actsBulk_cons (p : Piece) (l : List Piece) : actsBulk (p :: l) = p.2.2.length + 4 + actsBulk l := by simp [actsBulk]
theorem encs_len : ∀ l : List Piece, (∀ p ∈ l, Fit p) → (encs l).length ≤ 3 * actsBulk l
  | [], _ => by simp [encs]
  | p :: l, h => by
    have h1 := enc_len p (h p (by simp))
    have h2 := encs_len l (fun q hq => h q (by simp [hq]))
    rw [encs_cons, actsBulk_cons, List.length_append]; omega
theorem actsBulk_mem {p : Piece} : ∀ {l : List Piece}, p ∈ l → p.2.2.length + 4 ≤ actsBulk l
  | q :: l, h => by
    rw [actsBulk_cons]
    rcases List.mem_cons.1 h with rfl | h
    · omega
    · have := actsBulk_mem h; omega
theorem encs_take (l : List Piece) (k : Nat) : (encs (l.take k)).length ≤ (encs l).length := by
  conv => rhs; rw [← List.take_append_drop k l, encs_append, List.length_append]
  omega
theorem take_step {l : List Piece} {k : Nat} {p : Piece} (h : l[k]? = some p) : l.take (k + 1) = l.take k ++ [p] := by rw [List.take_add_one, h]; rfl
theorem encs_step {l : List Piece} {k : Nat} {p : Piece} (h : l[k]? = some p) : encs (l.take (k + 1)) = encs (l.take k) ++ enc p := by
  rw [take_step h, encs_append, encs_cons, encs_nil, List.append_nil]
def illAny (l : List Piece) : Bool := l.any ill
theorem illAny_step {l : List Piece} {k : Nat} {p : Piece} (h : l[k]? = some p) : illAny (l.take (k + 1)) = (illAny (l.take k) || ill p) := by
  rw [take_step h]; simp [illAny]
/-- the pen's error behind pieces -/
def errAll (l : List Piece) : Int := if illAny l then 2 else 0
theorem errAll_step {l : List Piece} {k : Nat} {p : Piece} (h : l[k]? = some p) : errAll (l.take (k + 1)) = errOf p (errAll (l.take k)) := by
  unfold errAll errOf
  rw [illAny_step h]
  cases ill p <;> cases illAny (l.take k) <;> rfl

/-- a pen at b that holds xs, and beside it a row that holds ys -/
def Both (w : World) (b : Nat) (vP vW : Value) (xs ys : List Nat) (bad : Int) (w' : World) : Prop :=
  PenAt w.heap.size b vP xs bad w' ∧ w'.ownsRow w.heap.size 5 1 vW ys.length (u8v ys) ∧ (∀ g, vW.ownBlock = some g → g ≠ b ∧ vP.ownBlock ≠ some g) ∧ w.heap.size ≤ b ∧ Below w.heap.size w w'
theorem Both.penned {w w1 w2 : World} {b : Nat} {vP vW : Value} {xs ys zs : List Nat} {bad z : Int} {e : Ending} (h : Both w b vP vW xs ys bad w1) (k : Penned w.heap.size b vP xs zs z w1 e w2) :
    e = .returned (.tuple #[]) ∧ ∃ vP', Both w b vP' vW (xs ++ zs) ys z w2 := by
  obtain ⟨h1, h2, h3, h4, h5⟩ := h
  obtain ⟨k1, v', k2, k3⟩ := k
  have hlt := World.ownsRow.lt h2
  refine ⟨k1, v', k2, ownsRow_heap h2 (fun g hg => k3.block g (hlt g hg).2 (h3 g hg).1 (fun e => (h3 g hg).2 e.symm)), fun g hg => ⟨(h3 g hg).1, ?_⟩, h4, turns_below h1 h5 h5.size h4 k3⟩
  rcases k3.moved with e | ⟨j, e, hj⟩
  · rw [e]; exact (h3 g hg).2
  · rw [e]; intro he; cases he; have := (hlt g hg).2; omega
theorem Both.later {w w1 w2 : World} {b : Nat} {vP vW : Value} {xs ys : List Nat} {bad : Int} (h : Both w b vP vW xs ys bad w1) (hb : Below w1.heap.size w1 w2) : Both w b vP vW xs ys bad w2 := by
  obtain ⟨h1, h2, h3, h4, h5⟩ := h
  exact ⟨h1.later hb, ownsRow_heap h2 (fun g hg => hb.block g (World.ownsRow.lt h2 g hg).2), h3, h4, h5.trans (hb.mono h5.size)⟩
theorem Both.grown {w w1 w2 : World} {b : Nat} {vP vW vW' : Value} {xs ys zs : List Nat} {bad : Int} (h : Both w b vP vW xs ys bad w1) (hg : w1.grownBy w2 vW.ownBlock) (ha : vW'.ownBlock = vW.ownBlock ∨ vW'.ownBlock = some w1.heap.size)
    (ho : w2.ownsRow w.heap.size 5 1 vW' zs.length (u8v zs)) : Both w b vP vW' xs zs bad w2 := by
  obtain ⟨h1, h2, h3, h4, h5⟩ := h
  have hP := h1.lo
  refine ⟨⟨(hg.block b h1.1.lt (fun e => (h3 b e.symm).1 rfl)).trans h1.1, h1.2.1, ownsRow_heap h1.2.2 (fun g hg' => hg.block g (hP g hg').2 (fun e => (h3 g e.symm).2 hg'))⟩, ho, fun g hg' => ?_, h4, h5.grown hg h5.size (fun j hj => (World.ownsRow.lt h2 j hj).1)⟩
  rcases ha with e | e
  · rw [e] at hg'; exact h3 g hg'
  · rw [e] at hg'; cases hg'
    exact ⟨fun e2 => by have := h1.1.lt; omega, fun e2 => by have := (hP _ e2).2; omega⟩
end Go.Proofs.Ytbgbboldelpjbaa.pen
