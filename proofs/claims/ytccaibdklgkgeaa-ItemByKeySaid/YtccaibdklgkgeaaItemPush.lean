/- An append of one item onto a row of the call's own. No condition but rows of at most four million items. -/
import Derived.Test.YtccaibdklgkgeaaItemRow
namespace Go.Proofs.Ytccaibdklgkgeaa.item
open Go.RowKit
set_option linter.unusedVariables false

/-- a row of the call's own, as it grows -/
def Row (w0 : World) (L : List It) (v : Value) (w : World) : Prop := w.ownsRow w0.heap.size 37 2 v L.length (itV L) ∧ Below w0.heap.size w0 w
theorem Row.nil (w : World) : Row w [] (.slice none 0 0) w := ⟨World.ownsRow_nil _ _ _ _, Below.refl _ _⟩
theorem Row.later {w0 w w' : World} {L : List It} {v : Value} (h : Row w0 L v w) (hb : Below w.heap.size w w') : Row w0 L v w' :=
  ⟨ownsRow_heap h.1 (fun g hg => hb.block g (World.ownsRow.lt h.1 g hg).2), h.2.trans (hb.mono h.2.size)⟩
theorem Row.form {w0 w : World} {L : List It} {v : Value} (h : Row w0 L v w) : ∃ a c, v = .slice a L.length c ∧ Its w a L ∧ L.length ≤ c ∧ c ≤ maxLen := by
  obtain ⟨a, c, rfl, hc⟩ := ownsRow_slice h.1
  obtain ⟨h1, _, h2, h3⟩ := own_its h.1
  exact ⟨a, c, rfl, h1, h2, h3⟩
theorem Row.of {w0 w1 w2 : World} {L : List It} {v : Value} (h : w2.ownsRow w1.heap.size 37 2 v L.length (itV L)) (hb : Below w1.heap.size w1 w2) (h0 : Below w0.heap.size w0 w1) : Row w0 L v w2 := by
  refine ⟨⟨h.1, ?_⟩, h0.trans (hb.mono h0.size)⟩
  rcases h.2 with h3 | ⟨g, cap, cur, hv, hg, hr⟩
  · exact .inl h3
  · exact .inr ⟨g, cap, cur, hv, Nat.le_trans h0.size hg, hr⟩
theorem Row.lists {w0 w : World} {L : List It} {v : Value} (h : Row w0 L v w) : Lists L w0 (.returned v) w := by
  obtain ⟨a, c, rfl, _⟩ := h.form
  exact ⟨a, c, rfl, h.1, h.2⟩
/-- an append of items onto such a row -/
theorem wpList_append_row {ops : Array Oper} {rest : List Oper} {o : Oper} {a : Act} {Q : Exit → Act → World → Prop} {w0 w : World} (hgd : o.guard = none) (s x : Operand)
    (ho : o.op = .call { callee := .builtin .append, args := #[s, x], argTypes := #[35, 35] })
    (L M : List It) (v : Value) (hs : a.eval s = v) (ap : Option Addr) (c : Nat) (hx : a.eval x = .slice ap M.length c) (h : Hid (Row w0 L v w)) (hM : Hid (Its w ap M)) (hk : Hid (L.length + M.length ≤ 17179869184))
    (hq : ∀ v' w', Hid (Row w0 (L ++ M) v' w') → wpList Try.prog ops Q rest (a.put o.dst v') w') : wpList Try.prog ops Q (o :: rest) a w := by
  have hL := hk.out
  have h1 := h.out
  refine wpList_append_its hgd s x ho w0.heap.size v L.length L hs h1.1 ap M.length c M hx rfl hM.out hL h1.2.size ?_
  intro v' w' h2 h3
  exact hq v' w' (hid ⟨by rw [List.length_append]; exact h2, h1.2.grown h3 h1.2.size (fun k hk => (World.ownsRow.lt h1.1 k hk).1)⟩)
theorem wpList_append_it2 {ops : Array Oper} {rest : List Oper} {o : Oper} {a : Act} {Q : Exit → Act → World → Prop} {w0 wr : World} (hgd : o.guard = none) (s x : Operand)
    (ho : o.op = .call { callee := .builtin .append, args := #[s, x], argTypes := #[35, 35] })
    (L : List It) (p : It) (v : Value) (hs : a.eval s = v) (hx : a.eval x = .slice (some ⟨wr.heap.size, 0, none⟩) 1 1) (h : Hid (Row w0 L v wr)) (hk : Hid (L.length ≤ 8589934592))
    (hq : ∀ v' w', Hid (Row w0 (L ++ [p]) v' w') → Hid (∀ g, v.ownBlock ≠ some g → g < wr.heap.size → w'.heap[g]? = wr.heap[g]?) → wpList Try.prog ops Q rest (a.put o.dst v') w') : wpList Try.prog ops Q (o :: rest) a (wr.alloc (.cells #[.int .u32 (p.key : Nat), .string p.data] 37)) := by
  have hL := hk.out
  obtain ⟨h0, hb⟩ := h.out
  have h1 := h.out.later (newB wr (.cells #[.int .u32 (p.key : Nat), .string p.data] 37))
  refine wpList_append_its hgd s x ho w0.heap.size v L.length L hs h1.1 (some ⟨wr.heap.size, 0, none⟩) 1 1 [p] hx rfl (.inr ⟨wr.heap.size, 0, rfl, by simp, ?_⟩) (by omega) (h1.2.size) ?_
  · intro i q hq
    obtain ⟨rfl, rfl⟩ : i = 0 ∧ p = q := by
      cases i with
      | zero => exact ⟨rfl, by simpa using hq⟩
      | succ i => simp at hq
    have hB := Block.new wr 37 [.int .u32 (p.key : Nat), .string p.data]
    exact ⟨hB.cell 0, hB.cell 1⟩
  · intro v' w' h2 h3
    refine hq v' w' (hid ⟨by rw [List.length_append]; exact h2, ?_⟩) (hid (fun g hg hl => ?_))
    · exact h1.2.grown h3 h1.2.size (fun k hk => (World.ownsRow.lt h1.1 k hk).1)
    · rw [h3.block g (by simp; omega) (fun e => hg e.symm)]; exact Below.heap_alloc wr _ g hl
theorem wpList_append_it {ops : Array Oper} {rest : List Oper} {o : Oper} {a : Act} {Q : Exit → Act → World → Prop} {w0 wr : World} (hgd : o.guard = none) (s x : Operand)
    (ho : o.op = .call { callee := .builtin .append, args := #[s, x], argTypes := #[35, 35] })
    (L : List It) (p : It) (v : Value) (hs : a.eval s = v) (hx : a.eval x = .slice (some ⟨wr.heap.size, 0, none⟩) 1 1) (h : Hid (Row w0 L v wr)) (hk : Hid (L.length ≤ 8589934592))
    (hq : ∀ v' w', Hid (Row w0 (L ++ [p]) v' w') → wpList Try.prog ops Q rest (a.put o.dst v') w') : wpList Try.prog ops Q (o :: rest) a (wr.alloc (.cells #[.int .u32 (p.key : Nat), .string p.data] 37)) :=
  wpList_append_it2 hgd s x ho L p v hs hx h hk (fun v' w' h1 _ => hq v' w' h1)
end Go.Proofs.Ytccaibdklgkgeaa.item
