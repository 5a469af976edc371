/- Rows of numbers in a block of their own, and worlds in which only given blocks have turned. No condition. -/
import Derived.Test.YtdpddcmbilipfaaVals
namespace Go.Proofs.Ytdpddcmbilipfaa
open Go.RowKit
set_option linter.unusedVariables false

/-- but for the blocks of S, what there was stands -/
structure Only (S : Nat → Prop) (w w' : World) : Prop where
  os : w'.os = w.os
  tape : w'.tape = w.tape
  output : w'.output = w.output
  size : w.heap.size ≤ w'.heap.size
  block : ∀ k, k < w.heap.size → ¬ S k → w'.heap[k]? = w.heap[k]?
section
variable {S T : Nat → Prop} {a b c w w' : World}
theorem Only.refl (S : Nat → Prop) (w : World) : Only S w w := ⟨rfl, rfl, rfl, Nat.le_refl _, fun _ _ _ => rfl⟩
/-- what the second turns is of S, or was not there at first -/
theorem Only.next (h : Only S a b) (k : Only T b c) (hT : ∀ x, T x → x < a.heap.size → S x) : Only S a c :=
  ⟨k.os.trans h.os, k.tape.trans h.tape, k.output.trans h.output, Nat.le_trans h.size k.size, fun x hx hn => (k.block x (Nat.lt_of_lt_of_le hx h.size) (fun ht => hn (hT x ht hx))).trans (h.block x hx hn)⟩
theorem Only.trans (h : Only S a b) (k : Only S b c) : Only S a c := h.next k fun _ h _ => h
theorem Only.mono (h : Only S a b) (hS : ∀ x, S x → x < a.heap.size → T x) : Only T a b := (Only.refl T a).next h hS
theorem Only.later (h : Only S a b) (k : Below b.heap.size b c) : Only S a c := ⟨k.os.trans h.os, k.tape.trans h.tape, k.output.trans h.output, Nat.le_trans h.size k.size, fun x hx hn => (k.block x (Nat.lt_of_lt_of_le hx h.size)).trans (h.block x hx hn)⟩
theorem Only.of (k : Below a.heap.size a b) : Only S a b := (Only.refl S a).later k
theorem Only.drewN (h : Only S a b) (n : Nat) : Only S a (b.drewN n) := ⟨h.os, h.tape, h.output, h.size, h.block⟩
theorem Only.setCell (h : Only S a b) {g : Nat} (hg : S g ∨ a.heap.size ≤ g) (o : Nat) (v : Value) : Only S a (b.setCell ⟨g, o, none⟩ v) := by
  refine h.next (T := fun x => x = g) ⟨rfl, rfl, rfl, by simp, fun k _ hk => Below.heap_setCell b ⟨g, o, none⟩ v k hk⟩ ?_
  rintro x rfl hx
  rcases hg with h | h
  · exact h
  · omega
theorem Only.alloc (h : Only S a b) (ob : Obj) : Only S a (b.alloc ob) := h.later ((Below.refl _ b).alloc (Nat.le_refl _) ob)
theorem Only.below (h : Only S a b) {B : Nat} (hB : B ≤ a.heap.size) (hS : ∀ x, S x → B ≤ x) : Below B a b :=
  ⟨h.os, h.tape, h.output, h.size, fun k hk => h.block k (by omega) (fun hs => by have := hS k hs; omega)⟩
theorem _root_.Go.Proofs.Ytdpddcmbilipfaa.Block.only {g : Nat} {t : TypeId} {cs : List Value} (h : Block a g t cs) (k : Only S a b) (hg : ¬ S g) : Block b g t cs := (k.block g h.lt hg).trans h
end

/-- block g is a row of numbers of kind k, with room for cap: xs, and what stands behind -/
def Row (w : World) (t : TypeId) (k : IntKind) (g cap : Nat) (xs : List Nat) : Prop :=
  ∃ pad, Block w g t (xs.map (fun x : Nat => Value.int k (x : Int)) ++ pad) ∧ xs.length ≤ cap ∧ cap ≤ maxLen
section
variable {w w' : World} {t : TypeId} {k : IntKind} {g cap : Nat} {xs : List Nat}
theorem Row.lt (h : Row w t k g cap xs) : g < w.heap.size := by obtain ⟨pad, h, _⟩ := h; exact h.lt
theorem Row.heap (h : Row w t k g cap xs) (hh : w'.heap[g]? = w.heap[g]?) : Row w' t k g cap xs := by
  obtain ⟨pad, h1, h2⟩ := h
  exact ⟨pad, hh.trans h1, h2⟩
theorem Row.later (h : Row w t k g cap xs) (hb : Below w.heap.size w w') : Row w' t k g cap xs := h.heap (hb.block g h.lt)
theorem Row.only {S : Nat → Prop} (h : Row w t k g cap xs) (hb : Only S w w') (hg : ¬ S g) : Row w' t k g cap xs := h.heap (hb.block g h.lt hg)
theorem Row.apart (h : Row w t k g cap xs) (b o : Nat) (v : Value) (hg : g ≠ b) : Row (w.setCell ⟨b, o, none⟩ v) t k g cap xs := h.heap (Below.heap_setCell w ⟨b, o, none⟩ v g hg)
theorem Row.get (h : Row w t k g cap xs) {i : Nat} (hi : i < xs.length) : w.cell? ⟨g, i, none⟩ = some (.int k ((xs.getD i 0 : Nat) : Int)) := by
  obtain ⟨pad, h, _⟩ := h
  rw [h.cell, List.getElem?_append_left (by simpa using hi), List.getElem?_map, List.getD_eq_getElem?_getD, List.getElem?_eq_getElem hi]
  rfl
theorem Row.frozen (h : Row w t k g cap xs) (i : Nat) : w.frozen? ⟨g, i, none⟩ = false := by obtain ⟨pad, h, _⟩ := h; exact h.frozen i
theorem Row.set (h : Row w t k g cap xs) {i : Nat} (hi : i < xs.length) (v : Nat) : Row (w.setCell ⟨g, i, none⟩ (.int k (v : Int))) t k g cap (xs.set i v) := by
  obtain ⟨pad, h, h2⟩ := h
  refine ⟨pad, ?_, by simpa using h2⟩
  have := h.setCell i (.int k (v : Int))
  rwa [List.set_append, if_pos (by simpa using hi), ← List.map_set] at this
theorem Row.reads (h : Row w t k g cap xs) : Reads k w (some ⟨g, 0, none⟩) xs.length xs :=
  ⟨rfl, .inr ⟨g, 0, rfl, h.lt, fun i hi => by rw [Nat.zero_add]; exact h.get hi⟩⟩
/-- what the call itself made is such a row -/
theorem Row.own {base e n : Nat} {v : Value} {k : IntKind} (h : w.ownsRow base e 1 v n (xs.map fun x : Nat => Value.int k (x : Int))) (hn : 0 < n) :
    ∃ g cap, v = .slice (some ⟨g, 0, none⟩) n cap ∧ base ≤ g ∧ Row w e k g cap xs := by
  obtain ⟨hl, hr⟩ := h
  simp at hl
  rcases hr with ⟨hv, h0⟩ | ⟨g, cap, cur, hv, hb, hg, h1, h2, h3, h4⟩
  · omega
  · refine ⟨g, cap, hv, hb, cur.toList.drop (n * 1), ?_, by omega, h2⟩
    rw [← h4, List.take_append_drop]
    simpa [Block] using hg
end
theorem reads_only {S : Nat → Prop} {k : IntKind} {w w' : World} {a : Option Addr} {len : Nat} {xs : List Nat} (h : Reads k w a len xs) (hb : Only S w w') (ha : len = 0 ∨ ∃ x, a = some x ∧ ¬ S x.block) : Reads k w' a len xs := by
  refine ⟨h.1, ?_⟩
  rcases h.2 with h0 | ⟨b, off, rfl, hlt, hc⟩
  · exact .inl h0
  · rcases ha with h0 | ⟨x, hx, hS⟩
    · exact .inl h0
    · cases hx
      refine .inr ⟨b, off, rfl, Nat.lt_of_lt_of_le hlt hb.size, fun i hi => ?_⟩
      rw [World.cell?_of_block (w := w) (hb.block b hlt hS)]; exact hc i hi
end Go.Proofs.Ytdpddcmbilipfaa
