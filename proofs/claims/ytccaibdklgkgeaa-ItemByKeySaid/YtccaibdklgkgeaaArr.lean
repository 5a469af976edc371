/- A block that is known whole: what its cells are before and behind stores. No condition. -/
import Derived.Test.YtccaibdklgkgeaaKit
import Derived.Deep.MidRow
import Derived.Deep.WholeRow
import Derived.Laws.OwnMore
namespace Go.Proofs.Ytccaibdklgkgeaa
open Go.RowKit
set_option linter.unusedVariables false

/-- block b holds just these cells, and may be written -/
def Block (w : World) (b : Nat) (t : TypeId) (cs : List Value) : Prop := w.heap[b]? = some (.cells cs.toArray t (0, 0))
theorem Block.lt {w : World} {b : Nat} {t : TypeId} {cs : List Value} (h : Block w b t cs) : b < w.heap.size := (Array.getElem?_eq_some_iff.1 h).1
theorem Block.cell {w : World} {b : Nat} {t : TypeId} {cs : List Value} (h : Block w b t cs) (j : Nat) : w.cell? ⟨b, j, none⟩ = cs[j]? := by
  rw [cell_of_row w b j cs.toArray t (0, 0) h]; simp
theorem Block.frozen {w : World} {b : Nat} {t : TypeId} {cs : List Value} (h : Block w b t cs) (j : Nat) : w.frozen? ⟨b, j, none⟩ = false := frozen_of_row w b j cs.toArray t h
theorem Block.range {w : World} {b : Nat} {t : TypeId} {cs : List Value} (h : Block w b t cs) (o : Nat) (vs : List Value) (hv : ∀ j v, vs[j]? = some v → cs[o + j]? = some v) : w.rangeAt b o vs :=
  fun j v hj => by rw [h.cell]; exact hv j v hj
theorem Block.whole {w : World} {b : Nat} {t : TypeId} {cs : List Value} (h : Block w b t cs) : w.rangeAt b 0 cs := h.range 0 cs (fun j v hj => by rw [Nat.zero_add]; exact hj)
theorem Block.there {w : World} {b : Nat} {t : TypeId} {cs : List Value} (h : Block w b t cs) (o n : Nat) (hn : o + n ≤ cs.length) : w.there b o n :=
  fun j hj => ⟨by rw [h.cell, List.getElem?_eq_getElem (by omega)]; rfl, h.frozen _⟩
theorem Block.setCell {w : World} {b : Nat} {t : TypeId} {cs : List Value} (h : Block w b t cs) (j : Nat) (v : Value) : Block (w.setCell ⟨b, j, none⟩ v) b t (cs.set j v) := by
  have := heap_setCell_same w b j cs.toArray t v h
  unfold Block
  rw [this]
  simp
/-- the cells from o on turned -/
def put (cs : List Value) : Nat → List Value → List Value
  | _, [] => cs
  | o, v :: r => put (cs.set o v) (o + 1) r
theorem put_mid (A X C Y : List Value) (h : X.length = Y.length) : put (A ++ X ++ C) A.length Y = A ++ Y ++ C := by
  induction Y generalizing A X with
  | nil => obtain rfl : X = [] := List.eq_nil_of_length_eq_zero (by simpa using h); rfl
  | cons y r ih =>
    cases X with
    | nil => simp at h
    | cons x X =>
      have e : (A ++ x :: X ++ C).set A.length y = (A ++ [y]) ++ X ++ C := by simp
      have := ih (A ++ [y]) X (by simpa using h)
      rw [put, e, show A.length + 1 = (A ++ [y]).length by simp, this]
      simp
theorem put_all (X Y : List Value) (h : X.length = Y.length) : put X 0 Y = Y := by
  have := put_mid [] X [] Y h
  simpa using this
theorem Block.setCells {b : Nat} {t : TypeId} : ∀ {vs : List Value} {o : Nat} {w : World} {cs : List Value}, Block w b t cs → Block (w.setCells b o vs) b t (put cs o vs)
  | [], _, _, _, h => h
  | v :: r, o, w, cs, h => Block.setCells (vs := r) (o := o + 1) (h.setCell o v)
theorem Block.alloc {w : World} {b : Nat} {t : TypeId} {cs : List Value} (h : Block w b t cs) (ob : Obj) : Block (w.alloc ob) b t cs := (Below.heap_alloc w ob b h.lt).trans h
theorem Block.new (w : World) (t : TypeId) (cs : List Value) : Block (w.alloc (.cells cs.toArray t)) w.heap.size t cs := heap_alloc_last w _
theorem Block.drewN {w : World} {b : Nat} {t : TypeId} {cs : List Value} (h : Block w b t cs) (n : Nat) : Block (w.drewN n) b t cs := h
theorem Block.below {w w' : World} {b B : Nat} {t : TypeId} {cs : List Value} (h : Block w b t cs) (hb : Below B w w') (hB : b < B) : Block w' b t cs := (hb.block b hB).trans h
theorem Block.later {w w' : World} {b : Nat} {t : TypeId} {cs : List Value} (h : Block w b t cs) (hb : Below w.heap.size w w') : Block w' b t cs := h.below hb h.lt
theorem Block.apart {w : World} {b : Nat} {t : TypeId} {cs : List Value} (h : Block w b t cs) (g o : Nat) (v : Value) (hg : b ≠ g) : Block (w.setCell ⟨g, o, none⟩ v) b t cs :=
  (Below.heap_setCell w ⟨g, o, none⟩ v b hg).trans h
theorem heap_setCells (g : Nat) : ∀ (vs : List Value) (o : Nat) (w : World) (k : Nat), k ≠ g → (w.setCells g o vs).heap[k]? = w.heap[k]?
  | [], _, _, _, _ => rfl
  | v :: r, o, w, k, h => (heap_setCells g r (o + 1) _ k h).trans (Below.heap_setCell w ⟨g, o, none⟩ v k h)
theorem size_setCells (g : Nat) : ∀ (vs : List Value) (o : Nat) (w : World), (w.setCells g o vs).heap.size = w.heap.size
  | [], _, _ => rfl
  | v :: r, o, w => (size_setCells g r (o + 1) _).trans (by simp)
theorem rest_setCells (g : Nat) : ∀ (vs : List Value) (o : Nat) (w : World), (w.setCells g o vs).os = w.os ∧ (w.setCells g o vs).tape = w.tape ∧ (w.setCells g o vs).output = w.output
  | [], _, _ => ⟨rfl, rfl, rfl⟩
  | v :: r, o, w => rest_setCells g r (o + 1) (w.setCell ⟨g, o, none⟩ v)
theorem Block.aparts {w : World} {b : Nat} {t : TypeId} {cs : List Value} (h : Block w b t cs) (g o : Nat) (vs : List Value) (hg : b ≠ g) : Block (w.setCells g o vs) b t cs :=
  (heap_setCells g vs o w b hg).trans h
theorem below_setCells {B g : Nat} {a w : World} (h : Below B a w) (hg : B ≤ g) (o : Nat) (vs : List Value) : Below B a (w.setCells g o vs) :=
  h.trans ⟨(rest_setCells g vs o w).1, (rest_setCells g vs o w).2.1, (rest_setCells g vs o w).2.2, by rw [size_setCells]; exact Nat.le_refl _, fun k hk => heap_setCells g vs o w k (by omega)⟩

/-- copy into a block -/
theorem wpList_copy_block {P : Program} {w : World} {ops : Array Oper} {rest : List Oper} {o : Oper} {a : Act} {Q : Exit → Act → World → Prop} (hgd : o.guard = none) (d s : Operand) (dT sT : TypeId)
    (ho : o.op = .call { callee := .builtin .copy, args := #[d, s], argTypes := #[dT, sT] }) (elem : TypeId) (hu : P.underlying dT = some (.slice elem)) (hsz : (P.info? elem).map (·.size) = some 1)
    (b off dLen dCap : Nat) (ad : Addr) (sLen sCap : Nat) (hd : a.eval d = .slice (some ⟨b, off, none⟩) dLen dCap) (hs : a.eval s = .slice (some ad) sLen sCap)
    (cs : List Value) (hn : cs.length = Nat.min sLen dLen) (hsrc : ∀ j v, cs[j]? = some v → w.cell? (ad.add j) = some v) (hth : w.there b off cs.length) (h1 : ∀ v ∈ cs, v.oneCell' = true)
    (h : wpList P ops Q rest (a.put o.dst (goInt cs.length)) (w.setCells b off cs)) : wpList P ops Q (o :: rest) a w := by
  refine wpList_plain hgd fun K hK => ?_
  have hrun := run_copy_cells (P := P) w dT sT o.type elem b off dLen dCap ad sLen sCap cs hu hsz hn hsrc (fun j hj => (hth j hj).1) (fun j hj => (hth j hj).2) h1
  unfold Oper.wp
  simp [execOp, ho, resolve, invoke, builtin, hd, hs, hrun, Result.andThen]
  exact hK _ _ h

/-- a store of a whole array; the world behind it gets a name -/
theorem wpList_store_named {P : Program} {w : World} {ops : Array Oper} {rest : List Oper} {op : Oper} {a : Act} {Q : Exit → Act → World → Prop} (hgd : op.guard = none) (ty : TypeId) (x y : Operand) (ho : op.op = .store ty x y)
    (b o : Nat) (cells : Array Value) (hx : a.eval x = .pointer (some ⟨b, o, none⟩)) (hy : a.eval y = .agg cells)
    (ht : w.there b o cells.size) (hi : (P.info? ty).map (·.size) = some cells.size) (h1 : cells.all (·.oneCell') = true)
    (h : ∀ w', Hid (w.setCells b o cells.toList = w') → wpList P ops Q rest (a.put op.dst undef) w') : wpList P ops Q (op :: rest) a w :=
  wpList_store_mid hgd ty x y ho b o cells hx hy ht hi h1 (h _ rfl)

/-- a result that is an array and lives in a variable -/
theorem results_cell {fn : Func} {p : Tmp} {ty : TypeId} {tmps : Array Value} {P : Program} {w : World} {b o : Nat} {cs : List Value} {d : TypeDesc} (h : fn.results = #[.cell p ty])
    (hp : tmps.getD p undef = .pointer (some ⟨b, o, none⟩)) (hc : w.rangeAt b o cs) (hu : P.underlying ty = some d) (hd : d.isRow = true) (hi : (P.info? ty).map (·.size) = some cs.length) :
    (results fn tmps).run P w = .ok (.agg cs.toArray) w := by
  simp only [results, h]
  simp at hp
  simp [hp, asAddr, run_loadVar_mid w b o ty cs d hc hu hd hi]

theorem ownsRow_later {w w' : World} {base e size n : Nat} {v : Value} {xs : List Value} (h : w.ownsRow base e size v n xs) (hb : Below w.heap.size w w') : w'.ownsRow base e size v n xs := by
  refine ⟨h.1, ?_⟩
  rcases h.2 with h0 | ⟨g, cap, cur, hv, h1, hg, h2, h3, h4, h5⟩
  · exact .inl h0
  · exact .inr ⟨g, cap, cur, hv, h1, (hb.block g (Array.getElem?_eq_some_iff.1 hg).1).trans hg, h2, h3, h4, h5⟩
/-- below B only block g may have changed -/
def But (B g : Nat) (w w' : World) : Prop :=
  w'.os = w.os ∧ w'.tape = w.tape ∧ w'.output = w.output ∧ w.heap.size ≤ w'.heap.size ∧ ∀ k, k < B → k ≠ g → w'.heap[k]? = w.heap[k]?
theorem But.refl (B g : Nat) (w : World) : But B g w w := ⟨rfl, rfl, rfl, Nat.le_refl _, fun _ _ _ => rfl⟩
theorem But.trans {B g : Nat} {a b c : World} (h : But B g a b) (k : But B g b c) : But B g a c :=
  ⟨k.1.trans h.1, k.2.1.trans h.2.1, k.2.2.1.trans h.2.2.1, Nat.le_trans h.2.2.2.1 k.2.2.2.1, fun j h1 h2 => (k.2.2.2.2 j h1 h2).trans (h.2.2.2.2 j h1 h2)⟩
theorem Below.but {B g : Nat} {a b : World} (h : Below B a b) : But B g a b := ⟨h.os, h.tape, h.output, h.size, fun k hk _ => h.block k hk⟩
theorem But.below {B B' g : Nat} {a b : World} (h : But B g a b) (hB : B' ≤ B) (hg : B' ≤ g) : Below B' a b := ⟨h.1, h.2.1, h.2.2.1, h.2.2.2.1, fun k hk => h.2.2.2.2 k (by omega) (by omega)⟩
theorem But.mono {B B' g : Nat} {a b : World} (h : But B g a b) (hB : B' ≤ B) : But B' g a b := ⟨h.1, h.2.1, h.2.2.1, h.2.2.2.1, fun k hk hg => h.2.2.2.2 k (by omega) hg⟩
theorem But.setCells {B g : Nat} {a w : World} (h : But B g a w) (o : Nat) (vs : List Value) : But B g a (w.setCells g o vs) :=
  h.trans ⟨(rest_setCells g vs o w).1, (rest_setCells g vs o w).2.1, (rest_setCells g vs o w).2.2, by rw [size_setCells]; exact Nat.le_refl _, fun k _ hg => heap_setCells g vs o w k hg⟩
theorem But.setCell {B g : Nat} {a w : World} (h : But B g a w) (o : Nat) (v : Value) : But B g a (w.setCell ⟨g, o, none⟩ v) := h.setCells o [v]
theorem But.step {B g : Nat} {a w w' : World} (h : But B g a w) (k : Below w.heap.size w w') (hB : B ≤ w.heap.size) : But B g a w' := h.trans (Below.but (k.mono hB))
theorem But.drewN {B g : Nat} {a w : World} (h : But B g a w) (n : Nat) : But B g a (w.drewN n) := h
theorem Block.but {w w' : World} {b B g : Nat} {t : TypeId} {cs : List Value} (h : Block w b t cs) (hb : But B g w w') (hB : b < B) (hg : b ≠ g) : Block w' b t cs := (hb.2.2.2.2 b hB hg).trans h
theorem Reads.but {k : IntKind} {w w' : World} {b off len B g : Nat} {xs : List Nat} (h : Reads k w (some ⟨b, off, none⟩) len xs) (hb : But B g w w') (hB : b < B) (hg : b ≠ g) : Reads k w' (some ⟨b, off, none⟩) len xs := by
  refine ⟨h.1, ?_⟩
  rcases h.2 with h | ⟨b', off', ha, hlt, hc⟩
  · exact .inl h
  · cases ha
    refine .inr ⟨b, off, rfl, Nat.lt_of_lt_of_le hlt hb.2.2.2.1, fun i hi => ?_⟩
    rw [World.cell?_of_block (w := w) (hb.2.2.2.2 b hB hg)]; exact hc i hi
/-- part of a block reads as numbers -/
theorem Block.reads {k : IntKind} {w : World} {b : Nat} {t : TypeId} {cs : List Value} (h : Block w b t cs) (o : Nat) (xs : List Nat) (hx : ∀ i, i < xs.length → cs[o + i]? = some (.int k ((xs.getD i 0 : Nat) : Int))) (n : Nat) (hn : xs.length = n) : Reads k w (some ⟨b, o, none⟩) n xs :=
  ⟨hn, .inr ⟨b, o, rfl, h.lt, fun i hi => by rw [h.cell]; exact hx i (by omega)⟩⟩
end Go.Proofs.Ytccaibdklgkgeaa
