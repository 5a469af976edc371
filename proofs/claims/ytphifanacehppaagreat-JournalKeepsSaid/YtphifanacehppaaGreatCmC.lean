/- Contracts and lemmas that the claims of this seat share: Arr, Append, Vals, Only, Tail, Clone, FrameRead, AppendAt. Each says its own conditions. -/
import Derived.Test.YtphifanacehppaaGreatCmA
import Derived.Deep.MidRow
import Derived.Deep.WholeRow
import Derived.Laws.OwnMore
import Derived.Deep.Upon
import Derived.StillTail
import Derived.Deep.RegionHeld3
import Derived.Deep.QuietTactic
import Derived.BigQuiet
import Derived.WalkKit
import Derived.Test.YtphifanacehppaaGreatRows
import Derived.Maps.AppendAt
import Derived.Laws.Cover3
import Derived.Test.YtphifanacehppaaGreatCmB
import Derived.Handy
/- A block that is known whole: what its cells are before and behind stores. No condition. -/
namespace Go.Proofs.YtphifanacehppaaGreat
open Go.RowKit
set_option linter.unusedVariables false

/-- block b holds just these cells, and may be written -/
def Block (w : World) (b : Nat) (t : TypeId) (cs : List Value) : Prop := w.heap[b]? = some (.cells cs.toArray t (0, 0))
theorem Block.lt {w : World} {b : Nat} {t : TypeId} {cs : List Value} (h : Block w b t cs) : b < w.heap.size := (Array.getElem?_eq_some_iff.1 h).1
theorem Block.cell {w : World} {b : Nat} {t : TypeId} {cs : List Value} (h : Block w b t cs) (j : Nat) : w.cell? ⟨b, j, none⟩ = cs[j]? := by
  rw [cell_of_row w b j cs.toArray t (0, 0) h]; simp
theorem Block.frozen {w : World} {b : Nat} {t : TypeId} {cs : List Value} (h : Block w b t cs) (j : Nat) : w.frozen? ⟨b, j, none⟩ = false := frozen_of_row w b j cs.toArray t h
theorem Block.range {w : World} {b : Nat} {t : TypeId} {cs : List Value} (h : Block w b t cs) (o : Nat) (vs : List Value) (hv : ∀ j v, vs[j]? = some v → cs[o + j]? = some v) : w.rangeAt b o vs :=
  fun j v hj => by rw [h.cell]; exact hv j v hj
theorem Block.whole {w : World} {b : Nat} {t : TypeId} {cs : List Value} (h : Block w b t cs) : w.rangeAt b 0 cs := h.range 0 cs (fun j v hj => by rw [Nat.zero_add]; exact hj)
theorem Block.there {w : World} {b : Nat} {t : TypeId} {cs : List Value} (h : Block w b t cs) (o n : Nat) (hn : o + n ≤ cs.length) : w.there b o n :=
  fun j hj => ⟨by rw [h.cell, List.getElem?_eq_getElem (by omega)]; rfl, h.frozen _⟩
theorem Block.setCell {w : World} {b : Nat} {t : TypeId} {cs : List Value} (h : Block w b t cs) (j : Nat) (v : Value) : Block (w.setCell ⟨b, j, none⟩ v) b t (cs.set j v) := by
  have := heap_setCell_same w b j cs.toArray t v h
  unfold Block
  rw [this]
  simp
/-- the cells from o on turned -/
def put (cs : List Value) : Nat → List Value → List Value
  | _, [] => cs
  | o, v :: r => put (cs.set o v) (o + 1) r
theorem put_mid (A X C Y : List Value) (h : X.length = Y.length) : put (A ++ X ++ C) A.length Y = A ++ Y ++ C := by
  induction Y generalizing A X with
  | nil => obtain rfl : X = [] := List.eq_nil_of_length_eq_zero (by simpa using h); rfl
  | cons y r ih =>
    cases X with
    | nil => simp at h
    | cons x X =>
      have e : (A ++ x :: X ++ C).set A.length y = (A ++ [y]) ++ X ++ C := by simp
      have := ih (A ++ [y]) X (by simpa using h)
      rw [put, e, show A.length + 1 = (A ++ [y]).length by simp, this]
      simp
theorem put_all (X Y : List Value) (h : X.length = Y.length) : put X 0 Y = Y := by
  have := put_mid [] X [] Y h
  simpa using this
theorem Block.setCells {b : Nat} {t : TypeId} : ∀ {vs : List Value} {o : Nat} {w : World} {cs : List Value}, Block w b t cs → Block (w.setCells b o vs) b t (put cs o vs)
  | [], _, _, _, h => h
  | v :: r, o, w, cs, h => Block.setCells (vs := r) (o := o + 1) (h.setCell o v)
theorem Block.alloc {w : World} {b : Nat} {t : TypeId} {cs : List Value} (h : Block w b t cs) (ob : Obj) : Block (w.alloc ob) b t cs := (Below.heap_alloc w ob b h.lt).trans h
theorem Block.new (w : World) (t : TypeId) (cs : List Value) : Block (w.alloc (.cells cs.toArray t)) w.heap.size t cs := heap_alloc_last w _
theorem Block.drewN {w : World} {b : Nat} {t : TypeId} {cs : List Value} (h : Block w b t cs) (n : Nat) : Block (w.drewN n) b t cs := h
theorem Block.below {w w' : World} {b B : Nat} {t : TypeId} {cs : List Value} (h : Block w b t cs) (hb : Below B w w') (hB : b < B) : Block w' b t cs := (hb.block b hB).trans h
theorem Block.later {w w' : World} {b : Nat} {t : TypeId} {cs : List Value} (h : Block w b t cs) (hb : Below w.heap.size w w') : Block w' b t cs := h.below hb h.lt
theorem Block.apart {w : World} {b : Nat} {t : TypeId} {cs : List Value} (h : Block w b t cs) (g o : Nat) (v : Value) (hg : b ≠ g) : Block (w.setCell ⟨g, o, none⟩ v) b t cs :=
  (Below.heap_setCell w ⟨g, o, none⟩ v b hg).trans h
theorem heap_setCells (g : Nat) : ∀ (vs : List Value) (o : Nat) (w : World) (k : Nat), k ≠ g → (w.setCells g o vs).heap[k]? = w.heap[k]?
  | [], _, _, _, _ => rfl
  | v :: r, o, w, k, h => (heap_setCells g r (o + 1) _ k h).trans (Below.heap_setCell w ⟨g, o, none⟩ v k h)
theorem size_setCells (g : Nat) : ∀ (vs : List Value) (o : Nat) (w : World), (w.setCells g o vs).heap.size = w.heap.size
  | [], _, _ => rfl
  | v :: r, o, w => (size_setCells g r (o + 1) _).trans (by simp)
theorem rest_setCells (g : Nat) : ∀ (vs : List Value) (o : Nat) (w : World), (w.setCells g o vs).os = w.os ∧ (w.setCells g o vs).tape = w.tape ∧ (w.setCells g o vs).output = w.output
  | [], _, _ => ⟨rfl, rfl, rfl⟩
  | v :: r, o, w => rest_setCells g r (o + 1) (w.setCell ⟨g, o, none⟩ v)
theorem Block.aparts {w : World} {b : Nat} {t : TypeId} {cs : List Value} (h : Block w b t cs) (g o : Nat) (vs : List Value) (hg : b ≠ g) : Block (w.setCells g o vs) b t cs :=
  (heap_setCells g vs o w b hg).trans h
theorem below_setCells {B g : Nat} {a w : World} (h : Below B a w) (hg : B ≤ g) (o : Nat) (vs : List Value) : Below B a (w.setCells g o vs) :=
  h.trans ⟨(rest_setCells g vs o w).1, (rest_setCells g vs o w).2.1, (rest_setCells g vs o w).2.2, by rw [size_setCells]; exact Nat.le_refl _, fun k hk => heap_setCells g vs o w k (by omega)⟩

/-- copy into a block -/
theorem wpList_copy_block {P : Program} {w : World} {ops : Array Oper} {rest : List Oper} {o : Oper} {a : Act} {Q : Exit → Act → World → Prop} (hgd : o.guard = none) (d s : Operand) (dT sT : TypeId)
    (ho : o.op = .call { callee := .builtin .copy, args := #[d, s], argTypes := #[dT, sT] }) (elem : TypeId) (hu : P.underlying dT = some (.slice elem)) (hsz : (P.info? elem).map (·.size) = some 1)
    (b off dLen dCap : Nat) (ad : Addr) (sLen sCap : Nat) (hd : a.eval d = .slice (some ⟨b, off, none⟩) dLen dCap) (hs : a.eval s = .slice (some ad) sLen sCap)
    (cs : List Value) (hn : cs.length = Nat.min sLen dLen) (hsrc : ∀ j v, cs[j]? = some v → w.cell? (ad.add j) = some v) (hth : w.there b off cs.length) (h1 : ∀ v ∈ cs, v.oneCell' = true)
    (h : wpList P ops Q rest (a.put o.dst (goInt cs.length)) (w.setCells b off cs)) : wpList P ops Q (o :: rest) a w := by
  refine wpList_plain hgd fun K hK => ?_
  have hrun := run_copy_cells (P := P) w dT sT o.type elem b off dLen dCap ad sLen sCap cs hu hsz hn hsrc (fun j hj => (hth j hj).1) (fun j hj => (hth j hj).2) h1
  unfold Oper.wp
  simp [execOp, ho, resolve, invoke, builtin, hd, hs, hrun, Result.andThen]
  exact hK _ _ h

/-- a store of a whole array; the world behind it gets a name -/
theorem wpList_store_named {P : Program} {w : World} {ops : Array Oper} {rest : List Oper} {op : Oper} {a : Act} {Q : Exit → Act → World → Prop} (hgd : op.guard = none) (ty : TypeId) (x y : Operand) (ho : op.op = .store ty x y)
    (b o : Nat) (cells : Array Value) (hx : a.eval x = .pointer (some ⟨b, o, none⟩)) (hy : a.eval y = .agg cells)
    (ht : w.there b o cells.size) (hi : (P.info? ty).map (·.size) = some cells.size) (h1 : cells.all (·.oneCell') = true)
    (h : ∀ w', Hid (w.setCells b o cells.toList = w') → wpList P ops Q rest (a.put op.dst undef) w') : wpList P ops Q (op :: rest) a w :=
  wpList_store_mid hgd ty x y ho b o cells hx hy ht hi h1 (h _ rfl)

/-- a result that is an array and lives in a variable -/
theorem results_cell {fn : Func} {p : Tmp} {ty : TypeId} {tmps : Array Value} {P : Program} {w : World} {b o : Nat} {cs : List Value} {d : TypeDesc} (h : fn.results = #[.cell p ty])
    (hp : tmps.getD p undef = .pointer (some ⟨b, o, none⟩)) (hc : w.rangeAt b o cs) (hu : P.underlying ty = some d) (hd : d.isRow = true) (hi : (P.info? ty).map (·.size) = some cs.length) :
    (results fn tmps).run P w = .ok (.agg cs.toArray) w := by
  simp only [results, h]
  simp at hp
  simp [hp, asAddr, run_loadVar_mid w b o ty cs d hc hu hd hi]

theorem ownsRow_later {w w' : World} {base e size n : Nat} {v : Value} {xs : List Value} (h : w.ownsRow base e size v n xs) (hb : Below w.heap.size w w') : w'.ownsRow base e size v n xs := by
  refine ⟨h.1, ?_⟩
  rcases h.2 with h0 | ⟨g, cap, cur, hv, h1, hg, h2, h3, h4, h5⟩
  · exact .inl h0
  · exact .inr ⟨g, cap, cur, hv, h1, (hb.block g (Array.getElem?_eq_some_iff.1 hg).1).trans hg, h2, h3, h4, h5⟩
/-- below B only block g may have changed -/
def But (B g : Nat) (w w' : World) : Prop :=
  w'.os = w.os ∧ w'.tape = w.tape ∧ w'.output = w.output ∧ w.heap.size ≤ w'.heap.size ∧ ∀ k, k < B → k ≠ g → w'.heap[k]? = w.heap[k]?
theorem But.refl (B g : Nat) (w : World) : But B g w w := ⟨rfl, rfl, rfl, Nat.le_refl _, fun _ _ _ => rfl⟩
theorem But.trans {B g : Nat} {a b c : World} (h : But B g a b) (k : But B g b c) : But B g a c :=
  ⟨k.1.trans h.1, k.2.1.trans h.2.1, k.2.2.1.trans h.2.2.1, Nat.le_trans h.2.2.2.1 k.2.2.2.1, fun j h1 h2 => (k.2.2.2.2 j h1 h2).trans (h.2.2.2.2 j h1 h2)⟩
theorem Below.but {B g : Nat} {a b : World} (h : Below B a b) : But B g a b := ⟨h.os, h.tape, h.output, h.size, fun k hk _ => h.block k hk⟩
theorem But.below {B B' g : Nat} {a b : World} (h : But B g a b) (hB : B' ≤ B) (hg : B' ≤ g) : Below B' a b := ⟨h.1, h.2.1, h.2.2.1, h.2.2.2.1, fun k hk => h.2.2.2.2 k (by omega) (by omega)⟩
theorem But.mono {B B' g : Nat} {a b : World} (h : But B g a b) (hB : B' ≤ B) : But B' g a b := ⟨h.1, h.2.1, h.2.2.1, h.2.2.2.1, fun k hk hg => h.2.2.2.2 k (by omega) hg⟩
theorem But.setCells {B g : Nat} {a w : World} (h : But B g a w) (o : Nat) (vs : List Value) : But B g a (w.setCells g o vs) :=
  h.trans ⟨(rest_setCells g vs o w).1, (rest_setCells g vs o w).2.1, (rest_setCells g vs o w).2.2, by rw [size_setCells]; exact Nat.le_refl _, fun k _ hg => heap_setCells g vs o w k hg⟩
theorem But.setCell {B g : Nat} {a w : World} (h : But B g a w) (o : Nat) (v : Value) : But B g a (w.setCell ⟨g, o, none⟩ v) := h.setCells o [v]
theorem But.step {B g : Nat} {a w w' : World} (h : But B g a w) (k : Below w.heap.size w w') (hB : B ≤ w.heap.size) : But B g a w' := h.trans (Below.but (k.mono hB))
theorem But.drewN {B g : Nat} {a w : World} (h : But B g a w) (n : Nat) : But B g a (w.drewN n) := h
theorem Block.but {w w' : World} {b B g : Nat} {t : TypeId} {cs : List Value} (h : Block w b t cs) (hb : But B g w w') (hB : b < B) (hg : b ≠ g) : Block w' b t cs := (hb.2.2.2.2 b hB hg).trans h
theorem Reads.but {k : IntKind} {w w' : World} {b off len B g : Nat} {xs : List Nat} (h : Reads k w (some ⟨b, off, none⟩) len xs) (hb : But B g w w') (hB : b < B) (hg : b ≠ g) : Reads k w' (some ⟨b, off, none⟩) len xs := by
  refine ⟨h.1, ?_⟩
  rcases h.2 with h | ⟨b', off', ha, hlt, hc⟩
  · exact .inl h
  · cases ha
    refine .inr ⟨b, off, rfl, Nat.lt_of_lt_of_le hlt hb.2.2.2.1, fun i hi => ?_⟩
    rw [World.cell?_of_block (w := w) (hb.2.2.2.2 b hB hg)]; exact hc i hi
/-- part of a block reads as numbers -/
theorem Block.reads {k : IntKind} {w : World} {b : Nat} {t : TypeId} {cs : List Value} (h : Block w b t cs) (o : Nat) (xs : List Nat) (hx : ∀ i, i < xs.length → cs[o + i]? = some (.int k ((xs.getD i 0 : Nat) : Int))) (n : Nat) (hn : xs.length = n) : Reads k w (some ⟨b, o, none⟩) n xs :=
  ⟨hn, .inr ⟨b, o, rfl, h.lt, fun i hi => by rw [h.cell]; exact hx i (by omega)⟩⟩
end Go.Proofs.YtphifanacehppaaGreat
/- append onto a row of the call's own, from whatever slice. No condition. -/
namespace Go.Proofs.YtphifanacehppaaGreat
open Go.RowKit
set_option linter.unusedVariables false

theorem grown_refl (w : World) (row : Option Nat) : w.grownBy w row := ⟨rfl, rfl, rfl, Nat.le_refl _, fun _ _ _ => rfl⟩
theorem wpList_append_from {P : Program} {w : World} {ops : Array Oper} {rest : List Oper} {o : Oper} {a : Act} {Q : Exit → Act → World → Prop} (hgd : o.guard = none) (s x : Operand) (t : TypeId)
    (ho : o.op = .call { callee := .builtin .append, args := #[s, x], argTypes := #[t, t] })
    (base : Nat) (e : TypeId) (i : TypeInfo) (z : Value) (bytes : Nat) (ht : P.underlying t = some (.slice e)) (hi : P.info? e = some i) (hz : i.zero = some z)
    (hsize : i.size = 1) (hby : i.bytes = bytes) (hzs : z.cells.size = 1)
    (v : Value) (n : Nat) (xs : List Value) (hs : a.eval s = v) (hown : w.ownsRow base e 1 v n xs)
    (ap : Option Addr) (m c : Nat) (news : List Value) (hx : a.eval x = .slice ap m c) (hl : news.length = m)
    (hnews : m = 0 ∨ ∃ ad, ap = some ad ∧ ∀ j u, news[j]? = some u → w.cell? (ad.add j) = some u) (h1 : ∀ u ∈ news, u.oneCell' = true)
    (h63 : n + m ≤ maxLen) (hbytes : (n + m) * bytes ≤ 140737488355328) (hbase : base ≤ w.heap.size)
    (h : ∀ v' w', w'.ownsRow base e 1 v' (n + m) (xs ++ news) → w.grownBy w' v.ownBlock → wpList P ops Q rest (a.put o.dst v') w') : wpList P ops Q (o :: rest) a w := by
  by_cases hm : m = 0
  · subst hm
    obtain rfl : news = [] := List.eq_nil_of_length_eq_zero hl
    obtain ⟨bp, cp, rfl, hcp⟩ := ownsRow_slice hown
    have hsrc : Src P i.size t (.slice ap 0 c) 0 [] w := by
      cases ap with
      | none => exact Src.ofNil w ht c
      | some ad => exact Src.ofSlice w ht ad 0 c [] (by simp) (by simp) (by simp)
    have hrun := run_append_nothing w t t o.type e i ht hi bp n cp hcp _ hsrc
    refine wpList_plain hgd fun K hK => ?_
    unfold Oper.wp
    simp [execOp, ho, resolve, invoke, builtin, hs, hx, hrun, Result.andThen]
    exact hK _ _ (h _ w (by simpa using hown) (grown_refl _ _))
  · rcases hnews with h0 | ⟨ad, rfl, hc⟩
    · exact absurd h0 hm
    · exact wpList_append_own w hgd s x t ho base e i z 1 bytes ht hi hz hsize hby hzs (by decide) v n xs hs hown ad m c news hx (by omega) hc h1 h63 hbytes hbase (fun v' w' h2 h3 _ => h v' w' h2 h3)
end Go.Proofs.YtphifanacehppaaGreat
/- A slice that holds given values. No condition. -/
namespace Go.Proofs.YtphifanacehppaaGreat
open Go.RowKit
set_option linter.unusedVariables false

/-- the slice at address a, of length len, holds the values vs -/
def Vals (w : World) (a : Option Addr) (len : Nat) (vs : List Value) : Prop :=
  vs.length = len ∧ (len = 0 ∨ ∃ b off, a = some ⟨b, off, none⟩ ∧ b < w.heap.size ∧ ∀ i v, vs[i]? = some v → w.cell? ⟨b, off + i, none⟩ = some v)
theorem Vals.nil {w : World} {a : Option Addr} : Vals w a 0 [] := ⟨rfl, .inl rfl⟩
theorem Vals.at {w : World} {a : Option Addr} {len : Nat} {vs : List Value} (h : Vals w a len vs) {i : Nat} (hi : i < len) :
    ∃ b off, a = some ⟨b, off, none⟩ ∧ b < w.heap.size ∧ ∀ i v, vs[i]? = some v → w.cell? ⟨b, off + i, none⟩ = some v := by
  rcases h.2 with h | h
  · omega
  · exact h
theorem Vals.below {w w' : World} {a : Option Addr} {len : Nat} {vs : List Value} (h : Vals w a len vs) (hb : Below w.heap.size w w') : Vals w' a len vs := by
  refine ⟨h.1, ?_⟩
  rcases h.2 with h | ⟨b, off, ha, hlt, hc⟩
  · exact .inl h
  · exact .inr ⟨b, off, ha, Nat.lt_of_lt_of_le hlt hb.size, fun i v hv => by rw [hb.cell (p := ⟨b, off + i, none⟩) hlt]; exact hc i v hv⟩
theorem Vals.drewN {w : World} {a : Option Addr} {len : Nat} {vs : List Value} (h : Vals w a len vs) (n : Nat) : Vals (w.drewN n) a len vs := h.below (below_drewN (Below.refl _ _) n)
theorem Vals.own {w : World} {base e n : Nat} {a : Option Addr} {cap : Nat} {vs : List Value} (h : w.ownsRow base e 1 (.slice a n cap) n vs) : Vals w a n vs := by
  obtain ⟨hl, hr⟩ := h
  simp at hl
  refine ⟨hl, ?_⟩
  rcases hr with ⟨hv, h0⟩ | ⟨g, cap', cur, hv, _, hg, _, _, _, htake⟩
  · exact .inl h0
  · cases hv
    refine .inr ⟨g, 0, rfl, (Array.getElem?_eq_some_iff.1 hg).1, fun i v hv => ?_⟩
    have hi : i < n := by have := (List.getElem?_eq_some_iff.1 hv).1; omega
    rw [Nat.zero_add, cell_of_row w g i cur e (0, 0) hg]
    have h2 : (cur.toList.take (n * 1))[i]? = vs[i]? := by rw [htake]
    rw [List.getElem?_take, if_pos (by omega), Array.getElem?_toList] at h2
    rw [h2, hv]
theorem Vals.but {w w' : World} {a : Option Addr} {len g : Nat} {vs : List Value} (h : Vals w a len vs) (hb : But w.heap.size g w w') (ha : ∀ x, a = some x → x.block ≠ g) : Vals w' a len vs := by
  refine ⟨h.1, ?_⟩
  rcases h.2 with h | ⟨b, off, rfl, hlt, hc⟩
  · exact .inl h
  · refine .inr ⟨b, off, rfl, Nat.lt_of_lt_of_le hlt hb.2.2.2.1, fun i v hv => ?_⟩
    rw [← hc i v hv]
    show w'.cell? _ = w.cell? _
    unfold World.cell?
    rw [hb.2.2.2.2 b hlt (ha _ rfl)]
/-- where a part of a slice from k on lies -/
def vshift (a : Option Addr) (k cap : Nat) : Option Addr := if cap = k then a else a.map (·.add k)
theorem Vals.drop {w : World} {a : Option Addr} {len cap k : Nat} {vs : List Value} (h : Vals w a len vs) (hk : k ≤ len) (hc : len ≤ cap) : Vals w (vshift a k cap) (len - k) (vs.drop k) := by
  refine ⟨by rw [List.length_drop, h.1], ?_⟩
  by_cases h0 : len - k = 0
  · exact .inl h0
  · obtain ⟨b, off, rfl, hb, hcell⟩ := h.at (i := 0) (by omega)
    refine .inr ⟨b, off + k, ?_, hb, fun i v hv => ?_⟩
    · rw [vshift, if_neg (by omega), Option.map_some, Addr.add_lit]
    · rw [List.getElem?_drop] at hv
      rw [Nat.add_assoc]
      exact hcell (k + i) v hv
theorem vshift_block {a : Option Addr} {k cap b : Nat} (h : ∀ x, a = some x → x.block ≠ b) : ∀ x, vshift a k cap = some x → x.block ≠ b := by
  intro x hx
  unfold vshift at hx
  split at hx
  · exact h x hx
  · cases a with
    | none => cases hx
    | some y =>
      cases hx
      have := h y rfl
      unfold Addr.add
      split <;> exact this
theorem own_apart {w : World} {base e n g : Nat} {a : Option Addr} {cap : Nat} {vs : List Value} (h : w.ownsRow base e 1 (.slice a n cap) n vs) (hg : g < base) : ∀ x, a = some x → x.block ≠ g := by
  intro x hx e
  subst hx
  obtain ⟨_, hr⟩ := h
  rcases hr with ⟨hv, _⟩ | ⟨g', cap', cur, hv, hb, _⟩
  · cases hv
  · cases hv
    simp at e
    omega
theorem ownsRow_same {w w' : World} {base e size n : Nat} {v : Value} {xs : List Value} (h : w.ownsRow base e size v n xs) (hh : ∀ g, v.ownBlock = some g → w'.heap[g]? = w.heap[g]?) : w'.ownsRow base e size v n xs := by
  refine ⟨h.1, ?_⟩
  rcases h.2 with h0 | ⟨g, cap, cur, hv, h1, hg, h2, h3, h4, h5⟩
  · exact .inl h0
  · exact .inr ⟨g, cap, cur, hv, h1, (hh g (by rw [hv]; rfl)).trans hg, h2, h3, h4, h5⟩
end Go.Proofs.YtphifanacehppaaGreat
/- Rows of numbers in a block of their own, and worlds in which only given blocks have turned. No condition. -/
namespace Go.Proofs.YtphifanacehppaaGreat
open Go.RowKit
set_option linter.unusedVariables false

/-- but for the blocks of S, what there was stands -/
structure Only (S : Nat → Prop) (w w' : World) : Prop where
  os : w'.os = w.os
  tape : w'.tape = w.tape
  output : w'.output = w.output
  size : w.heap.size ≤ w'.heap.size
  block : ∀ k, k < w.heap.size → ¬ S k → w'.heap[k]? = w.heap[k]?
section
variable {S T : Nat → Prop} {a b c w w' : World}
theorem Only.refl (S : Nat → Prop) (w : World) : Only S w w := ⟨rfl, rfl, rfl, Nat.le_refl _, fun _ _ _ => rfl⟩
/-- what the second turns is of S, or was not there at first -/
theorem Only.next (h : Only S a b) (k : Only T b c) (hT : ∀ x, T x → x < a.heap.size → S x) : Only S a c :=
  ⟨k.os.trans h.os, k.tape.trans h.tape, k.output.trans h.output, Nat.le_trans h.size k.size, fun x hx hn => (k.block x (Nat.lt_of_lt_of_le hx h.size) (fun ht => hn (hT x ht hx))).trans (h.block x hx hn)⟩
theorem Only.trans (h : Only S a b) (k : Only S b c) : Only S a c := h.next k fun _ h _ => h
theorem Only.mono (h : Only S a b) (hS : ∀ x, S x → x < a.heap.size → T x) : Only T a b := (Only.refl T a).next h hS
theorem Only.later (h : Only S a b) (k : Below b.heap.size b c) : Only S a c := ⟨k.os.trans h.os, k.tape.trans h.tape, k.output.trans h.output, Nat.le_trans h.size k.size, fun x hx hn => (k.block x (Nat.lt_of_lt_of_le hx h.size)).trans (h.block x hx hn)⟩
theorem Only.of (k : Below a.heap.size a b) : Only S a b := (Only.refl S a).later k
theorem Only.drewN (h : Only S a b) (n : Nat) : Only S a (b.drewN n) := ⟨h.os, h.tape, h.output, h.size, h.block⟩
theorem Only.setCell (h : Only S a b) {g : Nat} (hg : S g ∨ a.heap.size ≤ g) (o : Nat) (v : Value) : Only S a (b.setCell ⟨g, o, none⟩ v) := by
  refine h.next (T := fun x => x = g) ⟨rfl, rfl, rfl, by simp, fun k _ hk => Below.heap_setCell b ⟨g, o, none⟩ v k hk⟩ ?_
  rintro x rfl hx
  rcases hg with h | h
  · exact h
  · omega
theorem Only.alloc (h : Only S a b) (ob : Obj) : Only S a (b.alloc ob) := h.later ((Below.refl _ b).alloc (Nat.le_refl _) ob)
theorem Only.below (h : Only S a b) {B : Nat} (hB : B ≤ a.heap.size) (hS : ∀ x, S x → B ≤ x) : Below B a b :=
  ⟨h.os, h.tape, h.output, h.size, fun k hk => h.block k (by omega) (fun hs => by have := hS k hs; omega)⟩
theorem _root_.Go.Proofs.YtphifanacehppaaGreat.Block.only {g : Nat} {t : TypeId} {cs : List Value} (h : Block a g t cs) (k : Only S a b) (hg : ¬ S g) : Block b g t cs := (k.block g h.lt hg).trans h
end

/-- block g is a row of numbers of kind k, with room for cap: xs, and what stands behind -/
def Row (w : World) (t : TypeId) (k : IntKind) (g cap : Nat) (xs : List Nat) : Prop :=
  ∃ pad, Block w g t (xs.map (fun x : Nat => Value.int k (x : Int)) ++ pad) ∧ xs.length ≤ cap ∧ cap ≤ maxLen
section
variable {w w' : World} {t : TypeId} {k : IntKind} {g cap : Nat} {xs : List Nat}
theorem Row.lt (h : Row w t k g cap xs) : g < w.heap.size := by obtain ⟨pad, h, _⟩ := h; exact h.lt
theorem Row.heap (h : Row w t k g cap xs) (hh : w'.heap[g]? = w.heap[g]?) : Row w' t k g cap xs := by
  obtain ⟨pad, h1, h2⟩ := h
  exact ⟨pad, hh.trans h1, h2⟩
theorem Row.later (h : Row w t k g cap xs) (hb : Below w.heap.size w w') : Row w' t k g cap xs := h.heap (hb.block g h.lt)
theorem Row.only {S : Nat → Prop} (h : Row w t k g cap xs) (hb : Only S w w') (hg : ¬ S g) : Row w' t k g cap xs := h.heap (hb.block g h.lt hg)
theorem Row.apart (h : Row w t k g cap xs) (b o : Nat) (v : Value) (hg : g ≠ b) : Row (w.setCell ⟨b, o, none⟩ v) t k g cap xs := h.heap (Below.heap_setCell w ⟨b, o, none⟩ v g hg)
theorem Row.get (h : Row w t k g cap xs) {i : Nat} (hi : i < xs.length) : w.cell? ⟨g, i, none⟩ = some (.int k ((xs.getD i 0 : Nat) : Int)) := by
  obtain ⟨pad, h, _⟩ := h
  rw [h.cell, List.getElem?_append_left (by simpa using hi), List.getElem?_map, List.getD_eq_getElem?_getD, List.getElem?_eq_getElem hi]
  rfl
theorem Row.frozen (h : Row w t k g cap xs) (i : Nat) : w.frozen? ⟨g, i, none⟩ = false := by obtain ⟨pad, h, _⟩ := h; exact h.frozen i
theorem Row.set (h : Row w t k g cap xs) {i : Nat} (hi : i < xs.length) (v : Nat) : Row (w.setCell ⟨g, i, none⟩ (.int k (v : Int))) t k g cap (xs.set i v) := by
  obtain ⟨pad, h, h2⟩ := h
  refine ⟨pad, ?_, by simpa using h2⟩
  have := h.setCell i (.int k (v : Int))
  rwa [List.set_append, if_pos (by simpa using hi), ← List.map_set] at this
theorem Row.reads (h : Row w t k g cap xs) : Reads k w (some ⟨g, 0, none⟩) xs.length xs :=
  ⟨rfl, .inr ⟨g, 0, rfl, h.lt, fun i hi => by rw [Nat.zero_add]; exact h.get hi⟩⟩
/-- what the call itself made is such a row -/
theorem Row.own {base e n : Nat} {v : Value} {k : IntKind} (h : w.ownsRow base e 1 v n (xs.map fun x : Nat => Value.int k (x : Int))) (hn : 0 < n) :
    ∃ g cap, v = .slice (some ⟨g, 0, none⟩) n cap ∧ base ≤ g ∧ Row w e k g cap xs := by
  obtain ⟨hl, hr⟩ := h
  simp at hl
  rcases hr with ⟨hv, h0⟩ | ⟨g, cap, cur, hv, hb, hg, h1, h2, h3, h4⟩
  · omega
  · refine ⟨g, cap, hv, hb, cur.toList.drop (n * 1), ?_, by omega, h2⟩
    rw [← h4, List.take_append_drop]
    simpa [Block] using hg
end
theorem reads_only {S : Nat → Prop} {k : IntKind} {w w' : World} {a : Option Addr} {len : Nat} {xs : List Nat} (h : Reads k w a len xs) (hb : Only S w w') (ha : len = 0 ∨ ∃ x, a = some x ∧ ¬ S x.block) : Reads k w' a len xs := by
  refine ⟨h.1, ?_⟩
  rcases h.2 with h0 | ⟨b, off, rfl, hlt, hc⟩
  · exact .inl h0
  · rcases ha with h0 | ⟨x, hx, hS⟩
    · exact .inl h0
    · cases hx
      refine .inr ⟨b, off, rfl, Nat.lt_of_lt_of_le hlt hb.size, fun i hi => ?_⟩
      rw [World.cell?_of_block (w := w) (hb.block b hlt hS)]; exact hc i hi
end Go.Proofs.YtphifanacehppaaGreat
/- A region whose order is open: all its operations but the last ones in a forced row only read; one walk in the order of the text serves every order. No condition. -/
namespace Go.Proofs.YtphifanacehppaaGreat.tail
open Go

section
variable {P : Program} {ops : Array Oper} {md : Region.Mode} {C : World → Prop}

def anyL (P : Program) (md : Region.Mode) (ops : Array Oper) (C : World → Prop) (n : Nat) (L : Array Bool → Act → Prop) : Nat → Array Bool → Act → Prop
  | 0, listed, a => L listed a
  | f + 1, listed, a =>
    Region.ready md ops listed ≠ [] ∧ ∀ i ∈ Region.ready md ops listed, i < n ∧ qOp P ops C i (anyL P md ops C n L f (listed.setIfInBounds i true)) a

theorem any_of_head {n g : Nat} {L : Array Bool → Act → Prop} {Q' : Exit → Act → World → Prop} (hL : ∀ listed a w, C w → L listed a → wpAny P md ops Q' g listed a w) :
    ∀ (f : Nat) (listed : Array Bool) (a : Act) (w : World), C w → anyL P md ops C n L f listed a → wpAny P md ops Q' (f + g) listed a w
  | 0, listed, a, w, hw, h => by rw [Nat.zero_add]; exact hL _ _ _ hw h
  | f + 1, listed, a, w, hw, h => by
    rw [show f + 1 + g = (f + g) + 1 by omega]
    exact ⟨fun h0 => absurd h0 h.1, fun i hi => wpOp_of_qOp hw (fun a' w' hw' h' => any_of_head hL f _ a' w' hw' h') (h.2 i hi).2⟩

theorem anyL_first {n i : Nat} {oi : Oper} {v : Value} {L : Array Bool → Act → Prop} (hi : ops[i]? = some oi) (hsel : ∀ (j : Nat) (o : Oper) cs b, ops[j]? = some o → o.op ≠ .select cs b)
    (hs : Region.sinkB md ops n = true) (hc : Region.chainB md ops n = true) (hn : n < ops.size) (hin : i < n)
    (hdone : ∀ listed a, L listed a → ∀ j ∈ Region.ready md ops listed, n ≤ j) :
    ∀ (f : Nat) (listed : Array Bool) (a : Act), HeadInv md ops n listed →
      (∀ j oj, ops[j]? = some oj → j ≠ i → listed.getD j true = false → (∀ e ∈ oj.after, Region.binds md e = true → e.on ≠ i) → oi.apart ops oj = true) →
      i ∈ Region.ready md ops listed → YieldsIn P ops C oi v a →
      anyL P md ops C n L f (listed.setIfInBounds i true) (a.put oi.dst v) → anyL P md ops C n L (f + 1) listed a := by
  intro f
  induction f with
  | zero =>
    intro listed a inv _ hr hy H
    have hun := (mem_ready.1 hr).1
    refine ⟨fun h => (by rw [h] at hr; cases hr), fun j hj => ?_⟩
    have hjn : j < n := by
      rcases Nat.lt_or_ge j n with h | h
      · exact h
      · exact absurd hj (tail_waits hs hc hn inv _ i rfl hin hun j h)
    refine ⟨hjn, ?_⟩
    by_cases hji : j = i
    · subst hji; exact hy.qOp hi H
    · have := hdone _ _ H j (ready_mono hj hji)
      omega
  | succ f ih =>
    intro listed a inv hfree hr hy H
    have hun := (mem_ready.1 hr).1
    refine ⟨fun h => (by rw [h] at hr; cases hr), fun j hj => ?_⟩
    have hjn : j < n := by
      rcases Nat.lt_or_ge j n with h | h
      · exact h
      · exact absurd hj (tail_waits hs hc hn inv _ i rfl hin hun j h)
    refine ⟨hjn, ?_⟩
    by_cases hji : j = i
    · subst hji; exact hy.qOp hi H
    · have h1 := (H.2 j (ready_mono hj hji)).2
      obtain ⟨hjun, oj, hoj, hall⟩ := mem_ready.1 hj
      have hnot : ∀ e ∈ oj.after, Region.binds md e = true → e.on ≠ i := fun e he hb heq => by
        have h1 := hall e he hb
        rw [heq, getD_both hun] at h1
        cases h1
      have h2 := qOp_put hoj (hfree j oj hoj hji hjun hnot) (fun cs b => hsel i oi cs b hi) (fun cs b => hsel j oj cs b hoj) hy h1
      have hfree' : ∀ k ok, ops[k]? = some ok → k ≠ i → (listed.setIfInBounds j true).getD k true = false →
          (∀ e ∈ ok.after, Region.binds md e = true → e.on ≠ i) → oi.apart ops ok = true := fun k ok hk hki hun hno => by
        refine hfree k ok hk hki ?_ hno
        by_cases hjk : j = k
        · subst hjk; exact hjun
        · rw [getD_set_ne true hjk] at hun; exact hun
      refine qOp_mono (fun a' h3 => ih (listed.setIfInBounds j true) a' (inv.set hj hjn) hfree' (ready_mono hr (Ne.symm hji)) h3.1 ?_) h2
      rw [Array.setIfInBounds_comm _ _ hji]
      exact h3.2

theorem anyL_lex {n g : Nat} {Lq : Act → Prop} (hsel : Region.noSelect ops = true) (hs : Region.sinkB md ops n = true) (hc : Region.chainB md ops n = true) (hn : n < ops.size) :
    ∀ (l : List Oper) (k : Nat) (listed : Array Bool) (a : Act), (∀ j, j < l.length → l[j]? = ops[k + j]?) → k + l.length = n → HeadInv md ops n listed →
    Region.lexHead md ops g l.length k listed = true → wpQuiet P ops C Lq l a →
    anyL P md ops C n (fun listed' a' => Region.seqB md ops g n listed' = true ∧ Lq a') l.length listed a
  | [], k, listed, a, _, hk, _, hB, h => by
    have : k = n := by simpa using hk
    subst this
    exact ⟨by simpa [Region.lexHead] using hB, h⟩
  | o :: l, k, listed, a, hl, hk, inv, hB, h => by
    have h0 : ops[k]? = some o := by simpa using (hl 0 (by simp)).symm
    simp only [List.length_cons, Region.lexHead, Bool.and_eq_true] at hB
    obtain ⟨⟨hr, hf⟩, hB'⟩ := hB
    have hkn : k < n := by simp only [List.length_cons] at hk; omega
    have hr' : k ∈ Region.ready md ops listed := by simpa using hr
    have hst : qOp P ops C k (wpQuiet P ops C Lq l) a := by unfold qOp; simp only [h0]; exact h
    obtain ⟨v, hy, hK⟩ := yieldsIn_of_qOp h0 hst
    exact anyL_first h0 (Region.noSelect_spec hsel) hs hc hn hkn (fun listed' a' hL => seqB_ready hL.1) l.length listed a inv (Region.free_spec h0 hf) hr' hy
      (anyL_lex hsel hs hc hn l (k + 1) _ _ (fun j hj => by have := hl (j + 1) (by simp; omega); simpa [Nat.add_assoc, Nat.add_comm 1 j] using this) (by simp only [List.length_cons] at hk; omega) (inv.set hr' hkn) hB' hK)

/-- the operations but the last ones only read, or call what only reads; the last ones stand in one row -/
theorem region {id : Nat} {Q : Exit → Act → World → Prop} {a : Act} {w : World} {l : List Oper} (n : Nat) (hm : P.follows .mixedOrders = true) (hB : Region.lexTailB .any l.toArray n = true)
    (h : wpQuiet P l.toArray (fun w' => ∃ n, w' = w.drewN n) (fun a' => ∀ w', (∃ n, w' = w.drewN n) → wpList P l.toArray Q (l.drop n) a' w') (l.take n) a) : (Code.region id l.toArray true).wp P Q a w := by
  simp only [Region.lexTailB, Bool.and_eq_true, decide_eq_true_eq] at hB
  obtain ⟨⟨⟨⟨hsel, hn⟩, hs⟩, hc⟩, hlex⟩ := hB
  have hn' : n < l.length := by simpa using hn
  have htl : (l.take n).length = n := by simp; omega
  have hdl : (l.drop n).length = l.toArray.size - n := by simp
  have inv0 : HeadInv .any l.toArray n (Array.replicate l.toArray.size false) :=
    ⟨by simp, fun j oj _ hl => (by rw [getD_replicate_false] at hl; cases hl), fun t _ ht => getD_in (by simpa using ht) (getD_replicate_false _ _)⟩
  have H := anyL_lex (md := .any) (g := l.toArray.size - n) hsel hs hc hn (l.take n) 0 _ a (fun j hj => by
    have hj' : j < n := by rw [htl] at hj; exact hj
    simp [hj']) (by simpa using htl) inv0 (by rw [htl]; exact hlex) h
  refine wp_region_any hm ?_
  have := any_of_head (C := fun w' => ∃ n, w' = w.drewN n) (Q' := Q) (g := l.toArray.size - n) (fun listed a' w' hw' hL => by
    have := wpAny_of_seq (md := .any) (Q' := Q) (l.drop n) n listed a' w' (fun j => by simp [List.getElem?_drop]) (by rw [hdl]; exact hL.1) (hL.2 w' hw')
    rwa [hdl] at this) _ _ _ _ ⟨1, rfl⟩ H
  rw [htl, show n + (l.toArray.size - n) = l.toArray.size by omega] at this
  exact this

/-! the same where the first m operations are plain moves, which may also come up late -/

def sinkFrom (md : Region.Mode) (ops : Array Oper) (m n : Nat) : Bool :=
  (List.range n).all fun i => decide (i < m) || (List.range (n + 1)).any fun j => decide (i < j) && Region.waitsFor md ops j i
theorem tail_waits_from {m n : Nat} {listed : Array Bool} (hs : sinkFrom md ops m n = true) (hc : Region.chainB md ops n = true) (hn : n < ops.size) (inv : HeadInv md ops n listed)
    (hm : ∀ i, i < m → listed.getD i true = true) :
    ∀ (d i : Nat), n - i = d → i < n → listed.getD i true = false → ∀ t, n ≤ t → t ∉ Region.ready md ops listed := by
  intro d
  induction d using Nat.strongRecOn with
  | _ d ih =>
    intro i hd hi hun t ht hr
    obtain ⟨_, ot, hot, hall⟩ := mem_ready.1 hr
    have htlt : t < ops.size := (Array.getElem?_eq_some_iff.1 hot).1
    by_cases htn : t = n
    · subst htn
      have h1 := List.all_eq_true.1 hs i (List.mem_range.2 hi)
      have hnm : ¬ i < m := fun h => by rw [hm i h] at hun; cases hun
      simp only [Bool.or_eq_true, decide_eq_true_eq, hnm, false_or] at h1
      obtain ⟨j, hj, hj2⟩ := List.any_eq_true.1 h1
      simp only [Bool.and_eq_true, decide_eq_true_eq] at hj2
      obtain ⟨oj, hoj, e, he, hb, hon⟩ := Region.waitsFor_spec hj2.2
      have hjle : j ≤ t := by have := List.mem_range.1 hj; omega
      by_cases hjt : j = t
      · subst hjt
        have : oj = ot := Option.some.inj (hoj.symm.trans hot)
        subst this
        have h2 := hall e he hb
        rw [hon, getD_both hun] at h2
        cases h2
      · cases hl : listed.getD j false with
        | true =>
          have h2 := inv.closed j oj hoj hl e he hb
          rw [hon, getD_both hun] at h2
          cases h2
        | false =>
          have hjs : j < listed.size := by rw [inv.size]; omega
          exact ih (t - j) (by omega) j rfl (by omega) (getD_in hjs hl) t (Nat.le_refl _) hr
    · have h1 := List.all_eq_true.1 hc t (List.mem_range.2 htlt)
      simp only [Bool.or_eq_true, decide_eq_true_eq] at h1
      rcases h1 with h1 | h1
      · omega
      · obtain ⟨o', ho', e, he, hb, hon⟩ := Region.waitsFor_spec h1
        have : o' = ot := Option.some.inj (ho'.symm.trans hot)
        subst this
        have h2 := hall e he hb
        rw [hon, getD_both (inv.tail (t - 1) (by omega) (by omega))] at h2
        cases h2

theorem anyL_first_from {m n i : Nat} {oi : Oper} {v : Value} {L : Array Bool → Act → Prop} (hi : ops[i]? = some oi) (hsel : ∀ (j : Nat) (o : Oper) cs b, ops[j]? = some o → o.op ≠ .select cs b)
    (hs : sinkFrom md ops m n = true) (hc : Region.chainB md ops n = true) (hn : n < ops.size) (hin : i < n)
    (hdone : ∀ listed a, L listed a → ∀ j ∈ Region.ready md ops listed, n ≤ j) :
    ∀ (f : Nat) (listed : Array Bool) (a : Act), HeadInv md ops n listed → (∀ i, i < m → listed.getD i true = true) →
      (∀ j oj, ops[j]? = some oj → j ≠ i → listed.getD j true = false → (∀ e ∈ oj.after, Region.binds md e = true → e.on ≠ i) → oi.apart ops oj = true) →
      i ∈ Region.ready md ops listed → YieldsIn P ops C oi v a →
      anyL P md ops C n L f (listed.setIfInBounds i true) (a.put oi.dst v) → anyL P md ops C n L (f + 1) listed a := by
  intro f
  induction f with
  | zero =>
    intro listed a inv hm _ hr hy H
    have hun := (mem_ready.1 hr).1
    refine ⟨fun h => (by rw [h] at hr; cases hr), fun j hj => ?_⟩
    have hjn : j < n := by
      rcases Nat.lt_or_ge j n with h | h
      · exact h
      · exact absurd hj (tail_waits_from hs hc hn inv hm _ i rfl hin hun j h)
    refine ⟨hjn, ?_⟩
    by_cases hji : j = i
    · subst hji; exact hy.qOp hi H
    · have := hdone _ _ H j (ready_mono hj hji)
      omega
  | succ f ih =>
    intro listed a inv hm hfree hr hy H
    have hun := (mem_ready.1 hr).1
    refine ⟨fun h => (by rw [h] at hr; cases hr), fun j hj => ?_⟩
    have hjn : j < n := by
      rcases Nat.lt_or_ge j n with h | h
      · exact h
      · exact absurd hj (tail_waits_from hs hc hn inv hm _ i rfl hin hun j h)
    refine ⟨hjn, ?_⟩
    by_cases hji : j = i
    · subst hji; exact hy.qOp hi H
    · have h1 := (H.2 j (ready_mono hj hji)).2
      obtain ⟨hjun, oj, hoj, hall⟩ := mem_ready.1 hj
      have hnot : ∀ e ∈ oj.after, Region.binds md e = true → e.on ≠ i := fun e he hb heq => by
        have h1 := hall e he hb
        rw [heq, getD_both hun] at h1
        cases h1
      have h2 := qOp_put hoj (hfree j oj hoj hji hjun hnot) (fun cs b => hsel i oi cs b hi) (fun cs b => hsel j oj cs b hoj) hy h1
      have hfree' : ∀ k ok, ops[k]? = some ok → k ≠ i → (listed.setIfInBounds j true).getD k true = false →
          (∀ e ∈ ok.after, Region.binds md e = true → e.on ≠ i) → oi.apart ops ok = true := fun k ok hk hki hun hno => by
        refine hfree k ok hk hki ?_ hno
        by_cases hjk : j = k
        · subst hjk; exact hjun
        · rw [getD_set_ne true hjk] at hun; exact hun
      have hm' : ∀ k, k < m → (listed.setIfInBounds j true).getD k true = true := fun k hk => by
        by_cases hjk : j = k
        · subst hjk; rw [hm j hk] at hjun; cases hjun
        · rw [getD_set_ne true hjk]; exact hm k hk
      refine qOp_mono (fun a' h3 => ih (listed.setIfInBounds j true) a' (inv.set hj hjn) hm' hfree' (ready_mono hr (Ne.symm hji)) h3.1 ?_) h2
      rw [Array.setIfInBounds_comm _ _ hji]
      exact h3.2

theorem anyL_lex_from {m n g : Nat} {Lq : Act → Prop} (hsel : Region.noSelect ops = true) (hs : sinkFrom md ops m n = true) (hc : Region.chainB md ops n = true) (hn : n < ops.size) :
    ∀ (l : List Oper) (k : Nat) (listed : Array Bool) (a : Act), (∀ j, j < l.length → l[j]? = ops[k + j]?) → k + l.length = n → m ≤ k → HeadInv md ops n listed → (∀ i, i < m → listed.getD i true = true) →
    Region.lexHead md ops g l.length k listed = true → wpQuiet P ops C Lq l a →
    anyL P md ops C n (fun listed' a' => Region.seqB md ops g n listed' = true ∧ Lq a') l.length listed a
  | [], k, listed, a, _, hk, _, _, _, hB, h => by
    have : k = n := by simpa using hk
    subst this
    exact ⟨by simpa [Region.lexHead] using hB, h⟩
  | o :: l, k, listed, a, hl, hk, hmk, inv, hm, hB, h => by
    have h0 : ops[k]? = some o := by simpa using (hl 0 (by simp)).symm
    simp only [List.length_cons, Region.lexHead, Bool.and_eq_true] at hB
    obtain ⟨⟨hr, hf⟩, hB'⟩ := hB
    have hkn : k < n := by simp only [List.length_cons] at hk; omega
    have hr' : k ∈ Region.ready md ops listed := by simpa using hr
    have hst : qOp P ops C k (wpQuiet P ops C Lq l) a := by unfold qOp; simp only [h0]; exact h
    obtain ⟨v, hy, hK⟩ := yieldsIn_of_qOp h0 hst
    have hm' : ∀ i, i < m → (listed.setIfInBounds k true).getD i true = true := fun i hi => by
      rw [getD_set_ne true (by omega)]; exact hm i hi
    exact anyL_first_from h0 (Region.noSelect_spec hsel) hs hc hn hkn (fun listed' a' hL => seqB_ready hL.1) l.length listed a inv hm (Region.free_spec h0 hf) hr' hy
      (anyL_lex_from hsel hs hc hn l (k + 1) _ _ (fun j hj => by have := hl (j + 1) (by simp; omega); simpa [Nat.add_assoc, Nat.add_comm 1 j] using this) (by simp only [List.length_cons] at hk; omega) (by omega) (inv.set hr' hkn) hm' hB' hK)

theorem held_of_any {Q : Exit → Act → World → Prop} : ∀ (fuel : Nat) (listed : Array Bool) (a : Act) (w : World), wpAny P md ops Q fuel listed a w → wpAnyH P md ops Q (fun _ => True) fuel listed a w
  | 0, _, _, _, h => h
  | fuel + 1, _, _, _, h => ⟨h.1, fun i hi => wpOp_mono (fun a' w' h' => ⟨trivial, held_of_any fuel _ a' w' h'⟩) (h.2 i hi)⟩

/-- a plain move -/
def isMove (o : Oper) : Bool := o.guard.isNone && match o.op with | .move _ => true | _ => false
theorem move_run {o : Oper} (h : isMove o = true) (a : Act) (w : World) : ∃ v, (execOp a.eval o).run P w = .ok (.value v) w ∧ ∀ w', (execOp a.eval o).run P w' = .ok (.value v) w' := by
  unfold isMove at h
  simp only [Bool.and_eq_true] at h
  obtain ⟨_, h2⟩ := h
  split at h2
  · rename_i x hx
    exact ⟨a.eval x, by simp [execOp, hx], fun w' => by simp [execOp, hx]⟩
  · cases h2

def lexMoves (md : Region.Mode) (ops : Array Oper) (F : Nat → Array Bool → Bool) : Nat → Nat → Array Bool → Bool
  | 0, k, listed => F k listed
  | f + 1, k, listed => (Region.ready md ops listed).contains k && Region.free md ops listed k && ((ops[k]?).map isMove == some true) && lexMoves md ops F f (k + 1) (listed.setIfInBounds k true)

theorem moves_first {m n : Nat} {Q : Exit → Act → World → Prop} {Lq : Act → Prop} {F : Nat → Array Bool → Bool} {w : World} (hsel : Region.noSelect ops = true) (hmn : m ≤ n) (hn : n < ops.size) (hC : C w)
    (hQ : ∀ c a a' w, Q (.panic c) a w → Q (.panic c) a' w) (g : Nat)
    (hK : ∀ listed a, HeadInv md ops n listed → (∀ i, i < m → listed.getD i true = true) → F m listed = true → Lq a → wpAny P md ops Q g listed a w) :
    ∀ (l : List Oper) (k : Nat) (listed : Array Bool) (a : Act), (∀ j, j < l.length → l[j]? = ops[k + j]?) → k + l.length = m → HeadInv md ops n listed → (∀ i, i < k → listed.getD i true = true) →
    lexMoves md ops F l.length k listed = true → wpQuiet P ops C Lq l a → wpAnyH P md ops Q (fun _ => True) (l.length + g) listed a w
  | [], k, listed, a, _, hk, inv, hm, hB, h => by
    have : k = m := by simpa using hk
    subst this
    simp only [List.length_nil, Nat.zero_add]
    exact held_of_any _ _ _ _ (hK _ _ inv hm (by simpa [lexMoves] using hB) h)
  | o :: l, k, listed, a, hl, hk, inv, hm, hB, h => by
    have h0 : ops[k]? = some o := by simpa using (hl 0 (by simp)).symm
    simp only [List.length_cons, lexMoves, Bool.and_eq_true] at hB
    obtain ⟨⟨⟨hr, hf⟩, hmv⟩, hB'⟩ := hB
    rw [h0] at hmv
    have hmv' : isMove o = true := by simpa using hmv
    have hkn : k < n := by simp only [List.length_cons] at hk; omega
    have hr' : k ∈ Region.ready md ops listed := by simpa using hr
    have hst : qOp P ops C k (wpQuiet P ops C Lq l) a := by unfold qOp; simp only [h0]; exact h
    obtain ⟨v, hy, hK'⟩ := yieldsIn_of_qOp h0 hst
    have hyI : YieldsIf P ops (fun _ => True) o v a := by
      rcases hy with ⟨hw, hv⟩ | hy
      · obtain ⟨u, hu, hu'⟩ := move_run (P := P) hmv' a w
        have h3 := hv w hC
        unfold Oper.quietAt at h3
        rw [hu] at h3
        simp only [Oper.quietUpon] at h3
        exact .inl ⟨hw, fun w' _ => by rw [hu' w', h3.2]⟩
      · exact .inr hy
    rw [show (o :: l).length + g = (l.length + g) + 1 from by simp only [List.length_cons]; omega]
    refine wpAnyH_take h0 hsel hf hr (fun c a w h => hQ c _ _ w h) hyI trivial ?_
    refine moves_first hsel hmn hn hC hQ g hK l (k + 1) _ _ (fun j hj => by have := hl (j + 1) (by simp; omega); simpa [Nat.add_assoc, Nat.add_comm 1 j] using this) (by simp only [List.length_cons] at hk; omega) (inv.set hr' hkn) ?_ hB' hK'
    intro i hi
    by_cases h : k = i
    · subst h
      have hks : k < listed.size := by rw [inv.size]; omega
      simp [hks]
    · rw [getD_set_ne true h]; exact hm i (by omega)

def lexTailFrom (md : Region.Mode) (ops : Array Oper) (m n : Nat) : Bool :=
  Region.noSelect ops && decide (n < ops.size) && decide (m ≤ n) && sinkFrom md ops m n && Region.chainB md ops n && lexMoves md ops (fun k listed => Region.lexHead md ops (ops.size - n) (n - m) k listed) m 0 (Array.replicate ops.size false)

theorem wpQuiet_append {Q : Act → Prop} : ∀ (l l' : List Oper) (a : Act), wpQuiet P ops C Q (l ++ l') a → wpQuiet P ops C (wpQuiet P ops C Q l') l a
  | [], _, _, h => h
  | o :: l, l', a, h => by
    simp only [List.cons_append, wpQuiet] at h ⊢
    split
    · rename_i hw
      simp only [hw, if_true] at h
      exact Oper.quiet_mono (fun a' h' => wpQuiet_append l l' a' h') h
    · rename_i hw
      simp only [hw] at h
      exact wpQuiet_append l l' _ h

/-- the first m operations are plain moves; those up to n only read; the last ones stand in one row; nothing panics -/
theorem regionFrom {id : Nat} {Q : Exit → Act → World → Prop} {a : Act} {w : World} {l : List Oper} (m n : Nat) (hmx : P.follows .mixedOrders = true) (hB : lexTailFrom .any l.toArray m n = true)
    (h : wpQuiet P l.toArray (fun w' => ∃ n, w' = w.drewN n) (fun a' => ∀ w', (∃ n, w' = w.drewN n) → wpList P l.toArray (NoPanic Q) (l.drop n) a' w') (l.take n) a) : (Code.region id l.toArray true).wp P Q a w := by
  simp only [lexTailFrom, Bool.and_eq_true, decide_eq_true_eq] at hB
  obtain ⟨⟨⟨⟨⟨hsel, hn⟩, hmn⟩, hs⟩, hc⟩, hlex⟩ := hB
  have hn' : n < l.length := by simpa using hn
  have htl : (l.take n).length = n := by simp; omega
  have hdl : (l.drop n).length = l.toArray.size - n := by simp
  have hsz : l.toArray.size = l.length := by simp
  have inv0 : HeadInv .any l.toArray n (Array.replicate l.toArray.size false) :=
    ⟨by simp, fun j oj _ hl => (by rw [getD_replicate_false] at hl; cases hl), fun t _ ht => getD_in (by simpa using ht) (getD_replicate_false _ _)⟩
  have hsplit : l.take n = l.take m ++ (l.take n).drop m := by
    have h2 := List.take_append_drop m (l.take n)
    rw [List.take_take, Nat.min_eq_left hmn] at h2
    exact h2.symm
  rw [hsplit] at h
  have h1 := wpQuiet_append _ _ _ h
  have hml : (l.take m).length = m := by simp; omega
  have hdl2 : ((l.take n).drop m).length = n - m := by simp; omega
  refine wp_region_noPanic (wp_region_held (S := fun _ => True) hmx ?_)
  have key := moves_first (md := .any) (C := fun w' => ∃ n, w' = w.drewN n) (w := { w with drawn := w.drawn + 1 }) (Q := NoPanic Q)
    (F := fun k listed => Region.lexHead .any l.toArray (l.toArray.size - n) (n - m) k listed) (g := (n - m) + (l.toArray.size - n)) hsel hmn hn ⟨1, rfl⟩ (fun c a a' w h => h)
    (fun listed a inv hm hF hL => by
      have H := anyL_lex_from (md := .any) (g := l.toArray.size - n) hsel hs hc hn ((l.take n).drop m) m listed a (fun j hj => by
        rw [hdl2] at hj
        rw [List.getElem?_drop, List.getElem?_take, if_pos (by omega)]
        simp) (by rw [hdl2]; omega) (Nat.le_refl _) inv hm (by rw [hdl2]; exact hF) hL
      have := any_of_head (C := fun w' => ∃ n, w' = w.drewN n) (Q' := NoPanic Q) (g := l.toArray.size - n) (fun listed a' w' hw' hL => by
        have := wpAny_of_seq (md := .any) (Q' := NoPanic Q) (l.drop n) n listed a' w' (fun j => by simp [List.getElem?_drop]) (by rw [hdl]; exact hL.1) (hL.2 w' hw')
        rwa [hdl] at this) _ _ _ { w with drawn := w.drawn + 1 } ⟨1, rfl⟩ H
      rwa [hdl2] at this)
    (l.take m) 0 _ a (fun j hj => by
      rw [hml] at hj
      rw [List.getElem?_take, if_pos hj]
      simp) (by rw [hml]; omega) inv0 (fun i hi => by omega) (by rw [hml]; exact hlex) h1
  rw [hml] at key
  rwa [show m + (n - m + (l.toArray.size - n)) = l.toArray.size from by omega] at key
end
end Go.Proofs.YtphifanacehppaaGreat.tail
/- Contract of slices.Clone at words. No condition but a row of at most 2^47 bytes. -/
namespace Go.Proofs.YtphifanacehppaaGreat.flash
open Go.RowKit
set_option linter.unusedVariables false

def nums (k : IntKind) (xs : List Nat) : List Value := xs.map fun x : Nat => Value.int k (x : Int)
theorem nums_length (k : IntKind) (xs : List Nat) : (nums k xs).length = xs.length := by simp [nums]
theorem nums_one (k : IntKind) (xs : List Nat) : ∀ v ∈ nums k xs, v.oneCell' = true := by intro v hv; obtain ⟨x, _, rfl⟩ := List.mem_map.1 hv; rfl
theorem nums_get (k : IntKind) (xs : List Nat) (i : Nat) (h : i < xs.length) : (nums k xs)[i]? = some (.int k ((xs.getD i 0 : Nat) : Int)) := by
  simp only [nums, List.getElem?_map, List.getD_eq_getElem?_getD, List.getElem?_eq_getElem h]; rfl
theorem reads_news {k : IntKind} {w : World} {a : Option Addr} {len : Nat} {xs : List Nat} (h : Reads k w a len xs) : len = 0 ∨ ∃ ad, a = some ad ∧ ∀ j u, (nums k xs)[j]? = some u → w.cell? (ad.add j) = some u := by
  rcases h.2 with h0 | ⟨b, off, ha, _, hc⟩
  · exact .inl h0
  · refine .inr ⟨_, ha, fun j u hu => ?_⟩
    have hj : j < xs.length := by have := (List.getElem?_eq_some_iff.1 hu).1; rwa [nums_length] at this
    rw [nums_get k xs j hj] at hu
    cases hu
    rw [Addr.add_lit]
    exact hc j (by rw [← h.1]; exact hj)
/-- the call returns a row of its own that holds the numbers xs; nil for nil -/
def Copies (t : TypeId) (k : IntKind) (a : Option Addr) (xs : List Nat) (w : World) (e : Ending) (w' : World) : Prop :=
  ∃ v, e = .returned v ∧ w'.ownsRow w.heap.size t 1 v xs.length (nums k xs) ∧ Below w.heap.size w w' ∧ (a = none → v = .slice none 0 0)
theorem u32_info : (Tryz.prog.info? 43).map (fun i => (i.zero, i.size, i.bytes)) = some (some (.int .u32 0), 1, 4) := by kernel_rfl
theorem int_info : (Tryz.prog.info? 3).map (fun i => (i.zero, i.size, i.bytes)) = some (some (.int .i64 0), 1, 8) := by kernel_rfl

theorem u32_nil (W : World) (a : Option Addr) (n c : Nat) : (binOp .eql 24 (.slice a n c) (.slice none 0 0)).run Tryz.prog W = .ok (.bool a.isNone) W := by
  have h := run_equal_slice_nil (P := Tryz.prog) W 24 43 a n c Tryz.underlying24
  simp [binOp, h, Result.andThen]
theorem u32_clone (a : Option Addr) (m c : Nat) (xs : List Nat) (w : World) (hr : Reads .u32 w a m xs) (hn : m * 4 ≤ 140737488355328) :
    Calls Tryz.prog 42 #[.slice a m c] w (Copies 43 .u32 a xs w) := by
  obtain ⟨i0, hi, hz0, hz1, hz2⟩ := info_parts u32_info
  have HM : Hid (xs.length = m) := hr.1
  cases a with
  | none =>
    have en := u32_nil w none m c
    simp only [Option.isNone_none] at en
    have h0 : m = 0 := by rcases hr.2 with h | ⟨_, _, h, _⟩; exact h; cases h
    have HX := hid h0
    clear hr h0
    go_enter Tryz.func42, Tryz.ntmps42
    go_wp2
    go_ret
    obtain rfl : xs = [] := List.eq_nil_of_length_eq_zero (HM.out.trans HX.out)
    exact ⟨_, rfl, World.ownsRow_nil _ _ _ _, Below.refl _ _, fun _ => rfl⟩
  | some ad =>
    have en := u32_nil w (some ad) m c
    simp only [Option.isNone_some] at en
    have hb : Below w.heap.size w (w.alloc (.cells #[] 43)) := (Below.refl _ _).alloc (Nat.le_refl _) _
    have HB := hid hb
    have HN := hid (reads_news (hr.below hb))
    have HU := hid (nums_length .u32 xs)
    have HN2 : Hid (0 + m ≤ maxLen) := by show _ ≤ _; unfold maxLen; omega
    have HN3 : Hid ((0 + m) * 4 ≤ 140737488355328) := by show _ ≤ _; omega
    have HO := hid (World.ownsRow_made (base := w.heap.size) (e := 43) (size := 1) w #[] 0 (Nat.le_refl _) (Nat.zero_le _) rfl)
    clear hr hb hn
    go_enter Tryz.func42, Tryz.ntmps42
    go_wp2_with (at_builtin; refine wpList_append_from rfl _ _ 24 rfl w.heap.size 43 i0 (.int .u32 0) 4 Tryz.underlying24 hi hz0 hz1 hz2 rfl (.slice (some ⟨w.heap.size, 0, none⟩) 0 0) 0 [] rfl HO.out (some ad) m c (nums .u32 xs) rfl (by rw [HU.out, HM.out]) HN.out (nums_one .u32 xs) HN2.out HN3.out HB.out.size ?_)
    intro v' w1 ho hg
    have hbl : Below w.heap.size w w1 := HB.out.grown hg HB.out.size (fun k hk => by cases hk; exact Nat.le_refl _)
    have ho' : w1.ownsRow w.heap.size 43 1 v' xs.length (nums .u32 xs) := by
      rw [HM.out]; simpa using ho
    have HO2 := hid ho'
    have HB2 := hid hbl
    clear ho ho' hbl hg
    go_wp2
    go_ret
    exact ⟨_, rfl, HO2.out, HB2.out, fun h => by cases h⟩
end Go.Proofs.YtphifanacehppaaGreat.flash
/- Contract of Read of layer 10 (frame), for every slice of words. No condition. -/
namespace Go.Proofs.YtphifanacehppaaGreat.frame
open Go.RowKit Go.Proofs.YtphifanacehppaaGreat.word Go.Proofs.YtphifanacehppaaGreat.zeros Go.Proofs.YtphifanacehppaaGreat.flash
set_option linter.unusedVariables false

/-- the call returns what r says: no frame, or a frame whose load is a row of its own -/
def ReadsAs (r : Option (Nat × Nat × List Nat)) (w : World) (e : Ending) (w' : World) : Prop :=
  match r with
  | none => e = .returned (.tuple #[.agg #[.int .i64 0, .int .i64 0, .slice none 0 0], .int .i64 0, .bool false]) ∧ Below w.heap.size w w'
  | some (k, s, L) => ∃ g cap, e = .returned (.tuple #[.agg #[.int .i64 k, .int .i64 s, .slice (some ⟨g, 0, none⟩) L.length cap], .int .i64 ((L.length + 3 : Nat) : Int), .bool true]) ∧
      w.heap.size ≤ g ∧ Row w' 43 .u32 g cap L ∧ Below w.heap.size w w'
theorem readN_cases (xs : List Nat) : (toldS xs = 0 ∧ readN xs = none) ∨ ∃ n, 1 ≤ n ∧ n ≤ 56 ∧ toldS xs = n + 3 ∧ n + 3 ≤ xs.length ∧
    ((rightB (xs.take (n + 3)) = false ∧ readN xs = none) ∨ (rightB (xs.take (n + 3)) = true ∧
      ((markB ((xs.getD 1 0 / 1073741824 : Nat) : Int) ((xs.getD 1 0 % 1073741824 : Nat) : Int) = false ∧ readN xs = none) ∨
       (markB ((xs.getD 1 0 / 1073741824 : Nat) : Int) ((xs.getD 1 0 % 1073741824 : Nat) : Int) = true ∧ readN xs = some (xs.getD 1 0 / 1073741824, xs.getD 1 0 % 1073741824, (xs.take (n + 2)).drop 2))))) := by
  rcases toldS_cases xs with h0 | ⟨n, h1, h2, h3, h4, h5⟩
  · exact .inl ⟨h0, by unfold readN; rw [if_pos h0]⟩
  · refine .inr ⟨n, h1, h2, h3, h5, ?_⟩
    have hR : readN xs = if rightB (xs.take (n + 3)) = false then none else if markB ((xs.getD 1 0 / 1073741824 : Nat) : Int) ((xs.getD 1 0 % 1073741824 : Nat) : Int) = false then none else some (xs.getD 1 0 / 1073741824, xs.getD 1 0 % 1073741824, (xs.take (n + 2)).drop 2) := by
      unfold readN
      rw [h3, if_neg (by omega)]
      rfl
    rw [hR]
    cases rightB (xs.take (n + 3)) with
    | false => exact .inl ⟨rfl, rfl⟩
    | true =>
      refine .inr ⟨rfl, ?_⟩
      cases markB ((xs.getD 1 0 / 1073741824 : Nat) : Int) ((xs.getD 1 0 % 1073741824 : Nat) : Int) with
      | false => exact .inl ⟨rfl, rfl⟩
      | true => exact .inr ⟨rfl, rfl⟩
theorem readsDrop {k : IntKind} {w : World} {b off len : Nat} {xs : List Nat} (h : Reads k w (some ⟨b, off, none⟩) len xs) (m : Nat) (hm : m ≤ len) : Reads k w (some ⟨b, off + m, none⟩) (len - m) (xs.drop m) := by
  refine ⟨by rw [List.length_drop, h.1], ?_⟩
  rcases h.2 with h0 | ⟨b', off', ha, hlt, hc⟩
  · exact .inl (by omega)
  · cases ha
    by_cases he : len - m = 0
    · exact .inl he
    · refine .inr ⟨b, off + m, rfl, hlt, fun i hi => ?_⟩
      rw [Nat.add_assoc, hc (m + i) (by omega)]
      simp only [List.getD_eq_getElem?_getD, List.getElem?_drop]
set_option maxHeartbeats 1600000 in
theorem read_any (a : Option Addr) (len cap : Nat) (xs : List Nat) (w : World) (hr : Reads .u32 w a len xs) (hx : ∀ x ∈ xs, x < 4294967296) (hlc : len ≤ cap) (hcap : cap ≤ maxLen) :
    Calls Tryz.prog 69 #[.slice a len cap] w (ReadsAs (readN xs) w) := by
  have hlen := hr.1
  have ct := fun w' (h : Reads .u32 w' a len xs) => toldF_any a len cap xs w' h hx
  have hw0 : Below w.heap.size w (w.alloc (.cells #[.int .i64 0, .int .i64 0, .slice none 0 0] 127)) := (Below.refl _ _).alloc (Nat.le_refl _) _
  have hr0 := hr.below hw0
  have hB0 : Block (w.alloc (.cells #[.int .i64 0, .int .i64 0, .slice none 0 0] 127)) w.heap.size 127 [.int .i64 0, .int .i64 0, .slice none 0 0] := Block.new w _ _
  rcases readN_cases xs with ⟨h0, h1⟩ | ⟨n, n1, n2, h3, h5, h4⟩
  · rw [h1]
    rw [h0] at ct
    unfold ReadsAs
    have HW0 := hid hw0
    clear h0 h1 hw0 hr hlen
    go_enter Tryz.func69, Tryz.ntmps69
    go_wp2_with (go_at_call 92; ((with_reducible refine (ct _ hr0).mono ?_); rintro e w' ⟨rfl, m1, rfl⟩))
    go_returns
    exact ⟨rfl, (((below_drewN HW0.out m1).setCell (p := ⟨w.heap.size, 0, none⟩) (Nat.le_refl _) _).setCell (p := ⟨w.heap.size, 1, none⟩) (Nat.le_refl _) _).setCell (p := ⟨w.heap.size, 2, none⟩) (Nat.le_refl _) _⟩
  · obtain ⟨b, off, rfl, hbs, hc⟩ := hr.at (show 0 < len by omega)
    have hx1 := getD32_lt xs hx 1
    have hp := readsTake hr0 (n + 3) (by omega)
    have cr := fun w' (h : Reads .u32 w' (some ⟨b, off, none⟩) (n + 3) (xs.take (n + 3))) => right_any (some ⟨b, off, none⟩) (n + 3) cap (xs.take (n + 3)) w' h (fun x h => hx x (List.mem_of_mem_take h)) (by omega) (by omega) hcap
    rw [h3] at ct
    have e3 : ((n + 3 : Nat) : Int) = (n : Int) + 3 := by omega
    rw [e3] at ct
    have q0 : ((n : Int) + 3 == 0) = false := by simp; omega
    have q1 : (n : Int) + 3 ≤ cap := by omega
    have HW0 := hid hw0
    have HLC := hid hlc
    have HCM := hid hcap
    have H5 := hid h5
    clear hw0 hr hlc hcap h3 h5
    rcases h4 with ⟨h6, h7⟩ | ⟨h6, h7⟩
    · rw [h7]
      rw [h6] at cr
      unfold ReadsAs
      clear h6 h7 hc
      go_enter Tryz.func69, Tryz.ntmps69
      go_wp2_with (first
        | (go_at_call 92; ((with_reducible refine (ct _ hr0).mono ?_); rintro e w' ⟨rfl, m1, rfl⟩))
        | (go_at_call 93; ((with_reducible refine (cr _ (hp.drewN _)).mono ?_); rintro e w' ⟨rfl, m2, rfl⟩)))
      go_returns
      exact ⟨rfl, (((below_drewN HW0.out _).setCell (p := ⟨w.heap.size, 0, none⟩) (Nat.le_refl _) _).setCell (p := ⟨w.heap.size, 1, none⟩) (Nat.le_refl _) _).setCell (p := ⟨w.heap.size, 2, none⟩) (Nat.le_refl _) _⟩
    · rw [h6] at cr
      have c1 : (w.alloc (.cells #[.int .i64 0, .int .i64 0, .slice none 0 0] 127)).cell? ⟨b, off + 1, none⟩ = some (.int .u32 ((xs.getD 1 0 : Nat) : Int)) :=
        (HW0.out.cell (p := ⟨b, off + 1, none⟩) hbs).trans (hc 1 (by have := H5.out; omega))
      have hrd := readsDrop (readsTake hr0 (n + 2) (by have := H5.out; omega)) 2 (by omega)
      have HLD : Hid (((xs.take (n + 2)).drop 2).length = n) := hid hrd.1
      generalize (xs.take (n + 2)).drop 2 = L at *
      generalize xs.getD 1 0 = x1 at *
      have hand : bits .and .u32 (x1 : Int) 1073741823 = ((x1 % 1073741824 : Nat) : Int) := by
        have h := u32_and_nat x1 1073741823 hx1 (by decide)
        rw [show x1 &&& 1073741823 = x1 % 2 ^ 30 from Nat.and_two_pow_sub_one_eq_mod x1 30] at h
        exact h
      have i1 : (1 : Int) < len := by have := H5.out; omega
      have e5 : ((x1 / 1073741824 : Nat) : Int) = (x1 : Int) / 1073741824 := by omega
      have e6 : ((x1 % 1073741824 : Nat) : Int) = (x1 : Int) % 1073741824 := by omega
      have cm := fun w' => marked_any ((x1 : Int) / 1073741824) ((x1 : Int) % 1073741824) w'
      rw [e5, e6] at h7
      clear hc h6
      rcases h7 with ⟨h8, h9⟩ | ⟨h8, h9⟩
      · rw [h9]
        rw [h8] at cm
        unfold ReadsAs
        clear h8 h9
        go_enter Tryz.func69, Tryz.ntmps69
        go_wp2_with (first
          | (go_at_call 92; ((with_reducible refine (ct _ hr0).mono ?_); rintro e w' ⟨rfl, m1, rfl⟩))
          | (go_at_call 93; ((with_reducible refine (cr _ (hp.drewN _)).mono ?_); rintro e w' ⟨rfl, m2, rfl⟩)))
        go_quiet (fail)
        go_wp2_with (go_at_call 94; ((with_reducible refine (cm _).mono ?_); rintro e w' ⟨rfl, m3, rfl⟩))
        go_returns
        exact ⟨rfl, (((below_drewN HW0.out _).setCell (p := ⟨w.heap.size, 0, none⟩) (Nat.le_refl _) _).setCell (p := ⟨w.heap.size, 1, none⟩) (Nat.le_refl _) _).setCell (p := ⟨w.heap.size, 2, none⟩) (Nat.le_refl _) _⟩
      · rw [h9]
        rw [h8] at cm
        unfold ReadsAs
        clear h8 h9
        go_enter Tryz.func69, Tryz.ntmps69
        go_wp2_with (first
          | (go_at_call 92; ((with_reducible refine (ct _ hr0).mono ?_); rintro e w' ⟨rfl, m1, rfl⟩))
          | (go_at_call 93; ((with_reducible refine (cr _ (hp.drewN _)).mono ?_); rintro e w' ⟨rfl, m2, rfl⟩)))
        go_quiet (fail)
        go_wp2_with (first
          | (go_at_call 94; ((with_reducible refine (cm _).mono ?_); rintro e w' ⟨rfl, m3, rfl⟩))
          | (go_at_call 42; ((with_reducible refine (u32_clone (some ⟨b, off + 2, none⟩) n (cap - 2) L _ (hrd.drewN _) (by omega)).mono ?_); rintro e w4 ⟨v, rfl, ho, hb, _⟩; obtain ⟨g, cap', rfl, hg, hrow⟩ := Row.own (k := .u32) (xs := L) ho (by rw [HLD.out]; omega); have hB4 := (hB0.drewN (m1 + m2 + nq + m3)).later hb; have k0 : w4.cell? ⟨w.heap.size, 0, none⟩ = some (.int .i64 0) := hB4.cell 0; have k1 : w4.cell? ⟨w.heap.size, 1, none⟩ = some (.int .i64 0) := hB4.cell 1; have k2 : w4.cell? ⟨w.heap.size, 2, none⟩ = some (.slice none 0 0) := hB4.cell 2; have f0 := hB4.frozen 0; have f1 := hB4.frozen 1; have f2 := hB4.frozen 2; have hB5 := hB4.setCell 0 (.int .i64 ((x1 : Int) / 1073741824)); have s0 : (w4.setCell ⟨w.heap.size, 0, none⟩ (.int .i64 ((x1 : Int) / 1073741824))).cell? ⟨w.heap.size, 0, none⟩ = some (.int .i64 ((x1 : Int) / 1073741824)) := hB5.cell 0; have hB6 := hB5.setCell 1 (.int .i64 ((x1 : Int) % 1073741824)); have s1 : ((w4.setCell ⟨w.heap.size, 0, none⟩ (.int .i64 ((x1 : Int) / 1073741824))).setCell ⟨w.heap.size, 1, none⟩ (.int .i64 ((x1 : Int) % 1073741824))).cell? ⟨w.heap.size, 1, none⟩ = some (.int .i64 ((x1 : Int) % 1073741824)) := hB6.cell 1; have hB7 := hB6.setCell 2 (.slice (some ⟨g, 0, none⟩) n cap'); have s2 : (((w4.setCell ⟨w.heap.size, 0, none⟩ (.int .i64 ((x1 : Int) / 1073741824))).setCell ⟨w.heap.size, 1, none⟩ (.int .i64 ((x1 : Int) % 1073741824))).setCell ⟨w.heap.size, 2, none⟩ (.slice (some ⟨g, 0, none⟩) n cap')).cell? ⟨w.heap.size, 2, none⟩ = some (.slice (some ⟨g, 0, none⟩) n cap') := hB7.cell 2; have hg' : w.heap.size < g := (by have h := hg; simp at h; omega); have HG := hid hg'; have HR := hid hrow; have HB : Hid (Below w.heap.size w w4) := hid ((below_drewN HW0.out _).trans (hb.mono (by simp))); clear hB4 hB5 hB6 hB7 ho hb hrow hg hg'; rw [HLD.out]))
          | fail)
        refine bodyPost_ret (by simp [results, Tryz.results69, go_sem, s0, s1, s2]; try rfl) rfl ?_
        refine ⟨g, cap', ?_, by have := HG.out; omega, ((HR.out.apart _ _ _ ?_).apart _ _ _ ?_).apart _ _ _ ?_, ((HB.out.setCell (p := ⟨w.heap.size, 0, none⟩) (Nat.le_refl _) _).setCell (p := ⟨w.heap.size, 1, none⟩) (Nat.le_refl _) _).setCell (p := ⟨w.heap.size, 2, none⟩) (Nat.le_refl _) _⟩
        · rw [HLD.out, e5, e6, e3]
        all_goals (have := HG.out; omega)
end Go.Proofs.YtphifanacehppaaGreat.frame
/- append onto a row of the call's own, from whatever slice, and where the new row lies. No condition. -/
namespace Go.Proofs.YtphifanacehppaaGreat
open Go.RowKit
set_option linter.unusedVariables false

/-- append onto a row of the call's own, from whatever slice, and where the new row lies -/
theorem wpList_append_at_from {P : Program} {w : World} {ops : Array Oper} {rest : List Oper} {o : Oper} {a : Act} {Q : Exit → Act → World → Prop} (hgd : o.guard = none) (s x : Operand) (t : TypeId)
    (ho : o.op = .call { callee := .builtin .append, args := #[s, x], argTypes := #[t, t] })
    (base : Nat) (e : TypeId) (i : TypeInfo) (z : Value) (bytes : Nat) (ht : P.underlying t = some (.slice e)) (hi : P.info? e = some i) (hz : i.zero = some z)
    (hsize : i.size = 1) (hby : i.bytes = bytes) (hzs : z.cells.size = 1)
    (v : Value) (n : Nat) (xs : List Value) (hs : a.eval s = v) (hown : w.ownsRow base e 1 v n xs)
    (ap : Option Addr) (m c : Nat) (news : List Value) (hx : a.eval x = .slice ap m c) (hl : news.length = m)
    (hnews : m = 0 ∨ ∃ ad, ap = some ad ∧ ∀ j u, news[j]? = some u → w.cell? (ad.add j) = some u) (h1 : ∀ u ∈ news, u.oneCell' = true)
    (h63 : n + m ≤ maxLen) (hbytes : (n + m) * bytes ≤ 140737488355328) (hbase : base ≤ w.heap.size)
    (h : ∀ v' w', w'.ownsRow base e 1 v' (n + m) (xs ++ news) → w.grownBy w' v.ownBlock → (v'.ownBlock = v.ownBlock ∨ v'.ownBlock = some w.heap.size) → wpList P ops Q rest (a.put o.dst v') w') : wpList P ops Q (o :: rest) a w := by
  by_cases hm : m = 0
  · subst hm
    obtain rfl : news = [] := List.eq_nil_of_length_eq_zero hl
    obtain ⟨bp, cp, rfl, hcp⟩ := ownsRow_slice hown
    have hsrc : Src P i.size t (.slice ap 0 c) 0 [] w := by
      cases ap with
      | none => exact Src.ofNil w ht c
      | some ad => exact Src.ofSlice w ht ad 0 c [] (by simp) (by simp) (by simp)
    have hrun := run_append_nothing w t t o.type e i ht hi bp n cp hcp _ hsrc
    refine wpList_plain hgd fun K hK => ?_
    unfold Oper.wp
    simp [execOp, ho, resolve, invoke, builtin, hs, hx, hrun, Result.andThen]
    exact hK _ _ (h _ w (by simpa using hown) (grown_refl _ _) (.inl rfl))
  · rcases hnews with h0 | ⟨ad, rfl, hc⟩
    · exact absurd h0 hm
    · exact wpList_append_own_at w hgd s x t ho base e i z 1 bytes ht hi hz hsize hby hzs (by decide) v n xs hs hown ad m c news hx (by omega) hc h1 h63 hbytes hbase (fun v' w' h2 h3 _ h5 => h v' w' h2 h3 h5)

end Go.Proofs.YtphifanacehppaaGreat
