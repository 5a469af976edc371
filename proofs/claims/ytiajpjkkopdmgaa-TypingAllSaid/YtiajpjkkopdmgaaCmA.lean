/- Contracts and lemmas that the claims of this seat share: Kit, Open, FieldOpen, FieldRows, FormShape, FormOpen, Arr, RowOps, Append, FieldRow. Each says its own conditions. -/
import Derived.Test.YtiajpjkkopdmgaaRows
import Derived.WalkKit
import Derived.BigQuiet
import Derived.ProofKit
import Derived.OpenShut
import Derived.ShutString
import Derived.ChangeOld
import Derived.Below
import Derived.SizedLaws
import Derived.Deep.Slices
import Derived.Deep.Strs
import Derived.Lib.SmallJoins
import Derived.Deep.MidRow
import Derived.Deep.WholeRow
import Derived.Laws.OwnMore
import Derived.Laws.CopyOwn
import Derived.Lib.AppendZerosOnto
import Derived.Lib.AppendZeros
import Derived.Lib.Overlaps
import Derived.Deep.Upon
import Derived.Maps.AppendAt
import Derived.Laws.Cover3

namespace Go.Proofs.Ytiajpjkkopdmgaa
open Go.RowKit

theorem hid {p : Prop} (h : p) : Hid p := h
theorem ret_int {k : IntKind} {a b : Int} (h : a = b) : Ending.returned (.int k a) = .returned (.int k b) := by rw [h]
theorem ret_bool {a b : Bool} (h : a = b) : Ending.returned (.bool a) = .returned (.bool b) := by rw [h]

/-- the call returns v and changes nothing; it may draw orders -/
def Quiet (v : Value) (w : World) (e : Ending) (w' : World) : Prop := e = .returned v ∧ ∃ n, w' = w.drewN n
theorem below_drewN {B : Nat} {a w : World} (h : Below B a w) (n : Nat) : Below B a (w.drewN n) :=
  ⟨h.os, h.tape, h.output, h.size, h.block⟩

theorem _root_.Go.World.ownsRow.drewN {w : World} {base e size n : Nat} {v : Value} {xs : List Value} (h : w.ownsRow base e size v n xs) (m : Nat) : (w.drewN m).ownsRow base e size v n xs := h

/-- the slice at address a, of length len, reads as the numbers xs of kind k -/
def Reads (k : IntKind) (w : World) (a : Option Addr) (len : Nat) (xs : List Nat) : Prop :=
  xs.length = len ∧ (len = 0 ∨ ∃ b off, a = some ⟨b, off, none⟩ ∧ b < w.heap.size ∧ ∀ i, i < len → w.cell? ⟨b, off + i, none⟩ = some (.int k ((xs.getD i 0 : Nat) : Int)))

theorem Reads.at {k : IntKind} {w : World} {a : Option Addr} {len : Nat} {xs : List Nat} (h : Reads k w a len xs) {i : Nat} (hi : i < len) :
    ∃ b off, a = some ⟨b, off, none⟩ ∧ b < w.heap.size ∧ ∀ i, i < len → w.cell? ⟨b, off + i, none⟩ = some (.int k ((xs.getD i 0 : Nat) : Int)) := by
  rcases h.2 with h | h
  · omega
  · exact h
theorem Reads.below {k : IntKind} {w w' : World} {a : Option Addr} {len : Nat} {xs : List Nat} (h : Reads k w a len xs) (hb : Below w.heap.size w w') : Reads k w' a len xs := by
  refine ⟨h.1, ?_⟩
  rcases h.2 with h | ⟨b, off, ha, hlt, hc⟩
  · exact .inl h
  · exact .inr ⟨b, off, ha, Nat.lt_of_lt_of_le hlt hb.size, fun i hi => by rw [hb.cell (p := ⟨b, off + i, none⟩) hlt]; exact hc i hi⟩
theorem Reads.drewN {k : IntKind} {w : World} {a : Option Addr} {len : Nat} {xs : List Nat} (h : Reads k w a len xs) (n : Nat) : Reads k (w.drewN n) a len xs :=
  h.below (below_drewN (Below.refl _ _) n)
theorem Reads.nil {k : IntKind} {w : World} {a : Option Addr} : Reads k w a 0 [] := ⟨rfl, .inl rfl⟩

/-- what the call itself made reads so -/
theorem Reads.own {k : IntKind} {w : World} {base e n : Nat} {a : Option Addr} {cap : Nat} {xs : List Nat} (h : w.ownsRow base e 1 (.slice a n cap) n (xs.map fun x : Nat => Value.int k (x : Int))) :
    Reads k w a n xs := by
  obtain ⟨hl, hr⟩ := h
  simp at hl
  refine ⟨hl, ?_⟩
  rcases hr with ⟨hv, h0⟩ | ⟨g, cap', cur, hv, _, hg, _, _, _, htake⟩
  · exact .inl h0
  · cases hv
    refine .inr ⟨g, 0, rfl, (Array.getElem?_eq_some_iff.1 hg).1, fun i hi => ?_⟩
    rw [Nat.zero_add, cell_of_row w g i cur e (0, 0) hg]
    have h2 : (cur.toList.take (n * 1))[i]? = ((xs.map fun x : Nat => Value.int k (x : Int)))[i]? := by rw [htake]
    rw [List.getElem?_take, if_pos (by omega), List.getElem?_map] at h2
    rw [Array.getElem?_toList] at h2
    rw [h2, List.getD_eq_getElem?_getD, List.getElem?_eq_getElem (by omega)]
    simp

end Go.Proofs.Ytiajpjkkopdmgaa

namespace Go.Proofs.Ytiajpjkkopdmgaa
open Go.ChangeShapes Go.WideShapes Go.ChangeAt Go.RowKit
open Go.ChangeMaps (open_string shut_string)
theorem own : ownKnob Try.prog.godebug = none := by kernel_rfl
theorem laidOut : laidOutB Try.prog = true := by kernel_rfl

/-- it returns true, and nothing that was there has turned -/
def Yes (w : World) (e : Ending) (w' : World) : Prop := e = .returned (.bool true) ∧ Below w.heap.size w w'

theorem wf_i64 (n : Int) (h : (Lit.int .i64 n).wf = true) : -9223372036854775808 ≤ n ∧ n ≤ 9223372036854775807 := by
  simp [Lit.wf, IntKind.min, IntKind.max, IntKind.signed, IntKind.bits] at h; omega

theorem ownsRow_slice {w : World} {base e size n : Nat} {v : Value} {xs : List Value} (h : w.ownsRow base e size v n xs) : ∃ a cap, v = .slice a n cap ∧ n ≤ cap := by
  rcases h.2 with ⟨hv, h0⟩ | ⟨g, cap, cur, hv, hb, hg, h1, h2, _⟩
  · exact ⟨none, 0, by rw [hv, h0], by omega⟩
  · exact ⟨_, cap, hv, h1⟩
/-- the text of a list of bytes -/
def strOf (xs : List Nat) : ByteArray := strOfNums (xs.map fun x : Nat => (x : Int))
end Go.Proofs.Ytiajpjkkopdmgaa

namespace Go.Proofs.Ytiajpjkkopdmgaa.field
open Go.ChangeShapes Go.WideShapes Go.ChangeAt Go.RowKit Go.Deep
set_option linter.unusedVariables false

structure Fd where
  (id : Int) (kind : Int) (lo : Int) (hi : Int) (most : Int)
instance : Inhabited Fd := ⟨⟨0, 0, 0, 0, 0⟩⟩
structure Fd.Good (W : World) (p : Fd) : Prop where
  unit : True
  bid : -9223372036854775808 ≤ p.id ∧ p.id ≤ 9223372036854775807
  bkind : -9223372036854775808 ≤ p.kind ∧ p.kind ≤ 9223372036854775807
  blo : -9223372036854775808 ≤ p.lo ∧ p.lo ≤ 9223372036854775807
  bhi : -9223372036854775808 ≤ p.hi ∧ p.hi ≤ 9223372036854775807
  bmost : -9223372036854775808 ≤ p.most ∧ p.most ≤ 9223372036854775807
theorem Fd.Good.below {W W' : World} {p : Fd} (h : p.Good W) (hb : Below W.heap.size W W') : p.Good W' := ⟨h.unit, h.bid, h.bkind, h.blo, h.bhi, h.bmost⟩
section
variable {H : Type} {enc : TypeId × Value → H} {P : Program} {W : World}
theorem Fd_cells {t0 t1 t2 t3 t4 : TypeId} {n : Nat} {v0 v1 v2 v3 v4 : Value} {y0 y1 y2 y3 y4 : DataW H × List MemPlace} (u0 : P.underlying t0 = some (.int .i64)) (u1 : P.underlying t1 = some (.int .i64)) (u2 : P.underlying t2 = some (.int .i64)) (u3 : P.underlying t3 = some (.int .i64)) (u4 : P.underlying t4 = some (.int .i64))
    (h0 : DataW.trod enc P W 0 (fun _ => true) true n t0 [v0] = some y0) (h1 : DataW.trod enc P W 0 (fun _ => true) true n t1 [v1] = some y1) (h2 : DataW.trod enc P W 0 (fun _ => true) true n t2 [v2] = some y2) (h3 : DataW.trod enc P W 0 (fun _ => true) true n t3 [v3] = some y3) (h4 : DataW.trod enc P W 0 (fun _ => true) true n t4 [v4] = some y4) :
    ∃ p : Fd, p.Good W ∧ v0 = .int .i64 p.id ∧ v1 = .int .i64 p.kind ∧ v2 = .int .i64 p.lo ∧ v3 = .int .i64 p.hi ∧ v4 = .int .i64 p.most := by
  obtain ⟨x0, e0, _, w0⟩ := DataW.trod_int u0 h0
  have a0 := wf_i64 _ w0
  obtain ⟨x1, e1, _, w1⟩ := DataW.trod_int u1 h1
  have a1 := wf_i64 _ w1
  obtain ⟨x2, e2, _, w2⟩ := DataW.trod_int u2 h2
  have a2 := wf_i64 _ w2
  obtain ⟨x3, e3, _, w3⟩ := DataW.trod_int u3 h3
  have a3 := wf_i64 _ w3
  obtain ⟨x4, e4, _, w4⟩ := DataW.trod_int u4 h4
  have a4 := wf_i64 _ w4
  exact ⟨⟨x0, x1, x2, x3, x4⟩, ⟨trivial, a0, a1, a2, a3, a4⟩, by simpa using e0, by simpa using e1, by simpa using e2, by simpa using e3, by simpa using e4⟩
/-- the slice at a reads as the list l -/
def Fds (w : World) (a : Option Addr) (l : List Fd) : Prop :=
  l = [] ∨ ∃ b off, a = some ⟨b, off, none⟩ ∧ b < w.heap.size ∧ ∀ i p, l[i]? = some p → w.cell? ⟨b, off + i * 5, none⟩ = some (.int .i64 p.id) ∧ w.cell? ⟨b, off + i * 5 + 1, none⟩ = some (.int .i64 p.kind) ∧ w.cell? ⟨b, off + i * 5 + 2, none⟩ = some (.int .i64 p.lo) ∧ w.cell? ⟨b, off + i * 5 + 3, none⟩ = some (.int .i64 p.hi) ∧ w.cell? ⟨b, off + i * 5 + 4, none⟩ = some (.int .i64 p.most)
theorem open_Fds {t e : TypeId} {f0 f1 f2 f3 f4 : Field} {a : Option Addr} {len cap : Nat} {d : DataW H} {pl : List MemPlace} (ht : P.underlying t = some (.slice e)) (he : P.underlying e = some (.struct #[f0, f1, f2, f3, f4])) (hone : oneCellFields P #[f0, f1, f2, f3, f4] = true) (hC : P.cellsOf e = 5)
    (u0 : P.underlying f0.type = some (.int .i64)) (u1 : P.underlying f1.type = some (.int .i64)) (u2 : P.underlying f2.type = some (.int .i64)) (u3 : P.underlying f3.type = some (.int .i64)) (u4 : P.underlying f4.type = some (.int .i64))
    (h0 : DataW.Trod enc P W 0 (fun _ => true) true t (.slice a len cap) d pl) : ∃ l : List Fd, len = l.length ∧ Fds W a l ∧ (∀ p ∈ l, p.Good W) ∧ len ≤ cap ∧ cap ≤ maxLen := by
  obtain ⟨fuel, hf⟩ := h0
  have hf2 : DataW.trod enc P W 0 (fun _ => true) true fuel t [.slice a len cap] = some (d, pl) := by simpa [Value.cells] using hf
  rcases open_slice ht hf2 with ⟨hcs, _⟩ | ⟨A, len', cap', q, n, D, Pl, hcs, _, hlc, hcm, hm, hx0, hrow⟩
  · simp at hcs
    obtain ⟨rfl, rfl, rfl⟩ := hcs
    exact ⟨[], rfl, .inl rfl, by simp, Nat.le_refl _, by unfold maxLen; omega⟩
  · simp at hcs
    obtain ⟨rfl, rfl, rfl⟩ := hcs
    simp only [if_true] at hm
    have each : ∀ r, r < len → ∃ p : Fd, p.Good W ∧ W.cell? (A.add (r * 5)) = some (.int .i64 p.id) ∧ W.cell? (A.add (r * 5 + 1)) = some (.int .i64 p.kind) ∧ W.cell? (A.add (r * 5 + 2)) = some (.int .i64 p.lo) ∧ W.cell? (A.add (r * 5 + 3)) = some (.int .i64 p.hi) ∧ W.cell? (A.add (r * 5 + 4)) = some (.int .i64 p.most) := by
      intro r hr
      obtain ⟨cs', h1, h2⟩ := hrow r (by omega)
      rw [hC] at h1
      obtain ⟨_, hlen0, hcell⟩ := World.cells?_some h1
      obtain ⟨ys, m, _, _, hl, hlen, hx⟩ := DataW.trod_struct he h2
      rw [hC] at hl
      match cs', hl with
      | [c0, c1, c2, c3, c4], _ =>
        have each : ∀ (i : Nat) (f : Field) (c : Value), #[f0, f1, f2, f3, f4][i]? = some f → [c0, c1, c2, c3, c4][i]? = some c → ∃ y, DataW.trod enc P W 0 (fun _ => true) true m f.type [c] = some y := by
          intro i f c hi hc
          obtain ⟨o, k⟩ := hone_of hone i f hi
          have hi6 : i < 5 := by have := (Array.getElem?_eq_some_iff.1 hi).1; simpa using this
          have h1 := hx i f hi
          rw [o, k] at h1
          have e : (([c0, c1, c2, c3, c4].drop i).take 1) = [c] := by
            rw [List.take_one]
            have : ([c0, c1, c2, c3, c4].drop i).head? = some c := by
              rw [List.head?_drop]; simpa using hc
            rw [this]; rfl
          rw [e] at h1
          have hy : ys[i]? = some (ys[i]'(by rw [hlen]; exact hi6)) := List.getElem?_eq_getElem _
          exact ⟨_, h1.trans hy⟩
        obtain ⟨y0, g0⟩ := each 0 f0 c0 rfl rfl
        obtain ⟨y1, g1⟩ := each 1 f1 c1 rfl rfl
        obtain ⟨y2, g2⟩ := each 2 f2 c2 rfl rfl
        obtain ⟨y3, g3⟩ := each 3 f3 c3 rfl rfl
        obtain ⟨y4, g4⟩ := each 4 f4 c4 rfl rfl
        obtain ⟨p, hp, rfl, rfl, rfl, rfl, rfl⟩ := Fd_cells u0 u1 u2 u3 u4 g0 g1 g2 g3 g4
        have k0 := hcell 0 (by omega)
        have k1 := hcell 1 (by omega)
        have k2 := hcell 2 (by omega)
        have k3 := hcell 3 (by omega)
        have k4 := hcell 4 (by omega)
        rw [add_add] at k0 k1 k2 k3 k4
        exact ⟨p, hp, by simpa using k0, by simpa using k1, by simpa using k2, by simpa using k3, by simpa using k4⟩
    obtain ⟨y, hy⟩ := choose_lt each
    refine ⟨(List.range len).map y, by simp, ?_, ?_, by omega, hcm⟩
    · by_cases hz : len = 0
      · subst hz; exact .inl rfl
      · right
        obtain ⟨b, off, spot⟩ := A
        have hc0 := (hy 0 (by omega)).2.1
        have hspot : spot = none := by simpa [Addr.add] using World.cell?_spot hc0
        subst hspot
        have hb : b < W.heap.size := by
          have := World.block_lt_of_cell? W _ hc0
          simpa [Addr.add] using this
        refine ⟨b, off, rfl, hb, fun i p hp => ?_⟩
        have hi : i < len := by have := (List.getElem?_eq_some_iff.1 hp).1; simpa using this
        simp [hi] at hp
        subst hp
        obtain ⟨_, e50, e51, e52, e53, e54⟩ := hy i hi
        rw [Addr.add_lit] at e50 e51 e52 e53 e54
        exact ⟨e50, by rw [Nat.add_assoc]; exact e51, by rw [Nat.add_assoc]; exact e52, by rw [Nat.add_assoc]; exact e53, by rw [Nat.add_assoc]; exact e54⟩
    · intro p hp
      obtain ⟨i, hi, rfl⟩ := List.mem_map.1 hp
      exact (hy i (List.mem_range.1 hi)).1
end
theorem Fds.below {w w' : World} {a : Option Addr} {l : List Fd} (h : Fds w a l) (hb : Below w.heap.size w w') : Fds w' a l := by
  rcases h with h | ⟨b, off, ha, hlt, hc⟩
  · exact .inl h
  · refine .inr ⟨b, off, ha, Nat.lt_of_lt_of_le hlt hb.size, fun i p hp => ?_⟩
    rw [hb.cell (p := ⟨b, off + i * 5, none⟩) hlt, hb.cell (p := ⟨b, off + i * 5 + 1, none⟩) hlt, hb.cell (p := ⟨b, off + i * 5 + 2, none⟩) hlt, hb.cell (p := ⟨b, off + i * 5 + 3, none⟩) hlt, hb.cell (p := ⟨b, off + i * 5 + 4, none⟩) hlt]
    exact hc i p hp
theorem Fds.at {w : World} {a : Option Addr} {l : List Fd} (h : Fds w a l) {i : Nat} (hi : i < l.length) :
    ∃ b off p, a = some ⟨b, off, none⟩ ∧ b < w.heap.size ∧ l[i]? = some p ∧ w.cell? ⟨b, off + i * 5, none⟩ = some (.int .i64 p.id) ∧ w.cell? ⟨b, off + i * 5 + 1, none⟩ = some (.int .i64 p.kind) ∧ w.cell? ⟨b, off + i * 5 + 2, none⟩ = some (.int .i64 p.lo) ∧ w.cell? ⟨b, off + i * 5 + 3, none⟩ = some (.int .i64 p.hi) ∧ w.cell? ⟨b, off + i * 5 + 4, none⟩ = some (.int .i64 p.most) := by
  rcases h with rfl | ⟨b, off, ha, hlt, hc⟩
  · simp at hi
  · have hp := List.getElem?_eq_getElem hi
    exact ⟨b, off, _, ha, hlt, hp, hc i _ hp⟩
end Go.Proofs.Ytiajpjkkopdmgaa.field

namespace Go.Proofs.Ytiajpjkkopdmgaa.field
open Go.ChangeShapes Go.WideShapes Go.ChangeAt Go.RowKit Go.Deep
set_option linter.unusedVariables false

/-- all that is asked of the type of a slice of such structs -/
def FdRow (P : Program) (t : TypeId) : Prop := ∃ (e : TypeId) (f0 f1 f2 f3 f4 : Field), P.underlying t = some (.slice e) ∧ P.underlying e = some (.struct #[f0, f1, f2, f3, f4]) ∧ oneCellFields P #[f0, f1, f2, f3, f4] = true ∧ P.cellsOf e = 5 ∧ P.underlying f0.type = some (.int .i64) ∧ P.underlying f1.type = some (.int .i64) ∧ P.underlying f2.type = some (.int .i64) ∧ P.underlying f3.type = some (.int .i64) ∧ P.underlying f4.type = some (.int .i64)
theorem open_FdRow {H : Type} {enc : TypeId × Value → H} {P : Program} {W : World} {t : TypeId} {v : Value} {n : Nat} {y : DataW H × List MemPlace} (hR : FdRow P t) (h : DataW.trod enc P W 0 (fun _ => true) true n t [v] = some y) : ∃ a cap L, v = .slice a (List.length L) cap ∧ Fds W a L ∧ (∀ p ∈ L, p.Good W) ∧ L.length ≤ cap ∧ cap ≤ maxLen := by
  obtain ⟨e, f0, f1, f2, f3, f4, ht, he, hone, hC, u0, u1, u2, u3, u4⟩ := hR
  have hv : ∃ a len cap, v = .slice a len cap := by
    rcases open_slice ht h with ⟨hcs, _⟩ | ⟨A, len, cap, m, n1, D, Pl, hcs, _⟩
    · exact ⟨none, 0, 0, by simpa using hcs⟩
    · exact ⟨_, _, _, by simpa using hcs⟩
  obtain ⟨a, len, cap, rfl⟩ := hv
  obtain ⟨L, rfl, h1, h2, h3, h4⟩ := open_Fds ht he hone hC u0 u1 u2 u3 u4 (W := W) (enc := enc) (d := y.1) (pl := y.2) ⟨n, by simpa [Value.cells] using h⟩
  exact ⟨a, cap, L, rfl, h1, h2, h3, h4⟩
theorem fdRow : FdRow Try.prog 30 := ⟨_, _, _, _, _, _, Try.underlying30, Try.underlying26, by kernel_rfl, by kernel_rfl, by kernel_rfl, by kernel_rfl, by kernel_rfl, by kernel_rfl, by kernel_rfl⟩
end Go.Proofs.Ytiajpjkkopdmgaa.field

namespace Go.Proofs.Ytiajpjkkopdmgaa.schema
open Go.ChangeShapes Go.WideShapes Go.ChangeAt Go.RowKit Go.Deep
set_option linter.unusedVariables false

structure Fm where
  (id : Int) (f : Option Addr) (fCap : Nat) (fL : List field.Fd)
instance : Inhabited Fm := ⟨⟨0, none, 0, []⟩⟩
structure Fm.Good (W : World) (p : Fm) : Prop where
  unit : True
  bid : -9223372036854775808 ≤ p.id ∧ p.id ≤ 9223372036854775807
  rf : field.Fds W p.f p.fL
  mf : ∀ y ∈ p.fL, y.Good W
  cf : p.fL.length ≤ p.fCap
  df : p.fCap ≤ maxLen
theorem Fm.Good.below {W W' : World} {p : Fm} (h : p.Good W) (hb : Below W.heap.size W W') : p.Good W' := ⟨h.unit, h.bid, h.rf.below hb, fun y hy => (h.mf y hy).below hb, h.cf, h.df⟩
section
variable {H : Type} {enc : TypeId × Value → H} {P : Program} {W : World}
theorem Fm_cells {t0 t1 : TypeId} {n : Nat} {v0 v1 : Value} {y0 y1 : DataW H × List MemPlace} (u0 : P.underlying t0 = some (.int .i64)) (u1 : field.FdRow P t1)
    (h0 : DataW.trod enc P W 0 (fun _ => true) true n t0 [v0] = some y0) (h1 : DataW.trod enc P W 0 (fun _ => true) true n t1 [v1] = some y1) :
    ∃ p : Fm, p.Good W ∧ v0 = .int .i64 p.id ∧ v1 = .slice p.f p.fL.length p.fCap := by
  obtain ⟨x0, e0, _, w0⟩ := DataW.trod_int u0 h0
  have a0 := wf_i64 _ w0
  obtain ⟨q1, c1, M1, rfl, hr1, hM1, hl1, hc1⟩ := field.open_FdRow u1 h1
  exact ⟨⟨x0, q1, c1, M1⟩, ⟨trivial, a0, hr1, hM1, hl1, hc1⟩, by simpa using e0, rfl⟩
/-- the slice at a reads as the list l -/
def Fms (w : World) (a : Option Addr) (l : List Fm) : Prop :=
  l = [] ∨ ∃ b off, a = some ⟨b, off, none⟩ ∧ b < w.heap.size ∧ ∀ i p, l[i]? = some p → w.cell? ⟨b, off + i * 2, none⟩ = some (.int .i64 p.id) ∧ w.cell? ⟨b, off + i * 2 + 1, none⟩ = some (.slice p.f p.fL.length p.fCap)
theorem open_Fms {t e : TypeId} {f0 f1 : Field} {a : Option Addr} {len cap : Nat} {d : DataW H} {pl : List MemPlace} (ht : P.underlying t = some (.slice e)) (he : P.underlying e = some (.struct #[f0, f1])) (hone : oneCellFields P #[f0, f1] = true) (hC : P.cellsOf e = 2)
    (u0 : P.underlying f0.type = some (.int .i64)) (u1 : field.FdRow P f1.type)
    (h0 : DataW.Trod enc P W 0 (fun _ => true) true t (.slice a len cap) d pl) : ∃ l : List Fm, len = l.length ∧ Fms W a l ∧ (∀ p ∈ l, p.Good W) ∧ len ≤ cap ∧ cap ≤ maxLen := by
  obtain ⟨fuel, hf⟩ := h0
  have hf2 : DataW.trod enc P W 0 (fun _ => true) true fuel t [.slice a len cap] = some (d, pl) := by simpa [Value.cells] using hf
  rcases open_slice ht hf2 with ⟨hcs, _⟩ | ⟨A, len', cap', q, n, D, Pl, hcs, _, hlc, hcm, hm, hx0, hrow⟩
  · simp at hcs
    obtain ⟨rfl, rfl, rfl⟩ := hcs
    exact ⟨[], rfl, .inl rfl, by simp, Nat.le_refl _, by unfold maxLen; omega⟩
  · simp at hcs
    obtain ⟨rfl, rfl, rfl⟩ := hcs
    simp only [if_true] at hm
    have each : ∀ r, r < len → ∃ p : Fm, p.Good W ∧ W.cell? (A.add (r * 2)) = some (.int .i64 p.id) ∧ W.cell? (A.add (r * 2 + 1)) = some (.slice p.f p.fL.length p.fCap) := by
      intro r hr
      obtain ⟨cs', h1, h2⟩ := hrow r (by omega)
      rw [hC] at h1
      obtain ⟨_, hlen0, hcell⟩ := World.cells?_some h1
      obtain ⟨ys, m, _, _, hl, hlen, hx⟩ := DataW.trod_struct he h2
      rw [hC] at hl
      match cs', hl with
      | [c0, c1], _ =>
        have each : ∀ (i : Nat) (f : Field) (c : Value), #[f0, f1][i]? = some f → [c0, c1][i]? = some c → ∃ y, DataW.trod enc P W 0 (fun _ => true) true m f.type [c] = some y := by
          intro i f c hi hc
          obtain ⟨o, k⟩ := hone_of hone i f hi
          have hi6 : i < 2 := by have := (Array.getElem?_eq_some_iff.1 hi).1; simpa using this
          have h1 := hx i f hi
          rw [o, k] at h1
          have e : (([c0, c1].drop i).take 1) = [c] := by
            rw [List.take_one]
            have : ([c0, c1].drop i).head? = some c := by
              rw [List.head?_drop]; simpa using hc
            rw [this]; rfl
          rw [e] at h1
          have hy : ys[i]? = some (ys[i]'(by rw [hlen]; exact hi6)) := List.getElem?_eq_getElem _
          exact ⟨_, h1.trans hy⟩
        obtain ⟨y0, g0⟩ := each 0 f0 c0 rfl rfl
        obtain ⟨y1, g1⟩ := each 1 f1 c1 rfl rfl
        obtain ⟨p, hp, rfl, rfl⟩ := Fm_cells u0 u1 g0 g1
        have k0 := hcell 0 (by omega)
        have k1 := hcell 1 (by omega)
        rw [add_add] at k0 k1
        exact ⟨p, hp, by simpa using k0, by simpa using k1⟩
    obtain ⟨y, hy⟩ := choose_lt each
    refine ⟨(List.range len).map y, by simp, ?_, ?_, by omega, hcm⟩
    · by_cases hz : len = 0
      · subst hz; exact .inl rfl
      · right
        obtain ⟨b, off, spot⟩ := A
        have hc0 := (hy 0 (by omega)).2.1
        have hspot : spot = none := by simpa [Addr.add] using World.cell?_spot hc0
        subst hspot
        have hb : b < W.heap.size := by
          have := World.block_lt_of_cell? W _ hc0
          simpa [Addr.add] using this
        refine ⟨b, off, rfl, hb, fun i p hp => ?_⟩
        have hi : i < len := by have := (List.getElem?_eq_some_iff.1 hp).1; simpa using this
        simp [hi] at hp
        subst hp
        obtain ⟨_, e50, e51⟩ := hy i hi
        rw [Addr.add_lit] at e50 e51
        exact ⟨e50, by rw [Nat.add_assoc]; exact e51⟩
    · intro p hp
      obtain ⟨i, hi, rfl⟩ := List.mem_map.1 hp
      exact (hy i (List.mem_range.1 hi)).1
end
theorem Fms.below {w w' : World} {a : Option Addr} {l : List Fm} (h : Fms w a l) (hb : Below w.heap.size w w') : Fms w' a l := by
  rcases h with h | ⟨b, off, ha, hlt, hc⟩
  · exact .inl h
  · refine .inr ⟨b, off, ha, Nat.lt_of_lt_of_le hlt hb.size, fun i p hp => ?_⟩
    rw [hb.cell (p := ⟨b, off + i * 2, none⟩) hlt, hb.cell (p := ⟨b, off + i * 2 + 1, none⟩) hlt]
    exact hc i p hp
theorem Fms.at {w : World} {a : Option Addr} {l : List Fm} (h : Fms w a l) {i : Nat} (hi : i < l.length) :
    ∃ b off p, a = some ⟨b, off, none⟩ ∧ b < w.heap.size ∧ l[i]? = some p ∧ w.cell? ⟨b, off + i * 2, none⟩ = some (.int .i64 p.id) ∧ w.cell? ⟨b, off + i * 2 + 1, none⟩ = some (.slice p.f p.fL.length p.fCap) := by
  rcases h with rfl | ⟨b, off, ha, hlt, hc⟩
  · simp at hi
  · have hp := List.getElem?_eq_getElem hi
    exact ⟨b, off, _, ha, hlt, hp, hc i _ hp⟩
/-- all that is asked of the type of a slice of such structs -/
def FmRow (P : Program) (t : TypeId) : Prop := ∃ (e : TypeId) (f0 f1 : Field), P.underlying t = some (.slice e) ∧ P.underlying e = some (.struct #[f0, f1]) ∧ oneCellFields P #[f0, f1] = true ∧ P.cellsOf e = 2 ∧ P.underlying f0.type = some (.int .i64) ∧ field.FdRow P f1.type
theorem open_FmRow {H : Type} {enc : TypeId × Value → H} {P : Program} {W : World} {t : TypeId} {v : Value} {n : Nat} {y : DataW H × List MemPlace} (hR : FmRow P t) (h : DataW.trod enc P W 0 (fun _ => true) true n t [v] = some y) : ∃ a cap L, v = .slice a (List.length L) cap ∧ Fms W a L ∧ (∀ p ∈ L, p.Good W) ∧ L.length ≤ cap ∧ cap ≤ maxLen := by
  obtain ⟨e, f0, f1, ht, he, hone, hC, u0, u1⟩ := hR
  have hv : ∃ a len cap, v = .slice a len cap := by
    rcases open_slice ht h with ⟨hcs, _⟩ | ⟨A, len, cap, m, n1, D, Pl, hcs, _⟩
    · exact ⟨none, 0, 0, by simpa using hcs⟩
    · exact ⟨_, _, _, by simpa using hcs⟩
  obtain ⟨a, len, cap, rfl⟩ := hv
  obtain ⟨L, rfl, h1, h2, h3, h4⟩ := open_Fms ht he hone hC u0 u1 (W := W) (enc := enc) (d := y.1) (pl := y.2) ⟨n, by simpa [Value.cells] using h⟩
  exact ⟨a, cap, L, rfl, h1, h2, h3, h4⟩
end Go.Proofs.Ytiajpjkkopdmgaa.schema

namespace Go.Proofs.Ytiajpjkkopdmgaa.schema
open Go.ChangeShapes Go.WideShapes Go.ChangeAt Go.RowKit Go.Deep
set_option linter.unusedVariables false
theorem fmRow : FmRow Try.prog 22 := ⟨_, _, _, Try.underlying22, Try.underlying52, by kernel_rfl, by kernel_rfl, by kernel_rfl, field.fdRow⟩
end Go.Proofs.Ytiajpjkkopdmgaa.schema

namespace Go.Proofs.Ytiajpjkkopdmgaa
open Go.RowKit
set_option linter.unusedVariables false

/-- block b holds just these cells, and may be written -/
def Block (w : World) (b : Nat) (t : TypeId) (cs : List Value) : Prop := w.heap[b]? = some (.cells cs.toArray t (0, 0))
theorem Block.lt {w : World} {b : Nat} {t : TypeId} {cs : List Value} (h : Block w b t cs) : b < w.heap.size := (Array.getElem?_eq_some_iff.1 h).1
theorem Block.cell {w : World} {b : Nat} {t : TypeId} {cs : List Value} (h : Block w b t cs) (j : Nat) : w.cell? ⟨b, j, none⟩ = cs[j]? := by
  rw [cell_of_row w b j cs.toArray t (0, 0) h]; simp
theorem Block.frozen {w : World} {b : Nat} {t : TypeId} {cs : List Value} (h : Block w b t cs) (j : Nat) : w.frozen? ⟨b, j, none⟩ = false := frozen_of_row w b j cs.toArray t h
theorem Block.range {w : World} {b : Nat} {t : TypeId} {cs : List Value} (h : Block w b t cs) (o : Nat) (vs : List Value) (hv : ∀ j v, vs[j]? = some v → cs[o + j]? = some v) : w.rangeAt b o vs :=
  fun j v hj => by rw [h.cell]; exact hv j v hj
theorem Block.whole {w : World} {b : Nat} {t : TypeId} {cs : List Value} (h : Block w b t cs) : w.rangeAt b 0 cs := h.range 0 cs (fun j v hj => by rw [Nat.zero_add]; exact hj)
theorem Block.there {w : World} {b : Nat} {t : TypeId} {cs : List Value} (h : Block w b t cs) (o n : Nat) (hn : o + n ≤ cs.length) : w.there b o n :=
  fun j hj => ⟨by rw [h.cell, List.getElem?_eq_getElem (by omega)]; rfl, h.frozen _⟩
theorem Block.setCell {w : World} {b : Nat} {t : TypeId} {cs : List Value} (h : Block w b t cs) (j : Nat) (v : Value) : Block (w.setCell ⟨b, j, none⟩ v) b t (cs.set j v) := by
  have := heap_setCell_same w b j cs.toArray t v h
  unfold Block
  rw [this]
  simp
/-- the cells from o on turned -/
def put (cs : List Value) : Nat → List Value → List Value
  | _, [] => cs
  | o, v :: r => put (cs.set o v) (o + 1) r
theorem put_mid (A X C Y : List Value) (h : X.length = Y.length) : put (A ++ X ++ C) A.length Y = A ++ Y ++ C := by
  induction Y generalizing A X with
  | nil => obtain rfl : X = [] := List.eq_nil_of_length_eq_zero (by simpa using h); rfl
  | cons y r ih =>
    cases X with
    | nil => simp at h
    | cons x X =>
      have e : (A ++ x :: X ++ C).set A.length y = (A ++ [y]) ++ X ++ C := by simp
      have := ih (A ++ [y]) X (by simpa using h)
      rw [put, e, show A.length + 1 = (A ++ [y]).length by simp, this]
      simp
theorem put_all (X Y : List Value) (h : X.length = Y.length) : put X 0 Y = Y := by
  have := put_mid [] X [] Y h
  simpa using this
theorem Block.setCells {b : Nat} {t : TypeId} : ∀ {vs : List Value} {o : Nat} {w : World} {cs : List Value}, Block w b t cs → Block (w.setCells b o vs) b t (put cs o vs)
  | [], _, _, _, h => h
  | v :: r, o, w, cs, h => Block.setCells (vs := r) (o := o + 1) (h.setCell o v)
theorem Block.alloc {w : World} {b : Nat} {t : TypeId} {cs : List Value} (h : Block w b t cs) (ob : Obj) : Block (w.alloc ob) b t cs := (Below.heap_alloc w ob b h.lt).trans h
theorem Block.new (w : World) (t : TypeId) (cs : List Value) : Block (w.alloc (.cells cs.toArray t)) w.heap.size t cs := heap_alloc_last w _
theorem Block.drewN {w : World} {b : Nat} {t : TypeId} {cs : List Value} (h : Block w b t cs) (n : Nat) : Block (w.drewN n) b t cs := h
theorem Block.below {w w' : World} {b B : Nat} {t : TypeId} {cs : List Value} (h : Block w b t cs) (hb : Below B w w') (hB : b < B) : Block w' b t cs := (hb.block b hB).trans h
theorem Block.later {w w' : World} {b : Nat} {t : TypeId} {cs : List Value} (h : Block w b t cs) (hb : Below w.heap.size w w') : Block w' b t cs := h.below hb h.lt
theorem Block.apart {w : World} {b : Nat} {t : TypeId} {cs : List Value} (h : Block w b t cs) (g o : Nat) (v : Value) (hg : b ≠ g) : Block (w.setCell ⟨g, o, none⟩ v) b t cs :=
  (Below.heap_setCell w ⟨g, o, none⟩ v b hg).trans h
theorem heap_setCells (g : Nat) : ∀ (vs : List Value) (o : Nat) (w : World) (k : Nat), k ≠ g → (w.setCells g o vs).heap[k]? = w.heap[k]?
  | [], _, _, _, _ => rfl
  | v :: r, o, w, k, h => (heap_setCells g r (o + 1) _ k h).trans (Below.heap_setCell w ⟨g, o, none⟩ v k h)
theorem size_setCells (g : Nat) : ∀ (vs : List Value) (o : Nat) (w : World), (w.setCells g o vs).heap.size = w.heap.size
  | [], _, _ => rfl
  | v :: r, o, w => (size_setCells g r (o + 1) _).trans (by simp)
theorem rest_setCells (g : Nat) : ∀ (vs : List Value) (o : Nat) (w : World), (w.setCells g o vs).os = w.os ∧ (w.setCells g o vs).tape = w.tape ∧ (w.setCells g o vs).output = w.output
  | [], _, _ => ⟨rfl, rfl, rfl⟩
  | v :: r, o, w => rest_setCells g r (o + 1) (w.setCell ⟨g, o, none⟩ v)
theorem Block.aparts {w : World} {b : Nat} {t : TypeId} {cs : List Value} (h : Block w b t cs) (g o : Nat) (vs : List Value) (hg : b ≠ g) : Block (w.setCells g o vs) b t cs :=
  (heap_setCells g vs o w b hg).trans h
theorem below_setCells {B g : Nat} {a w : World} (h : Below B a w) (hg : B ≤ g) (o : Nat) (vs : List Value) : Below B a (w.setCells g o vs) :=
  h.trans ⟨(rest_setCells g vs o w).1, (rest_setCells g vs o w).2.1, (rest_setCells g vs o w).2.2, by rw [size_setCells]; exact Nat.le_refl _, fun k hk => heap_setCells g vs o w k (by omega)⟩

/-- a store of a whole array; the world behind it gets a name -/
theorem wpList_store_named {P : Program} {w : World} {ops : Array Oper} {rest : List Oper} {op : Oper} {a : Act} {Q : Exit → Act → World → Prop} (hgd : op.guard = none) (ty : TypeId) (x y : Operand) (ho : op.op = .store ty x y)
    (b o : Nat) (cells : Array Value) (hx : a.eval x = .pointer (some ⟨b, o, none⟩)) (hy : a.eval y = .agg cells)
    (ht : w.there b o cells.size) (hi : (P.info? ty).map (·.size) = some cells.size) (h1 : cells.all (·.oneCell') = true)
    (h : ∀ w', Hid (w.setCells b o cells.toList = w') → wpList P ops Q rest (a.put op.dst undef) w') : wpList P ops Q (op :: rest) a w :=
  wpList_store_mid hgd ty x y ho b o cells hx hy ht hi h1 (h _ rfl)

/-- a result that is an array and lives in a variable -/
theorem results_cell {fn : Func} {p : Tmp} {ty : TypeId} {tmps : Array Value} {P : Program} {w : World} {b o : Nat} {cs : List Value} {d : TypeDesc} (h : fn.results = #[.cell p ty])
    (hp : tmps.getD p undef = .pointer (some ⟨b, o, none⟩)) (hc : w.rangeAt b o cs) (hu : P.underlying ty = some d) (hd : d.isRow = true) (hi : (P.info? ty).map (·.size) = some cs.length) :
    (results fn tmps).run P w = .ok (.agg cs.toArray) w := by
  simp only [results, h]
  simp at hp
  simp [hp, asAddr, run_loadVar_mid w b o ty cs d hc hu hd hi]

theorem ownsRow_later {w w' : World} {base e size n : Nat} {v : Value} {xs : List Value} (h : w.ownsRow base e size v n xs) (hb : Below w.heap.size w w') : w'.ownsRow base e size v n xs := by
  refine ⟨h.1, ?_⟩
  rcases h.2 with h0 | ⟨g, cap, cur, hv, h1, hg, h2, h3, h4, h5⟩
  · exact .inl h0
  · exact .inr ⟨g, cap, cur, hv, h1, (hb.block g (Array.getElem?_eq_some_iff.1 hg).1).trans hg, h2, h3, h4, h5⟩
/-- below B only block g may have changed -/
def But (B g : Nat) (w w' : World) : Prop :=
  w'.os = w.os ∧ w'.tape = w.tape ∧ w'.output = w.output ∧ w.heap.size ≤ w'.heap.size ∧ ∀ k, k < B → k ≠ g → w'.heap[k]? = w.heap[k]?
theorem But.refl (B g : Nat) (w : World) : But B g w w := ⟨rfl, rfl, rfl, Nat.le_refl _, fun _ _ _ => rfl⟩
theorem But.trans {B g : Nat} {a b c : World} (h : But B g a b) (k : But B g b c) : But B g a c :=
  ⟨k.1.trans h.1, k.2.1.trans h.2.1, k.2.2.1.trans h.2.2.1, Nat.le_trans h.2.2.2.1 k.2.2.2.1, fun j h1 h2 => (k.2.2.2.2 j h1 h2).trans (h.2.2.2.2 j h1 h2)⟩
theorem Below.but {B g : Nat} {a b : World} (h : Below B a b) : But B g a b := ⟨h.os, h.tape, h.output, h.size, fun k hk _ => h.block k hk⟩
theorem But.below {B B' g : Nat} {a b : World} (h : But B g a b) (hB : B' ≤ B) (hg : B' ≤ g) : Below B' a b := ⟨h.1, h.2.1, h.2.2.1, h.2.2.2.1, fun k hk => h.2.2.2.2 k (by omega) (by omega)⟩
theorem But.mono {B B' g : Nat} {a b : World} (h : But B g a b) (hB : B' ≤ B) : But B' g a b := ⟨h.1, h.2.1, h.2.2.1, h.2.2.2.1, fun k hk hg => h.2.2.2.2 k (by omega) hg⟩
theorem But.setCells {B g : Nat} {a w : World} (h : But B g a w) (o : Nat) (vs : List Value) : But B g a (w.setCells g o vs) :=
  h.trans ⟨(rest_setCells g vs o w).1, (rest_setCells g vs o w).2.1, (rest_setCells g vs o w).2.2, by rw [size_setCells]; exact Nat.le_refl _, fun k _ hg => heap_setCells g vs o w k hg⟩
theorem But.setCell {B g : Nat} {a w : World} (h : But B g a w) (o : Nat) (v : Value) : But B g a (w.setCell ⟨g, o, none⟩ v) := h.setCells o [v]
theorem But.step {B g : Nat} {a w w' : World} (h : But B g a w) (k : Below w.heap.size w w') (hB : B ≤ w.heap.size) : But B g a w' := h.trans (Below.but (k.mono hB))
theorem But.drewN {B g : Nat} {a w : World} (h : But B g a w) (n : Nat) : But B g a (w.drewN n) := h
theorem Block.but {w w' : World} {b B g : Nat} {t : TypeId} {cs : List Value} (h : Block w b t cs) (hb : But B g w w') (hB : b < B) (hg : b ≠ g) : Block w' b t cs := (hb.2.2.2.2 b hB hg).trans h
theorem Reads.but {k : IntKind} {w w' : World} {b off len B g : Nat} {xs : List Nat} (h : Reads k w (some ⟨b, off, none⟩) len xs) (hb : But B g w w') (hB : b < B) (hg : b ≠ g) : Reads k w' (some ⟨b, off, none⟩) len xs := by
  refine ⟨h.1, ?_⟩
  rcases h.2 with h | ⟨b', off', ha, hlt, hc⟩
  · exact .inl h
  · cases ha
    refine .inr ⟨b, off, rfl, Nat.lt_of_lt_of_le hlt hb.2.2.2.1, fun i hi => ?_⟩
    rw [World.cell?_of_block (w := w) (hb.2.2.2.2 b hB hg)]; exact hc i hi
/-- part of a block reads as numbers -/
theorem Block.reads {k : IntKind} {w : World} {b : Nat} {t : TypeId} {cs : List Value} (h : Block w b t cs) (o : Nat) (xs : List Nat) (hx : ∀ i, i < xs.length → cs[o + i]? = some (.int k ((xs.getD i 0 : Nat) : Int))) (n : Nat) (hn : xs.length = n) : Reads k w (some ⟨b, o, none⟩) n xs :=
  ⟨hn, .inr ⟨b, o, rfl, h.lt, fun i hi => by rw [h.cell]; exact hx i (by omega)⟩⟩
end Go.Proofs.Ytiajpjkkopdmgaa

namespace Go.Proofs.Ytiajpjkkopdmgaa.rows
open Go.RowKit
set_option linter.unusedVariables false
variable {P : Program} {ops : Array Oper} {rest : List Oper} {o : Oper} {a : Act} {w : World} {Q : Exit → Act → World → Prop}

theorem But.setRow (w : World) (g : Nat) (cs : Array Value) : But w.heap.size g w (w.setRow g cs) :=
  ⟨rfl, rfl, rfl, by simp, fun k _ hk => setRow_other w g k cs hk⟩
theorem block_setRow {b : Nat} {t : TypeId} {C : List Value} (h : Block w b t C) (D : List Value) : Block (w.setRow b D.toArray) b t D := setRow_heap w b C.toArray D.toArray t (0, 0) h
/-- what a copy of m elements makes -/
theorem run_copyN (w : World) (dT sT ty elem : TypeId) (i : TypeInfo) (sz : Nat) (hu : P.underlying dT = some (.slice elem)) (hi : P.info? elem = some i) (hsz : i.size = sz)
    (dp sp : Option Addr) (dLen dCap sLen sCap b off : Nat) (C : List Value) (t : TypeId) (hB : Block w b t C) (m : Nat) (hm : Nat.min sLen dLen = m) (cs : List Value) (hcl : cs.length = m * sz)
    (hpos : 0 < m → dp = some ⟨b, off, none⟩ ∧ ∃ ad, sp = some ad ∧ ∀ j v, cs[j]? = some v → w.cell? (ad.add j) = some v) (hfit : off + cs.length ≤ C.length) (h1 : ∀ v ∈ cs, v.oneCell' = true) :
    ∃ w', (Builtin.copy_ #[dT, sT] ty #[.slice dp dLen dCap, .slice sp sLen sCap]).run P w = .ok (goInt m) w' ∧ Block w' b t (splice C off cs) ∧ But w.heap.size b w w' ∧ w'.heap.size = w.heap.size := by
  subst hsz
  by_cases h0 : m = 0
  · subst h0
    obtain rfl : cs = [] := List.eq_nil_of_length_eq_zero (by simpa using hcl)
    have hl : ∀ (x : Addr), (loadCells x 0).run P w = .ok #[] w := fun x => by simpa using run_loadCells_list (P := P) w x [] (by simp)
    refine ⟨w, ?_, by simpa [splice] using hB, But.refl _ _ _, rfl⟩
    cases dp <;> cases sp <;> simp [Builtin.copy_, run_underlying hu, Builtin.lenOf, Builtin.firstCells, sizeOf, typeInfo, hi, hm, storeCells, hl]
  · obtain ⟨rfl, ad, rfl, hc⟩ := hpos (by omega)
    have hl := run_loadCells_list (P := P) w ad cs hc
    have hst := run_storeCells_at P b off t cs 0 C.toArray w hB (by simpa using hfit) h1
    refine ⟨_, ?_, block_setRow hB (splice C off cs), But.setRow _ _ _, by simp⟩
    simp [Builtin.copy_, run_underlying hu, Builtin.lenOf, Builtin.firstCells, sizeOf, typeInfo, hi, hm, ← hcl, hl, hst, splice]
theorem wpList_copyN (hgd : o.guard = none) (d s : Operand) (dT sT : TypeId) (ho : o.op = .call { callee := .builtin .copy, args := #[d, s], argTypes := #[dT, sT] })
    (elem : TypeId) (i : TypeInfo) (sz : Nat) (hu : P.underlying dT = some (.slice elem)) (hi : P.info? elem = some i) (hsz : i.size = sz)
    (dp sp : Option Addr) (dLen dCap sLen sCap : Nat) (hd : a.eval d = .slice dp dLen dCap) (hs : a.eval s = .slice sp sLen sCap) (b off : Nat) (C : List Value) (t : TypeId) (hB : Block w b t C)
    (m : Nat) (hm : Nat.min sLen dLen = m) (cs : List Value) (hcl : cs.length = m * sz)
    (hpos : 0 < m → dp = some ⟨b, off, none⟩ ∧ ∃ ad, sp = some ad ∧ ∀ j v, cs[j]? = some v → w.cell? (ad.add j) = some v) (hfit : off + cs.length ≤ C.length) (h1 : ∀ v ∈ cs, v.oneCell' = true)
    (h : ∀ w', Hid (Block w' b t (splice C off cs) ∧ But w.heap.size b w w' ∧ w'.heap.size = w.heap.size) → wpList P ops Q rest (a.put o.dst (goInt m)) w') : wpList P ops Q (o :: rest) a w := by
  obtain ⟨w', hr, h2⟩ := run_copyN (P := P) w dT sT o.type elem i sz hu hi hsz dp sp dLen dCap sLen sCap b off C t hB m hm cs hcl hpos hfit h1
  refine wpList_plain hgd fun K hK => ?_
  unfold Oper.wp
  simp [execOp, ho, resolve, invoke, builtin, hd, hs, hr, Result.andThen]
  exact hK _ _ (h w' (hid h2))
/-- append where there is room, at the head of a block -/
theorem run_append_inN (w : World) (t ty e : TypeId) (i : TypeInfo) (sz : Nat) (ht : P.underlying t = some (.slice e)) (hi : P.info? e = some i) (hsz : i.size = sz) (g sLen sCap : Nat) (C : List Value) (hB : Block w g e C)
    (sp : Option Addr) (m c : Nat) (cs : List Value) (hcl : cs.length = m * sz) (hpos : 0 < m → ∃ ad, sp = some ad ∧ ∀ j v, cs[j]? = some v → w.cell? (ad.add j) = some v) (h1 : ∀ v ∈ cs, v.oneCell' = true)
    (hroom : sLen + m ≤ sCap) (hfit : sLen * sz + cs.length ≤ C.length) :
    ∃ w', (Builtin.append_ #[t, t] ty #[.slice (some ⟨g, 0, none⟩) sLen sCap, .slice sp m c]).run P w = .ok (.slice (some ⟨g, 0, none⟩) (sLen + m) sCap) w' ∧ Block w' g e (splice C (sLen * sz) cs) ∧ But w.heap.size g w w' ∧ w'.heap.size = w.heap.size := by
  subst hsz
  by_cases h0 : m = 0
  · subst h0
    obtain rfl : cs = [] := List.eq_nil_of_length_eq_zero (by simpa using hcl)
    have hl : ∀ (x : Addr), (loadCells x 0).run P w = .ok #[] w := fun x => by simpa using run_loadCells_list (P := P) w x [] (by simp)
    have hr : sLen ≤ sCap := by omega
    refine ⟨w, ?_, by simpa [splice] using hB, But.refl _ _ _, rfl⟩
    cases sp <;> simp [Builtin.append_, run_underlying ht, Builtin.lenOf, Builtin.firstCells, sizeOf, typeInfo, hi, hr, storeCells, hl]
  · obtain ⟨ad, rfl, hc⟩ := hpos (by omega)
    refine ⟨_, run_append_room (P := P) w t ty e i ht hi g sLen sCap C.toArray hB ad m c cs hcl hc h1 hroom (by simpa using hfit), ?_, But.setRow _ _ _, by simp⟩
    have := block_setRow hB (splice C (sLen * i.size) cs)
    simpa [splice] using this
theorem wpList_append_inN (hgd : o.guard = none) (s x : Operand) (t : TypeId) (ho : o.op = .call { callee := .builtin .append, args := #[s, x], argTypes := #[t, t] })
    (e : TypeId) (i : TypeInfo) (sz : Nat) (ht : P.underlying t = some (.slice e)) (hi : P.info? e = some i) (hsz : i.size = sz) (g sLen sCap : Nat) (hs : a.eval s = .slice (some ⟨g, 0, none⟩) sLen sCap) (C : List Value) (hB : Block w g e C)
    (sp : Option Addr) (m c : Nat) (hx : a.eval x = .slice sp m c) (cs : List Value) (hcl : cs.length = m * sz) (hpos : 0 < m → ∃ ad, sp = some ad ∧ ∀ j v, cs[j]? = some v → w.cell? (ad.add j) = some v) (h1 : ∀ v ∈ cs, v.oneCell' = true)
    (hroom : sLen + m ≤ sCap) (hfit : sLen * sz + cs.length ≤ C.length)
    (h : ∀ w', Hid (Block w' g e (splice C (sLen * sz) cs) ∧ But w.heap.size g w w' ∧ w'.heap.size = w.heap.size) → wpList P ops Q rest (a.put o.dst (.slice (some ⟨g, 0, none⟩) (sLen + m) sCap)) w') : wpList P ops Q (o :: rest) a w := by
  obtain ⟨w', hr, h2⟩ := run_append_inN (P := P) w t o.type e i sz ht hi hsz g sLen sCap C hB sp m c cs hcl hpos h1 hroom hfit
  refine wpList_plain hgd fun K hK => ?_
  unfold Oper.wp
  simp [execOp, ho, resolve, invoke, builtin, hs, hx, hr, Result.andThen]
  exact hK _ _ (h w' (hid h2))
/-- append of zero elements where there is no room: a new block -/
theorem wpList_append_zerosN (hgd : o.guard = none) (s x : Operand) (t tn : TypeId) (ho : o.op = .call { callee := .builtin .append, args := #[s, x], argTypes := #[t, tn] })
    (e : TypeId) (i : TypeInfo) (z : Value) (sz bytes : Nat) (ht : P.underlying t = some (.slice e)) (htn : P.underlying tn = some (.int .i64)) (hi : P.info? e = some i) (hz : i.zero = some z) (hsz : i.size = sz) (hby : i.bytes = bytes) (hzs : z.cells.size = sz) (h0z : 0 < sz)
    (g sLen sCap : Nat) (hs : a.eval s = .slice (some ⟨g, 0, none⟩) sLen sCap) (k : Nat) (x0 : Int) (hx : a.eval x = .int .i64 x0) (hk : x0 = k) (h0 : 0 < k) (C : List Value) (hB : Block w g e C) (hfit : sLen * sz ≤ C.length) (hg : sCap < sLen + k) (hcap : sLen ≤ sCap)
    (hbytes : (sLen + k) * bytes ≤ 140737488355328) (h63 : sLen + k ≤ maxLen)
    (h : ∀ G R w', Hid (Block w' w.heap.size e (C.take (sLen * sz) ++ R) ∧ R.length = (G - sLen) * sz ∧ sLen + k ≤ G ∧ G ≤ maxLen ∧ Below w.heap.size w w' ∧ w.heap.size < w'.heap.size) →
      wpList P ops Q rest (a.put o.dst (.slice (some ⟨w.heap.size, 0, none⟩) (sLen + k) G)) w') : wpList P ops Q (o :: rest) a w := by
  subst hk
  subst hsz
  subst hby
  have hold : (Builtin.firstCells i.size sLen (.slice (some ⟨g, 0, none⟩) sLen sCap)).run P w.drew = .ok (C.take (sLen * i.size)).toArray w.drew :=
    run_firstCells_some w.drew i.size sLen ⟨g, 0, none⟩ sLen sCap _ (by rw [List.length_take]; omega) (fun j v hj => by
      rw [Addr.add_lit, Nat.zero_add]
      have hb : Block w.drew g e C := hB
      rw [hb.cell j]
      rw [List.getElem?_take] at hj
      split at hj
      · exact hj
      · cases hj)
  have hf := growslice_fits (bytes := i.bytes) hg hbytes
  have hr := Lib.run_append_grow_zeros (P := P) w t tn o.type e i z .i64 .i64 ht htn hi hz (some ⟨g, 0, none⟩) sLen sCap (C.take (sLen * i.size)) hold k h0 h0z hg (by unfold maxLen at h63; omega) (by
    have : k * i.bytes ≤ (sLen + k) * i.bytes := Nat.mul_le_mul_right _ (by omega)
    omega) hf
  refine Lib.wpList_append_run w hgd s x t tn ho _ _ hs hx _ _ hr (h _ (Builtin.zeroCells z.cells k ++ Builtin.zeroCells z.cells (grownCap w (sLen + k) sCap e - (sLen + k))).toList _ (hid ⟨?_, ?_, grownCap_ge w _ _ _, grownCap_le_maxLen w _ _ _ h63, ?_, by simp⟩))
  · have := heap_alloc_new w.drew (.cells ((C.take (sLen * i.size)).toArray ++ Builtin.zeroCells z.cells k ++ Builtin.zeroCells z.cells (grownCap w (sLen + k) sCap e - (sLen + k))) e)
    show _ = _
    rw [show w.drew.heap.size = w.heap.size from rfl] at this
    rw [this]
    simp
  · have hge := grownCap_ge w (sLen + k) sCap e
    simp only [Array.toList_append, List.length_append, Array.length_toList, size_zeroCells, hzs]
    rw [← Nat.add_mul]
    congr 1
    omega
  · exact ⟨rfl, rfl, rfl, by simp, fun j hj => Go.heap_alloc_old w.drew _ hj⟩
/-- clear: n elements become zero -/
theorem wpList_clearN (hgd : o.guard = none) (x : Operand) (t : TypeId) (ho : o.op = .call { callee := .builtin .clear, args := #[x], argTypes := #[t] })
    (e : TypeId) (i : TypeInfo) (z : Value) (sz : Nat) (ht : P.underlying t = some (.slice e)) (hi : P.info? e = some i) (hz : i.zero = some z) (hzs : z.cells.size = sz) (hz1 : ∀ v ∈ z.cells.toList, v.oneCell' = true) (h0z : 0 < sz)
    (ap : Option Addr) (n c : Nat) (hx : a.eval x = .slice ap n c) (b off : Nat) (C : List Value) (bt : TypeId) (hB : Block w b bt C) (hp : 0 < n → ap = some ⟨b, off, none⟩) (hfit : off + n * sz ≤ C.length)
    (h : ∀ Z w', Hid (Z.length = n * sz ∧ Block w' b bt (splice C off Z) ∧ But w.heap.size b w w' ∧ w'.heap.size = w.heap.size) → wpList P ops Q rest (a.put o.dst (.tuple #[])) w') : wpList P ops Q (o :: rest) a w := by
  subst hzs
  have hrun : ∃ Z w', (Builtin.clear_ #[t] o.type #[.slice ap n c]).run P w = .ok (.tuple #[]) w' ∧ Z.length = n * z.cells.size ∧ Block w' b bt (splice C off Z) ∧ But w.heap.size b w w' ∧ w'.heap.size = w.heap.size := by
    by_cases h0 : n = 0
    · subst h0
      refine ⟨[], w, ?_, by simp, by simpa [splice] using hB, But.refl _ _ _, rfl⟩
      cases ap <;> simp [Builtin.clear_, run_underlying ht]
    · obtain rfl := hp (by omega)
      have hlen : (Builtin.zeroCells z.cells n).toList.length = n * z.cells.size := by rw [Array.length_toList, size_zeroCells]
      have hone : ∀ v ∈ (Builtin.zeroCells z.cells n).toList, v.oneCell' = true := by
        intro v hv
        simp only [Builtin.zeroCells, Array.toList_map, List.mem_map] at hv
        obtain ⟨j, _, rfl⟩ := hv
        have hlt : j % z.cells.size < z.cells.size := Nat.mod_lt _ h0z
        rw [getElem!_pos z.cells _ hlt]
        exact hz1 _ (by simp)
      have hst := run_storeCells_at P b off bt (Builtin.zeroCells z.cells n).toList 0 C.toArray w hB (by simpa [hlen] using hfit) hone
      refine ⟨_, _, ?_, hlen, block_setRow hB (splice C off (Builtin.zeroCells z.cells n).toList), But.setRow _ _ _, by simp⟩
      have hn : n ≠ 0 := h0
      simp only [Nat.add_zero] at hst
      simp [Builtin.clear_, run_underlying ht, zeroValue, typeInfo, hi, hz, hst, splice]
      first | done | (split <;> simp_all)
  obtain ⟨Z, w', hr, h2⟩ := hrun
  refine wpList_plain hgd fun K hK => ?_
  unfold Oper.wp
  simp [execOp, ho, resolve, invoke, builtin, hx, hr, Result.andThen]
  exact hK _ _ (h Z w' (hid h2))

theorem splice_take {α : Type} (C : List α) (p : Nat) (V : List α) (hp : p ≤ C.length) : (splice C p V).take (p + V.length) = C.take p ++ V := by
  unfold splice
  rw [← List.append_assoc]
  have : (C.take p ++ V).length = p + V.length := by simp; omega
  rw [← this]
  exact List.take_left
theorem splice_head {α : Type} (C : List α) (p : Nat) (V : List α) (q : Nat) (hq : q ≤ p) (hp : p ≤ C.length) : (splice C p V).take q = C.take q := by
  unfold splice
  rw [List.take_append_of_le_length (by simp; omega), List.take_take, Nat.min_eq_left hq]
theorem splice_drop {α : Type} (C : List α) (p : Nat) (V : List α) (hp : p ≤ C.length) : (splice C p V).drop p = V ++ C.drop (p + V.length) := by
  unfold splice
  have h : (C.take p).length = p := by simp; omega
  have h2 := List.drop_left (l₁ := C.take p) (l₂ := V ++ C.drop (p + V.length))
  rw [h] at h2
  exact h2
/-- X2 to its later place, then V before it -/
theorem two {α : Type} (C : List α) (p : Nat) (V X2 : List α) (hC : p + V.length + X2.length ≤ C.length) :
    (splice (splice C (p + V.length) X2) p V).take (p + V.length + X2.length) = C.take p ++ V ++ X2 := by
  have hl : (splice C (p + V.length) X2).length = C.length := length_splice _ _ _ hC
  conv => lhs; unfold splice
  have e1 : (splice C (p + V.length) X2).take p = C.take p := splice_head _ _ _ _ (by omega) (by omega)
  have e2 : (splice C (p + V.length) X2).drop (p + V.length) = X2 ++ C.drop (p + V.length + X2.length) := splice_drop _ _ _ (by omega)
  unfold splice at e1 e2
  rw [e1, e2]
  have h3 : (C.take p ++ V ++ X2).length = p + V.length + X2.length := by simp; omega
  rw [show C.take p ++ (V ++ (X2 ++ C.drop (p + V.length + X2.length))) = (C.take p ++ V ++ X2) ++ C.drop (p + V.length + X2.length) by simp, ← h3]
  exact List.take_left
/-- V, then X2 behind it -/
theorem two' {α : Type} (C : List α) (p : Nat) (V X2 : List α) (hC : p + V.length + X2.length ≤ C.length) :
    (splice (splice C p V) (p + V.length) X2).take (p + V.length + X2.length) = C.take p ++ V ++ X2 := by
  have hl : (splice C p V).length = C.length := length_splice _ _ _ (by omega)
  rw [splice_take _ _ _ (by omega), splice_take _ _ _ (by omega)]
/-- a row of the call's own, out of its block -/
theorem own_of {base sz n cap g : Nat} {C xs : List Value} {w : World} {t : TypeId} (hB : Block w g t C) (hb : base ≤ g) (hn : n ≤ cap) (hc : cap ≤ maxLen) (hl : C.length = cap * sz) (ht : C.take (n * sz) = xs) :
    w.ownsRow base t sz (.slice (some ⟨g, 0, none⟩) n cap) n xs := by
  refine ⟨?_, .inr ⟨g, cap, C.toArray, rfl, hb, hB, hn, hc, by simpa using hl, by simpa using ht⟩⟩
  rw [← ht, List.length_take, hl]
  exact Nat.min_eq_left (Nat.mul_le_mul_right _ hn)
theorem grown_of_but {w w' : World} {g : Nat} {v : Value} (h : But w.heap.size g w w') (hv : v.ownBlock = some g) : w.grownBy w' v.ownBlock :=
  ⟨h.1, h.2.1, h.2.2.1, h.2.2.2.1, fun k hk hne => h.2.2.2.2 k hk (fun e => hne (by rw [hv, e]))⟩
theorem grown_of_below {w w' : World} {row : Option Nat} (h : Below w.heap.size w w') : w.grownBy w' row := ⟨h.os, h.tape, h.output, h.size, fun k hk _ => h.block k hk⟩
/-- two slices in two plain blocks do not overlap -/
theorem run_overlapsN {P : Program} (w : World) (tS tR e : TypeId) (ht : P.underlying tS = some (.slice e)) (i : TypeInfo) (hi : P.info? e = some i) (a b : Addr) (la ca lb cb : Nat) (hne : a.block ≠ b.block)
    (tA tB : TypeId) (A B : List Value) (hA : Block w a.block tA A) (hB : Block w b.block tB B) (hl : B ≠ []) :
    (Extern.SlicesOverlaps.overlaps #[tS, tS] #[tR] #[.slice (some a) la ca, .slice (some b) lb cb]).run P w = .ok (.bool false) w := by
  have hsA : w.shape? a.block = some (tA, A.length) := by
    have : w.heap[a.block]? = _ := hA
    simp [World.shape?, this]
  have hsB : w.shape? b.block = some (tB, B.length) := by
    have : w.heap[b.block]? = _ := hB
    simp [World.shape?, this]
  refine Lib.run_overlaps_apart w tS tR e ht i.size (fun w => by simp [sizeOf, typeInfo, hi]) a b la ca lb cb hne tA tB A.length B.length hsA hsB (by cases B with | nil => exact absurd rfl hl | cons x l => simp) ?_ (hA.frozen A.length)
  obtain ⟨ab, ao, asp⟩ := a
  have : w.heap[ab]? = _ := hA
  simp [World.frozen?, this]
end Go.Proofs.Ytiajpjkkopdmgaa.rows

namespace Go.Proofs.Ytiajpjkkopdmgaa
open Go.RowKit
set_option linter.unusedVariables false

theorem ownsRow_heap {w w' : World} {base e size n : Nat} {v : Value} {xs : List Value} (h : w.ownsRow base e size v n xs) (hh : ∀ g, v.ownBlock = some g → w'.heap[g]? = w.heap[g]?) : w'.ownsRow base e size v n xs := by
  refine ⟨h.1, ?_⟩
  rcases h.2 with h0 | ⟨g, cap, cur, hv, h1, hg, h2, h3, h4, h5⟩
  · exact .inl h0
  · exact .inr ⟨g, cap, cur, hv, h1, (hh g (by rw [hv]; rfl)).trans hg, h2, h3, h4, h5⟩
theorem grown_refl (w : World) (row : Option Nat) : w.grownBy w row := ⟨rfl, rfl, rfl, Nat.le_refl _, fun _ _ _ => rfl⟩
end Go.Proofs.Ytiajpjkkopdmgaa

namespace Go.Proofs.Ytiajpjkkopdmgaa.schema
open Go.RowKit
set_option linter.unusedVariables false

/-- the cells of fields -/
def fdC (p : field.Fd) : List Value := [.int .i64 p.id, .int .i64 p.kind, .int .i64 p.lo, .int .i64 p.hi, .int .i64 p.most]
def fdV : List field.Fd → List Value
  | [] => []
  | p :: L => fdC p ++ fdV L
theorem fdV_append : ∀ a b, fdV (a ++ b) = fdV a ++ fdV b
  | [], _ => rfl
  | p :: a, b => by rw [List.cons_append, fdV, fdV, fdV_append a b, List.append_assoc]
theorem fdV_length : ∀ L, (fdV L).length = L.length * 5
  | [] => rfl
  | p :: L => by rw [fdV]; simp only [fdC, List.length_append, List.length_cons, List.length_nil, fdV_length L]; omega
theorem fdV_one : ∀ L, ∀ u ∈ fdV L, u.oneCell' = true
  | [], u, h => by simp [fdV] at h
  | p :: L, u, h => by
    rw [fdV, List.mem_append] at h
    rcases h with h | h
    · simp [fdC] at h; rcases h with rfl | rfl | rfl | rfl | rfl <;> rfl
    · exact fdV_one L u h
theorem fdV_get : ∀ (L : List field.Fd) (j : Nat) (u : Value), (fdV L)[j]? = some u → ∃ i p c, L[i]? = some p ∧ j = i * 5 + c ∧ c < 5 ∧ (fdC p)[c]? = some u
  | [], j, u, h => by simp [fdV] at h
  | p :: L, j, u, h => by
    rw [fdV] at h
    by_cases hj : j < 5
    · rw [List.getElem?_append_left (by simp [fdC]; omega)] at h
      exact ⟨0, p, j, rfl, by omega, hj, h⟩
    · rw [List.getElem?_append_right (by simp [fdC]; omega)] at h
      obtain ⟨i, q, c, h1, h2, h3, h4⟩ := fdV_get L _ u h
      simp only [fdC, List.length_cons, List.length_nil] at h2
      exact ⟨i + 1, q, c, by simpa using h1, by omega, h3, h4⟩
theorem fdV_at : ∀ (L : List field.Fd) (i : Nat) (p : field.Fd) (c : Nat), L[i]? = some p → c < 5 → (fdV L)[i * 5 + c]? = (fdC p)[c]?
  | [], i, p, c, h, _ => by simp at h
  | q :: L, 0, p, c, h, hc => by
    simp at h; subst h
    rw [fdV, List.getElem?_append_left (by simp [fdC]; omega)]
    simp
  | q :: L, i + 1, p, c, h, hc => by
    rw [fdV, List.getElem?_append_right (by simp [fdC]; omega)]
    rw [← fdV_at L i p c (by simpa using h) hc]
    congr 1
    simp only [fdC, List.length_cons, List.length_nil]; omega
/-- what lies in fields that came in, as the cells of a row -/
theorem fds_news {w : World} {a : Option Addr} {L : List field.Fd} (h : field.Fds w a L) : L.length = 0 ∨ ∃ ad, a = some ad ∧ ∀ j u, (fdV L)[j]? = some u → w.cell? (ad.add j) = some u := by
  rcases h with h | ⟨b, off, ha, hlt, hc⟩
  · exact .inl (by rw [h]; rfl)
  · refine .inr ⟨_, ha, fun j u hj => ?_⟩
    obtain ⟨i, p, c, h1, rfl, h3, h4⟩ := fdV_get L j u hj
    obtain ⟨c0, c1, c2, c3, c4⟩ := hc i p h1
    rw [Addr.add_lit]
    match c, h3, h4 with
    | 0, _, h4 => rw [show (some u) = some (.int .i64 p.id) from h4.symm.trans rfl]; exact c0
    | 1, _, h4 => rw [show (some u) = some (.int .i64 p.kind) from h4.symm.trans rfl, ← Nat.add_assoc]; exact c1
    | 2, _, h4 => rw [show (some u) = some (.int .i64 p.lo) from h4.symm.trans rfl, ← Nat.add_assoc]; exact c2
    | 3, _, h4 => rw [show (some u) = some (.int .i64 p.hi) from h4.symm.trans rfl, ← Nat.add_assoc]; exact c3
    | 4, _, h4 => rw [show (some u) = some (.int .i64 p.most) from h4.symm.trans rfl, ← Nat.add_assoc]; exact c4
/-- a row of the call's own reads as fields -/
theorem own_fds {w : World} {base n : Nat} {a : Option Addr} {cap : Nat} {L : List field.Fd} {e : TypeId} (h : w.ownsRow base e 5 (.slice a n cap) n (fdV L)) : field.Fds w a L ∧ n = L.length ∧ n ≤ cap := by
  obtain ⟨hl, hr⟩ := h
  have hn : n = L.length := by have := fdV_length L; rw [hl] at this; omega
  rcases hr with ⟨hv, h0⟩ | ⟨b, cap', cur, hv, _, hg, hcp, _, _, htake⟩
  · cases hv
    exact ⟨.inl (List.eq_nil_of_length_eq_zero (by omega)), hn, by omega⟩
  · cases hv
    refine ⟨.inr ⟨b, 0, rfl, (Array.getElem?_eq_some_iff.1 hg).1, fun i p hp => ?_⟩, hn, hcp⟩
    have hi : i < L.length := (List.getElem?_eq_some_iff.1 hp).1
    have key : ∀ c x, c < 5 → (fdC p)[c]? = some x → w.cell? ⟨b, 0 + (i * 5 + c), none⟩ = some x := by
      intro c x hc hx
      have h1 := fdV_at L i p c hp hc
      rw [hx, ← htake, List.getElem?_take, if_pos (by omega)] at h1
      rw [cell_of_row w b _ cur _ _ hg, Nat.zero_add, ← h1, Array.getElem?_toList]
    exact ⟨key 0 _ (by omega) rfl, key 1 _ (by omega) rfl, key 2 _ (by omega) rfl, key 3 _ (by omega) rfl, key 4 _ (by omega) rfl⟩
theorem fd_info : (Try.prog.info? 26).map (fun i => (i.zero, i.size, i.bytes)) = some (some (.agg #[.int .i64 0, .int .i64 0, .int .i64 0, .int .i64 0, .int .i64 0]), 5, 40) := by kernel_rfl
theorem fd_info_parts : ∃ i, Try.prog.info? 26 = some i ∧ i.zero = some (.agg #[.int .i64 0, .int .i64 0, .int .i64 0, .int .i64 0, .int .i64 0]) ∧ i.size = 5 ∧ i.bytes = 40 := by
  obtain ⟨i, hi, he⟩ := Option.map_eq_some_iff.1 fd_info
  simp only [Prod.mk.injEq] at he
  exact ⟨i, hi, he.1, he.2.1, he.2.2⟩
theorem wpList_append_fromN {P : Program} {w : World} {ops : Array Oper} {rest : List Oper} {o : Oper} {a : Act} {Q : Exit → Act → World → Prop} (hgd : o.guard = none) (s x : Operand) (t : TypeId)
    (ho : o.op = .call { callee := .builtin .append, args := #[s, x], argTypes := #[t, t] })
    (base : Nat) (e : TypeId) (i : TypeInfo) (z : Value) (size bytes : Nat) (ht : P.underlying t = some (.slice e)) (hi : P.info? e = some i) (hz : i.zero = some z)
    (hsize : i.size = size) (hby : i.bytes = bytes) (hzs : z.cells.size = size) (hsz : 0 < size)
    (v : Value) (n : Nat) (xs : List Value) (hs : a.eval s = v) (hown : w.ownsRow base e size v n xs)
    (ap : Option Addr) (m c : Nat) (news : List Value) (hx : a.eval x = .slice ap m c) (hl : news.length = m * size)
    (hnews : m = 0 ∨ ∃ ad, ap = some ad ∧ ∀ j u, news[j]? = some u → w.cell? (ad.add j) = some u) (h1 : ∀ u ∈ news, u.oneCell' = true)
    (h63 : n + m ≤ maxLen) (hbytes : (n + m) * bytes ≤ 140737488355328) (hbase : base ≤ w.heap.size)
    (h : ∀ v' w', w'.ownsRow base e size v' (n + m) (xs ++ news) → w.grownBy w' v.ownBlock → wpList P ops Q rest (a.put o.dst v') w') : wpList P ops Q (o :: rest) a w := by
  by_cases hm : m = 0
  · subst hm
    obtain rfl : news = [] := List.eq_nil_of_length_eq_zero (by omega)
    obtain ⟨bp, cp, rfl, hcp⟩ := ownsRow_slice hown
    have hsrc : Src P i.size t (.slice ap 0 c) 0 [] w := by
      cases ap with
      | none => exact Src.ofNil w ht c
      | some ad => exact Src.ofSlice w ht ad 0 c [] (by simp) (by simp) (by simp)
    have hrun := run_append_nothing w t t o.type e i ht hi bp n cp hcp _ hsrc
    refine wpList_plain hgd fun K hK => ?_
    unfold Oper.wp
    simp [execOp, ho, resolve, invoke, builtin, hs, hx, hrun, Result.andThen]
    exact hK _ _ (h _ w (by simpa using hown) (grown_refl _ _))
  · rcases hnews with h0 | ⟨ad, rfl, hc⟩
    · exact absurd h0 hm
    · exact wpList_append_own w hgd s x t ho base e i z size bytes ht hi hz hsize hby hzs hsz v n xs hs hown ad m c news hx hl hc h1 h63 hbytes hbase (fun v' w' h2 h3 _ => h v' w' h2 h3)
end Go.Proofs.Ytiajpjkkopdmgaa.schema
