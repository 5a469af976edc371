/- Contracts and lemmas that the claims of this seat share: Kit, Open, FieldOpen, FieldRows, FormShape, FormOpen, IntRows, ValueOpen, StepOpen, SchemaOpen, FieldMath, PenMath. Each says its own conditions. -/
import Derived.Test.YtaciegkblklokaaGreatRows
import Derived.WalkKit
import Derived.BigQuiet
import Derived.ProofKit
import Derived.OpenShut
import Derived.ShutString
import Derived.ChangeOld
import Derived.Below
import Derived.SizedLaws
import Derived.Deep.Slices
import Derived.Deep.Strs
import Derived.Lib.SmallJoins
import Derived.Lib.AppendStr
set_option linter.unusedVariables false
namespace Go.Proofs.YtaciegkblklokaaGreat
open Go.RowKit
theorem hid {p : Prop} (h : p) : Hid p := h
theorem ret_int {k : IntKind} {a b : Int} (h : a = b) : Ending.returned (.int k a) = .returned (.int k b) := by rw [h]
theorem ret_bool {a b : Bool} (h : a = b) : Ending.returned (.bool a) = .returned (.bool b) := by rw [h]
def Quiet (v : Value) (w : World) (e : Ending) (w' : World) : Prop := e = .returned v ∧ ∃ n, w' = w.drewN n
theorem below_drewN {B : Nat} {a w : World} (h : Below B a w) (n : Nat) : Below B a (w.drewN n) :=
 ⟨h.os, h.tape, h.output, h.size, h.block⟩
theorem _root_.Go.World.ownsRow.drewN {w : World} {base e size n : Nat} {v : Value} {xs : List Value} (h : w.ownsRow base e size v n xs) (m : Nat) : (w.drewN m).ownsRow base e size v n xs := h
def Reads (k : IntKind) (w : World) (a : Option Addr) (len : Nat) (xs : List Nat) : Prop :=
 xs.length = len ∧ (len = 0 ∨ ∃ b off, a = some ⟨b, off, none⟩ ∧ b < w.heap.size ∧ ∀ i, i < len → w.cell? ⟨b, off + i, none⟩ = some (.int k ((xs.getD i 0 : Nat) : Int)))
theorem Reads.at {k : IntKind} {w : World} {a : Option Addr} {len : Nat} {xs : List Nat} (h : Reads k w a len xs) {i : Nat} (hi : i < len) :
  ∃ b off, a = some ⟨b, off, none⟩ ∧ b < w.heap.size ∧ ∀ i, i < len → w.cell? ⟨b, off + i, none⟩ = some (.int k ((xs.getD i 0 : Nat) : Int)) := by
 rcases h.2 with h | h
 ·omega
 ·exact h
theorem Reads.below {k : IntKind} {w w' : World} {a : Option Addr} {len : Nat} {xs : List Nat} (h : Reads k w a len xs) (hb : Below w.heap.size w w') : Reads k w' a len xs := by
 refine ⟨h.1, ?_⟩
 rcases h.2 with h | ⟨b, off, ha, hlt, hc⟩
 ·exact .inl h
 ·exact .inr ⟨b, off, ha, Nat.lt_of_lt_of_le hlt hb.size, fun i hi => by rw [hb.cell (p := ⟨b, off + i, none⟩) hlt]; exact hc i hi⟩
theorem Reads.drewN {k : IntKind} {w : World} {a : Option Addr} {len : Nat} {xs : List Nat} (h : Reads k w a len xs) (n : Nat) : Reads k (w.drewN n) a len xs :=
 h.below (below_drewN (Below.refl _ _) n)
theorem Reads.nil {k : IntKind} {w : World} {a : Option Addr} : Reads k w a 0 [] := ⟨rfl, .inl rfl⟩
theorem Reads.own {k : IntKind} {w : World} {base e n : Nat} {a : Option Addr} {cap : Nat} {xs : List Nat} (h : w.ownsRow base e 1 (.slice a n cap) n (xs.map fun x : Nat => Value.int k (x : Int))) :
  Reads k w a n xs := by
 obtain ⟨hl, hr⟩ := h
 simp at hl
 refine ⟨hl, ?_⟩
 rcases hr with ⟨hv, h0⟩ | ⟨g, cap', cur, hv, _, hg, _, _, _, htake⟩
 ·exact .inl h0
 ·cases hv
  refine .inr ⟨g, 0, rfl, (Array.getElem?_eq_some_iff.1 hg).1, fun i hi => ?_⟩
  rw [Nat.zero_add, cell_of_row w g i cur e (0, 0) hg]
  have h2 : (cur.toList.take (n * 1))[i]? = ((xs.map fun x : Nat => Value.int k (x : Int)))[i]? := by rw [htake]
  rw [List.getElem?_take, if_pos (by omega), List.getElem?_map] at h2
  rw [Array.getElem?_toList] at h2
  rw [h2, List.getD_eq_getElem?_getD, List.getElem?_eq_getElem (by omega)]
  simp
end Go.Proofs.YtaciegkblklokaaGreat
namespace Go.Proofs.YtaciegkblklokaaGreat
open Go.ChangeShapes Go.WideShapes Go.ChangeAt Go.RowKit
open Go.ChangeMaps (open_string shut_string)
theorem own : ownKnob Tryz.prog.godebug = none := by kernel_rfl
theorem laidOut : laidOutB Tryz.prog = true := by kernel_rfl
def Yes (w : World) (e : Ending) (w' : World) : Prop := e = .returned (.bool true) ∧ Below w.heap.size w w'
theorem wf_i64 (n : Int) (h : (Lit.int .i64 n).wf = true) : -9223372036854775808 ≤ n ∧ n ≤ 9223372036854775807 := by
 simp [Lit.wf, IntKind.min, IntKind.max, IntKind.signed, IntKind.bits] at h; omega
theorem ownsRow_slice {w : World} {base e size n : Nat} {v : Value} {xs : List Value} (h : w.ownsRow base e size v n xs) : ∃ a cap, v = .slice a n cap ∧ n ≤ cap := by
 rcases h.2 with ⟨hv, h0⟩ | ⟨g, cap, cur, hv, hb, hg, h1, h2, _⟩
 ·exact ⟨none, 0, by rw [hv, h0], by omega⟩
 ·exact ⟨_, cap, hv, h1⟩
def strOf (xs : List Nat) : ByteArray := strOfNums (xs.map fun x : Nat => (x : Int))
end Go.Proofs.YtaciegkblklokaaGreat
namespace Go.Proofs.YtaciegkblklokaaGreat.field
open Go.ChangeShapes Go.WideShapes Go.ChangeAt Go.RowKit Go.Deep
structure Fd where
 (id : Int) (kind : Int) (lo : Int) (hi : Int) (most : Int)
instance : Inhabited Fd := ⟨⟨0, 0, 0, 0, 0⟩⟩
structure Fd.Good (W : World) (p : Fd) : Prop where
 unit : True
 bid : -9223372036854775808 ≤ p.id ∧ p.id ≤ 9223372036854775807
 bkind : -9223372036854775808 ≤ p.kind ∧ p.kind ≤ 9223372036854775807
 blo : -9223372036854775808 ≤ p.lo ∧ p.lo ≤ 9223372036854775807
 bhi : -9223372036854775808 ≤ p.hi ∧ p.hi ≤ 9223372036854775807
 bmost : -9223372036854775808 ≤ p.most ∧ p.most ≤ 9223372036854775807
theorem Fd.Good.below {W W' : World} {p : Fd} (h : p.Good W) (hb : Below W.heap.size W W') : p.Good W' := ⟨h.unit, h.bid, h.bkind, h.blo, h.bhi, h.bmost⟩
section
variable {H : Type} {enc : TypeId × Value → H} {P : Program} {W : World}
theorem Fd_cells {t0 t1 t2 t3 t4 : TypeId} {n : Nat} {v0 v1 v2 v3 v4 : Value} {y0 y1 y2 y3 y4 : DataW H × List MemPlace} (u0 : P.underlying t0 = some (.int .i64)) (u1 : P.underlying t1 = some (.int .i64)) (u2 : P.underlying t2 = some (.int .i64)) (u3 : P.underlying t3 = some (.int .i64)) (u4 : P.underlying t4 = some (.int .i64))
  (h0 : DataW.trod enc P W 0 (fun _ => true) true n t0 [v0] = some y0) (h1 : DataW.trod enc P W 0 (fun _ => true) true n t1 [v1] = some y1) (h2 : DataW.trod enc P W 0 (fun _ => true) true n t2 [v2] = some y2) (h3 : DataW.trod enc P W 0 (fun _ => true) true n t3 [v3] = some y3) (h4 : DataW.trod enc P W 0 (fun _ => true) true n t4 [v4] = some y4) :
  ∃ p : Fd, p.Good W ∧ v0 = .int .i64 p.id ∧ v1 = .int .i64 p.kind ∧ v2 = .int .i64 p.lo ∧ v3 = .int .i64 p.hi ∧ v4 = .int .i64 p.most := by
 obtain ⟨x0, e0, _, w0⟩ := DataW.trod_int u0 h0
 have a0 := wf_i64 _ w0
 obtain ⟨x1, e1, _, w1⟩ := DataW.trod_int u1 h1
 have a1 := wf_i64 _ w1
 obtain ⟨x2, e2, _, w2⟩ := DataW.trod_int u2 h2
 have a2 := wf_i64 _ w2
 obtain ⟨x3, e3, _, w3⟩ := DataW.trod_int u3 h3
 have a3 := wf_i64 _ w3
 obtain ⟨x4, e4, _, w4⟩ := DataW.trod_int u4 h4
 have a4 := wf_i64 _ w4
 exact ⟨⟨x0, x1, x2, x3, x4⟩, ⟨trivial, a0, a1, a2, a3, a4⟩, by simpa using e0, by simpa using e1, by simpa using e2, by simpa using e3, by simpa using e4⟩
def Fds (w : World) (a : Option Addr) (l : List Fd) : Prop :=
 l = [] ∨ ∃ b off, a = some ⟨b, off, none⟩ ∧ b < w.heap.size ∧ ∀ i p, l[i]? = some p → w.cell? ⟨b, off + i * 5, none⟩ = some (.int .i64 p.id) ∧ w.cell? ⟨b, off + i * 5 + 1, none⟩ = some (.int .i64 p.kind) ∧ w.cell? ⟨b, off + i * 5 + 2, none⟩ = some (.int .i64 p.lo) ∧ w.cell? ⟨b, off + i * 5 + 3, none⟩ = some (.int .i64 p.hi) ∧ w.cell? ⟨b, off + i * 5 + 4, none⟩ = some (.int .i64 p.most)
theorem open_Fds {t e : TypeId} {f0 f1 f2 f3 f4 : Field} {a : Option Addr} {len cap : Nat} {d : DataW H} {pl : List MemPlace} (ht : P.underlying t = some (.slice e)) (he : P.underlying e = some (.struct #[f0, f1, f2, f3, f4])) (hone : oneCellFields P #[f0, f1, f2, f3, f4] = true) (hC : P.cellsOf e = 5)
  (u0 : P.underlying f0.type = some (.int .i64)) (u1 : P.underlying f1.type = some (.int .i64)) (u2 : P.underlying f2.type = some (.int .i64)) (u3 : P.underlying f3.type = some (.int .i64)) (u4 : P.underlying f4.type = some (.int .i64))
  (h0 : DataW.Trod enc P W 0 (fun _ => true) true t (.slice a len cap) d pl) : ∃ l : List Fd, len = l.length ∧ Fds W a l ∧ (∀ p ∈ l, p.Good W) ∧ len ≤ cap ∧ cap ≤ maxLen := by
 obtain ⟨fuel, hf⟩ := h0
 have hf2 : DataW.trod enc P W 0 (fun _ => true) true fuel t [.slice a len cap] = some (d, pl) := by simpa [Value.cells] using hf
 rcases open_slice ht hf2 with ⟨hcs, _⟩ | ⟨A, len', cap', q, n, D, Pl, hcs, _, hlc, hcm, hm, hx0, hrow⟩
 ·simp at hcs
  obtain ⟨rfl, rfl, rfl⟩ := hcs
  exact ⟨[], rfl, .inl rfl, by simp, Nat.le_refl _, by unfold maxLen; omega⟩
 ·simp at hcs
  obtain ⟨rfl, rfl, rfl⟩ := hcs
  simp only [if_true] at hm
  have each : ∀ r, r < len → ∃ p : Fd, p.Good W ∧ W.cell? (A.add (r * 5)) = some (.int .i64 p.id) ∧ W.cell? (A.add (r * 5 + 1)) = some (.int .i64 p.kind) ∧ W.cell? (A.add (r * 5 + 2)) = some (.int .i64 p.lo) ∧ W.cell? (A.add (r * 5 + 3)) = some (.int .i64 p.hi) ∧ W.cell? (A.add (r * 5 + 4)) = some (.int .i64 p.most) := by
   intro r hr
   obtain ⟨cs', h1, h2⟩ := hrow r (by omega)
   rw [hC] at h1
   obtain ⟨_, hlen0, hcell⟩ := World.cells?_some h1
   obtain ⟨ys, m, _, _, hl, hlen, hx⟩ := DataW.trod_struct he h2
   rw [hC] at hl
   match cs', hl with
   | [c0, c1, c2, c3, c4], _ =>
    have each : ∀ (i : Nat) (f : Field) (c : Value), #[f0, f1, f2, f3, f4][i]? = some f → [c0, c1, c2, c3, c4][i]? = some c → ∃ y, DataW.trod enc P W 0 (fun _ => true) true m f.type [c] = some y := by
     intro i f c hi hc
     obtain ⟨o, k⟩ := hone_of hone i f hi
     have hi6 : i < 5 := by have := (Array.getElem?_eq_some_iff.1 hi).1; simpa using this
     have h1 := hx i f hi
     rw [o, k] at h1
     have e : (([c0, c1, c2, c3, c4].drop i).take 1) = [c] := by
      rw [List.take_one]
      have : ([c0, c1, c2, c3, c4].drop i).head? = some c := by
       rw [List.head?_drop]; simpa using hc
      rw [this]; rfl
     rw [e] at h1
     have hy : ys[i]? = some (ys[i]'(by rw [hlen]; exact hi6)) := List.getElem?_eq_getElem _
     exact ⟨_, h1.trans hy⟩
    obtain ⟨y0, g0⟩ := each 0 f0 c0 rfl rfl
    obtain ⟨y1, g1⟩ := each 1 f1 c1 rfl rfl
    obtain ⟨y2, g2⟩ := each 2 f2 c2 rfl rfl
    obtain ⟨y3, g3⟩ := each 3 f3 c3 rfl rfl
    obtain ⟨y4, g4⟩ := each 4 f4 c4 rfl rfl
    obtain ⟨p, hp, rfl, rfl, rfl, rfl, rfl⟩ := Fd_cells u0 u1 u2 u3 u4 g0 g1 g2 g3 g4
    have k0 := hcell 0 (by omega)
    have k1 := hcell 1 (by omega)
    have k2 := hcell 2 (by omega)
    have k3 := hcell 3 (by omega)
    have k4 := hcell 4 (by omega)
    rw [add_add] at k0 k1 k2 k3 k4
    exact ⟨p, hp, by simpa using k0, by simpa using k1, by simpa using k2, by simpa using k3, by simpa using k4⟩
  obtain ⟨y, hy⟩ := choose_lt each
  refine ⟨(List.range len).map y, by simp, ?_, ?_, by omega, hcm⟩
  ·by_cases hz : len = 0
   ·subst hz; exact .inl rfl
   ·right
    obtain ⟨b, off, spot⟩ := A
    have hc0 := (hy 0 (by omega)).2.1
    have hspot : spot = none := by simpa [Addr.add] using World.cell?_spot hc0
    subst hspot
    have hb : b < W.heap.size := by
     have := World.block_lt_of_cell? W _ hc0
     simpa [Addr.add] using this
    refine ⟨b, off, rfl, hb, fun i p hp => ?_⟩
    have hi : i < len := by have := (List.getElem?_eq_some_iff.1 hp).1; simpa using this
    simp [hi] at hp
    subst hp
    obtain ⟨_, e50, e51, e52, e53, e54⟩ := hy i hi
    rw [Addr.add_lit] at e50 e51 e52 e53 e54
    exact ⟨e50, by rw [Nat.add_assoc]; exact e51, by rw [Nat.add_assoc]; exact e52, by rw [Nat.add_assoc]; exact e53, by rw [Nat.add_assoc]; exact e54⟩
  ·intro p hp
   obtain ⟨i, hi, rfl⟩ := List.mem_map.1 hp
   exact (hy i (List.mem_range.1 hi)).1
end
theorem Fds.below {w w' : World} {a : Option Addr} {l : List Fd} (h : Fds w a l) (hb : Below w.heap.size w w') : Fds w' a l := by
 rcases h with h | ⟨b, off, ha, hlt, hc⟩
 ·exact .inl h
 ·refine .inr ⟨b, off, ha, Nat.lt_of_lt_of_le hlt hb.size, fun i p hp => ?_⟩
  rw [hb.cell (p := ⟨b, off + i * 5, none⟩) hlt, hb.cell (p := ⟨b, off + i * 5 + 1, none⟩) hlt, hb.cell (p := ⟨b, off + i * 5 + 2, none⟩) hlt, hb.cell (p := ⟨b, off + i * 5 + 3, none⟩) hlt, hb.cell (p := ⟨b, off + i * 5 + 4, none⟩) hlt]
  exact hc i p hp
theorem Fds.at {w : World} {a : Option Addr} {l : List Fd} (h : Fds w a l) {i : Nat} (hi : i < l.length) :
  ∃ b off p, a = some ⟨b, off, none⟩ ∧ b < w.heap.size ∧ l[i]? = some p ∧ w.cell? ⟨b, off + i * 5, none⟩ = some (.int .i64 p.id) ∧ w.cell? ⟨b, off + i * 5 + 1, none⟩ = some (.int .i64 p.kind) ∧ w.cell? ⟨b, off + i * 5 + 2, none⟩ = some (.int .i64 p.lo) ∧ w.cell? ⟨b, off + i * 5 + 3, none⟩ = some (.int .i64 p.hi) ∧ w.cell? ⟨b, off + i * 5 + 4, none⟩ = some (.int .i64 p.most) := by
 rcases h with rfl | ⟨b, off, ha, hlt, hc⟩
 ·simp at hi
 ·have hp := List.getElem?_eq_getElem hi
  exact ⟨b, off, _, ha, hlt, hp, hc i _ hp⟩
end Go.Proofs.YtaciegkblklokaaGreat.field
namespace Go.Proofs.YtaciegkblklokaaGreat
structure zF_ (f : field.Fd) where
def zF (f : field.Fd) : zF_ f := ⟨⟩
instance (f : field.Fd) (m : zF_ f) : CoeDep (zF_ f) m (List Value) := ⟨[.int .i64 f.id, .int .i64 f.kind, .int .i64 f.lo, .int .i64 f.hi, .int .i64 f.most]⟩
instance (f : field.Fd) (m : zF_ f) : CoeDep (zF_ f) m (Array Value) := ⟨#[.int .i64 f.id, .int .i64 f.kind, .int .i64 f.lo, .int .i64 f.hi, .int .i64 f.most]⟩
instance (f : field.Fd) (m : zF_ f) : CoeDep (zF_ f) m Value := ⟨.agg #[.int .i64 f.id, .int .i64 f.kind, .int .i64 f.lo, .int .i64 f.hi, .int .i64 f.most]⟩
end Go.Proofs.YtaciegkblklokaaGreat
namespace Go.Proofs.YtaciegkblklokaaGreat.field
open Go.ChangeShapes Go.WideShapes Go.ChangeAt Go.RowKit Go.Deep
def FdRow (P : Program) (t : TypeId) : Prop := ∃ (e : TypeId) (f0 f1 f2 f3 f4 : Field), P.underlying t = some (.slice e) ∧ P.underlying e = some (.struct #[f0, f1, f2, f3, f4]) ∧ oneCellFields P #[f0, f1, f2, f3, f4] = true ∧ P.cellsOf e = 5 ∧ P.underlying f0.type = some (.int .i64) ∧ P.underlying f1.type = some (.int .i64) ∧ P.underlying f2.type = some (.int .i64) ∧ P.underlying f3.type = some (.int .i64) ∧ P.underlying f4.type = some (.int .i64)
theorem open_FdRow {H : Type} {enc : TypeId × Value → H} {P : Program} {W : World} {t : TypeId} {v : Value} {n : Nat} {y : DataW H × List MemPlace} (hR : FdRow P t) (h : DataW.trod enc P W 0 (fun _ => true) true n t [v] = some y) : ∃ a cap L, v = .slice a (List.length L) cap ∧ Fds W a L ∧ (∀ p ∈ L, p.Good W) ∧ L.length ≤ cap ∧ cap ≤ maxLen := by
 obtain ⟨e, f0, f1, f2, f3, f4, ht, he, hone, hC, u0, u1, u2, u3, u4⟩ := hR
 have hv : ∃ a len cap, v = .slice a len cap := by
  rcases open_slice ht h with ⟨hcs, _⟩ | ⟨A, len, cap, m, n1, D, Pl, hcs, _⟩
  ·exact ⟨none, 0, 0, by simpa using hcs⟩
  ·exact ⟨_, _, _, by simpa using hcs⟩
 obtain ⟨a, len, cap, rfl⟩ := hv
 obtain ⟨L, rfl, h1, h2, h3, h4⟩ := open_Fds ht he hone hC u0 u1 u2 u3 u4 (W := W) (enc := enc) (d := y.1) (pl := y.2) ⟨n, by simpa [Value.cells] using h⟩
 exact ⟨a, cap, L, rfl, h1, h2, h3, h4⟩
theorem fdRow : FdRow Tryz.prog 30 := ⟨_, _, _, _, _, _, Tryz.underlying30, Tryz.underlying26, by kernel_rfl, by kernel_rfl, by kernel_rfl, by kernel_rfl, by kernel_rfl, by kernel_rfl, by kernel_rfl⟩
end Go.Proofs.YtaciegkblklokaaGreat.field
namespace Go.Proofs.YtaciegkblklokaaGreat.schema
open Go.ChangeShapes Go.WideShapes Go.ChangeAt Go.RowKit Go.Deep
structure Fm where
 (id : Int) (f : Option Addr) (fCap : Nat) (fL : List field.Fd)
instance : Inhabited Fm := ⟨⟨0, none, 0, []⟩⟩
structure Fm.Good (W : World) (p : Fm) : Prop where
 unit : True
 bid : -9223372036854775808 ≤ p.id ∧ p.id ≤ 9223372036854775807
 rf : field.Fds W p.f p.fL
 mf : ∀ y ∈ p.fL, y.Good W
 cf : p.fL.length ≤ p.fCap
 df : p.fCap ≤ maxLen
theorem Fm.Good.below {W W' : World} {p : Fm} (h : p.Good W) (hb : Below W.heap.size W W') : p.Good W' := ⟨h.unit, h.bid, h.rf.below hb, fun y hy => (h.mf y hy).below hb, h.cf, h.df⟩
section
variable {H : Type} {enc : TypeId × Value → H} {P : Program} {W : World}
theorem Fm_cells {t0 t1 : TypeId} {n : Nat} {v0 v1 : Value} {y0 y1 : DataW H × List MemPlace} (u0 : P.underlying t0 = some (.int .i64)) (u1 : field.FdRow P t1)
  (h0 : DataW.trod enc P W 0 (fun _ => true) true n t0 [v0] = some y0) (h1 : DataW.trod enc P W 0 (fun _ => true) true n t1 [v1] = some y1) :
  ∃ p : Fm, p.Good W ∧ v0 = .int .i64 p.id ∧ v1 = .slice p.f p.fL.length p.fCap := by
 obtain ⟨x0, e0, _, w0⟩ := DataW.trod_int u0 h0
 have a0 := wf_i64 _ w0
 obtain ⟨q1, c1, M1, rfl, hr1, hM1, hl1, hc1⟩ := field.open_FdRow u1 h1
 exact ⟨⟨x0, q1, c1, M1⟩, ⟨trivial, a0, hr1, hM1, hl1, hc1⟩, by simpa using e0, rfl⟩
def Fms (w : World) (a : Option Addr) (l : List Fm) : Prop :=
 l = [] ∨ ∃ b off, a = some ⟨b, off, none⟩ ∧ b < w.heap.size ∧ ∀ i p, l[i]? = some p → w.cell? ⟨b, off + i * 2, none⟩ = some (.int .i64 p.id) ∧ w.cell? ⟨b, off + i * 2 + 1, none⟩ = some (.slice p.f p.fL.length p.fCap)
theorem open_Fms {t e : TypeId} {f0 f1 : Field} {a : Option Addr} {len cap : Nat} {d : DataW H} {pl : List MemPlace} (ht : P.underlying t = some (.slice e)) (he : P.underlying e = some (.struct #[f0, f1])) (hone : oneCellFields P #[f0, f1] = true) (hC : P.cellsOf e = 2)
  (u0 : P.underlying f0.type = some (.int .i64)) (u1 : field.FdRow P f1.type)
  (h0 : DataW.Trod enc P W 0 (fun _ => true) true t (.slice a len cap) d pl) : ∃ l : List Fm, len = l.length ∧ Fms W a l ∧ (∀ p ∈ l, p.Good W) ∧ len ≤ cap ∧ cap ≤ maxLen := by
 obtain ⟨fuel, hf⟩ := h0
 have hf2 : DataW.trod enc P W 0 (fun _ => true) true fuel t [.slice a len cap] = some (d, pl) := by simpa [Value.cells] using hf
 rcases open_slice ht hf2 with ⟨hcs, _⟩ | ⟨A, len', cap', q, n, D, Pl, hcs, _, hlc, hcm, hm, hx0, hrow⟩
 ·simp at hcs
  obtain ⟨rfl, rfl, rfl⟩ := hcs
  exact ⟨[], rfl, .inl rfl, by simp, Nat.le_refl _, by unfold maxLen; omega⟩
 ·simp at hcs
  obtain ⟨rfl, rfl, rfl⟩ := hcs
  simp only [if_true] at hm
  have each : ∀ r, r < len → ∃ p : Fm, p.Good W ∧ W.cell? (A.add (r * 2)) = some (.int .i64 p.id) ∧ W.cell? (A.add (r * 2 + 1)) = some (.slice p.f p.fL.length p.fCap) := by
   intro r hr
   obtain ⟨cs', h1, h2⟩ := hrow r (by omega)
   rw [hC] at h1
   obtain ⟨_, hlen0, hcell⟩ := World.cells?_some h1
   obtain ⟨ys, m, _, _, hl, hlen, hx⟩ := DataW.trod_struct he h2
   rw [hC] at hl
   match cs', hl with
   | [c0, c1], _ =>
    have each : ∀ (i : Nat) (f : Field) (c : Value), #[f0, f1][i]? = some f → [c0, c1][i]? = some c → ∃ y, DataW.trod enc P W 0 (fun _ => true) true m f.type [c] = some y := by
     intro i f c hi hc
     obtain ⟨o, k⟩ := hone_of hone i f hi
     have hi6 : i < 2 := by have := (Array.getElem?_eq_some_iff.1 hi).1; simpa using this
     have h1 := hx i f hi
     rw [o, k] at h1
     have e : (([c0, c1].drop i).take 1) = [c] := by
      rw [List.take_one]
      have : ([c0, c1].drop i).head? = some c := by
       rw [List.head?_drop]; simpa using hc
      rw [this]; rfl
     rw [e] at h1
     have hy : ys[i]? = some (ys[i]'(by rw [hlen]; exact hi6)) := List.getElem?_eq_getElem _
     exact ⟨_, h1.trans hy⟩
    obtain ⟨y0, g0⟩ := each 0 f0 c0 rfl rfl
    obtain ⟨y1, g1⟩ := each 1 f1 c1 rfl rfl
    obtain ⟨p, hp, rfl, rfl⟩ := Fm_cells u0 u1 g0 g1
    have k0 := hcell 0 (by omega)
    have k1 := hcell 1 (by omega)
    rw [add_add] at k0 k1
    exact ⟨p, hp, by simpa using k0, by simpa using k1⟩
  obtain ⟨y, hy⟩ := choose_lt each
  refine ⟨(List.range len).map y, by simp, ?_, ?_, by omega, hcm⟩
  ·by_cases hz : len = 0
   ·subst hz; exact .inl rfl
   ·right
    obtain ⟨b, off, spot⟩ := A
    have hc0 := (hy 0 (by omega)).2.1
    have hspot : spot = none := by simpa [Addr.add] using World.cell?_spot hc0
    subst hspot
    have hb : b < W.heap.size := by
     have := World.block_lt_of_cell? W _ hc0
     simpa [Addr.add] using this
    refine ⟨b, off, rfl, hb, fun i p hp => ?_⟩
    have hi : i < len := by have := (List.getElem?_eq_some_iff.1 hp).1; simpa using this
    simp [hi] at hp
    subst hp
    obtain ⟨_, e50, e51⟩ := hy i hi
    rw [Addr.add_lit] at e50 e51
    exact ⟨e50, by rw [Nat.add_assoc]; exact e51⟩
  ·intro p hp
   obtain ⟨i, hi, rfl⟩ := List.mem_map.1 hp
   exact (hy i (List.mem_range.1 hi)).1
end
theorem Fms.below {w w' : World} {a : Option Addr} {l : List Fm} (h : Fms w a l) (hb : Below w.heap.size w w') : Fms w' a l := by
 rcases h with h | ⟨b, off, ha, hlt, hc⟩
 ·exact .inl h
 ·refine .inr ⟨b, off, ha, Nat.lt_of_lt_of_le hlt hb.size, fun i p hp => ?_⟩
  rw [hb.cell (p := ⟨b, off + i * 2, none⟩) hlt, hb.cell (p := ⟨b, off + i * 2 + 1, none⟩) hlt]
  exact hc i p hp
theorem Fms.at {w : World} {a : Option Addr} {l : List Fm} (h : Fms w a l) {i : Nat} (hi : i < l.length) :
  ∃ b off p, a = some ⟨b, off, none⟩ ∧ b < w.heap.size ∧ l[i]? = some p ∧ w.cell? ⟨b, off + i * 2, none⟩ = some (.int .i64 p.id) ∧ w.cell? ⟨b, off + i * 2 + 1, none⟩ = some (.slice p.f p.fL.length p.fCap) := by
 rcases h with rfl | ⟨b, off, ha, hlt, hc⟩
 ·simp at hi
 ·have hp := List.getElem?_eq_getElem hi
  exact ⟨b, off, _, ha, hlt, hp, hc i _ hp⟩
def FmRow (P : Program) (t : TypeId) : Prop := ∃ (e : TypeId) (f0 f1 : Field), P.underlying t = some (.slice e) ∧ P.underlying e = some (.struct #[f0, f1]) ∧ oneCellFields P #[f0, f1] = true ∧ P.cellsOf e = 2 ∧ P.underlying f0.type = some (.int .i64) ∧ field.FdRow P f1.type
theorem open_FmRow {H : Type} {enc : TypeId × Value → H} {P : Program} {W : World} {t : TypeId} {v : Value} {n : Nat} {y : DataW H × List MemPlace} (hR : FmRow P t) (h : DataW.trod enc P W 0 (fun _ => true) true n t [v] = some y) : ∃ a cap L, v = .slice a (List.length L) cap ∧ Fms W a L ∧ (∀ p ∈ L, p.Good W) ∧ L.length ≤ cap ∧ cap ≤ maxLen := by
 obtain ⟨e, f0, f1, ht, he, hone, hC, u0, u1⟩ := hR
 have hv : ∃ a len cap, v = .slice a len cap := by
  rcases open_slice ht h with ⟨hcs, _⟩ | ⟨A, len, cap, m, n1, D, Pl, hcs, _⟩
  ·exact ⟨none, 0, 0, by simpa using hcs⟩
  ·exact ⟨_, _, _, by simpa using hcs⟩
 obtain ⟨a, len, cap, rfl⟩ := hv
 obtain ⟨L, rfl, h1, h2, h3, h4⟩ := open_Fms ht he hone hC u0 u1 (W := W) (enc := enc) (d := y.1) (pl := y.2) ⟨n, by simpa [Value.cells] using h⟩
 exact ⟨a, cap, L, rfl, h1, h2, h3, h4⟩
end Go.Proofs.YtaciegkblklokaaGreat.schema
namespace Go.Proofs.YtaciegkblklokaaGreat.schema
open Go.ChangeShapes Go.WideShapes Go.ChangeAt Go.RowKit Go.Deep
theorem fmRow : FmRow Tryz.prog 22 := ⟨_, _, _, Tryz.underlying22, Tryz.underlying58, by kernel_rfl, by kernel_rfl, by kernel_rfl, field.fdRow⟩
end Go.Proofs.YtaciegkblklokaaGreat.schema
namespace Go.Proofs.YtaciegkblklokaaGreat.step
open Go.ChangeShapes Go.WideShapes Go.ChangeAt Go.RowKit Go.Deep
def Ins (w : World) (a : Option Addr) (l : List Int) : Prop :=
 l = [] ∨ ∃ b off, a = some ⟨b, off, none⟩ ∧ b < w.heap.size ∧ ∀ (i : Nat) (n : Int), l[i]? = some n → w.cell? ⟨b, off + i, none⟩ = some (.int .i64 n)
theorem Ins.below {w w' : World} {a : Option Addr} {l : List Int} (h : Ins w a l) (hb : Below w.heap.size w w') : Ins w' a l := by
 rcases h with h | ⟨b, off, ha, hlt, hc⟩
 ·exact .inl h
 ·refine .inr ⟨b, off, ha, Nat.lt_of_lt_of_le hlt hb.size, fun i p hp => ?_⟩
  rw [hb.cell (p := ⟨b, off + i, none⟩) hlt]
  exact hc i p hp
theorem Ins.at {w : World} {a : Option Addr} {l : List Int} (h : Ins w a l) {i : Nat} (hi : i < l.length) :
  ∃ b off p, a = some ⟨b, off, none⟩ ∧ b < w.heap.size ∧ l[i]? = some p ∧ w.cell? ⟨b, off + i, none⟩ = some (.int .i64 p) := by
 rcases h with rfl | ⟨b, off, ha, hlt, hc⟩
 ·simp at hi
 ·have hp := List.getElem?_eq_getElem hi
  exact ⟨b, off, _, ha, hlt, hp, hc i _ hp⟩
def InOk (n : Int) : Prop := -9223372036854775808 ≤ n ∧ n ≤ 9223372036854775807
section
variable {H : Type} {enc : TypeId × Value → H} {P : Program} {W : World}
def InRow (P : Program) (t : TypeId) : Prop := ∃ e, P.underlying t = some (.slice e) ∧ P.underlying e = some (.int .i64) ∧ P.cellsOf e = 1
theorem open_InRow {t : TypeId} {v : Value} {fuel : Nat} {y : DataW H × List MemPlace} (hR : InRow P t)
  (hf : DataW.trod enc P W 0 (fun _ => true) true fuel t [v] = some y) :
  ∃ (a : Option Addr) (cap : Nat) (M : List Int), v = .slice a M.length cap ∧ Ins W a M ∧ (∀ x ∈ M, InOk x) ∧ M.length ≤ cap ∧ cap ≤ maxLen := by
 obtain ⟨e, ht, he, hc⟩ := hR
 rcases open_ints ht he hc hf with ⟨hcs, _⟩ | ⟨x, l, c, zs, hcs, _, hl, hm, hz, hx, hcell, hwz⟩
 ·exact ⟨none, 0, [], by simpa using hcs, .inl rfl, by simp, Nat.le_refl _, by unfold maxLen; omega⟩
 ·simp only [if_true] at hz
  have hlen : (zs.take l).length = l := by simp; omega
  refine ⟨some x, c, zs.take l, by rw [hlen]; simpa using hcs, ?_, fun y hy => wf_i64 _ (hwz _ (List.mem_of_mem_take hy)), by rw [hlen]; exact hl, hm⟩
  by_cases h : l = 0
  ·exact .inl (by subst h; rfl)
  ·right
   obtain ⟨b, off, spot⟩ := x
   have hspot : spot = none := by simpa [Addr.add] using World.cell?_spot (hcell 0 (by omega))
   subst hspot
   have hb : b < W.heap.size := by
    have := World.block_lt_of_cell? W _ (hcell 0 (by omega))
    simpa [Addr.add] using this
   refine ⟨b, off, rfl, hb, fun i n hi => ?_⟩
   have hil : i < l := by have := (List.getElem?_eq_some_iff.1 hi).1; omega
   have h1 := hcell i (by omega)
   rw [Addr.add_lit] at h1
   rw [h1]
   have hi' : i < zs.length := by omega
   rw [List.getElem?_take, if_pos hil] at hi
   simp [List.getD, hi]
end
theorem inRow : InRow Tryz.prog 29 := ⟨_, Tryz.underlying29, by kernel_rfl, by kernel_rfl⟩
end Go.Proofs.YtaciegkblklokaaGreat.step
namespace Go.Proofs.YtaciegkblklokaaGreat.field
open Go.ChangeShapes Go.WideShapes Go.ChangeAt Go.RowKit Go.Deep
structure Va where
 (n : Int) (s : ByteArray)
instance : Inhabited Va := ⟨⟨0, ⟨#[]⟩⟩⟩
structure Va.Good (W : World) (p : Va) : Prop where
 unit : True
 bn : -9223372036854775808 ≤ p.n ∧ p.n ≤ 9223372036854775807
theorem Va.Good.below {W W' : World} {p : Va} (h : p.Good W) (hb : Below W.heap.size W W') : p.Good W' := ⟨h.unit, h.bn⟩
section
variable {H : Type} {enc : TypeId × Value → H} {P : Program} {W : World}
theorem Va_cells {t0 t1 : TypeId} {n : Nat} {v0 v1 : Value} {y0 y1 : DataW H × List MemPlace} (u0 : P.underlying t0 = some (.int .i64)) (u1 : P.underlying t1 = some .string)
  (h0 : DataW.trod enc P W 0 (fun _ => true) true n t0 [v0] = some y0) (h1 : DataW.trod enc P W 0 (fun _ => true) true n t1 [v1] = some y1) :
  ∃ p : Va, p.Good W ∧ v0 = .int .i64 p.n ∧ v1 = .string p.s := by
 obtain ⟨x0, e0, _, w0⟩ := DataW.trod_int u0 h0
 have a0 := wf_i64 _ w0
 obtain ⟨x1, e1, _⟩ := DataW.trod_string u1 h1
 exact ⟨⟨x0, x1⟩, ⟨trivial, a0⟩, by simpa using e0, by simpa using e1⟩
def Vas (w : World) (a : Option Addr) (l : List Va) : Prop :=
 l = [] ∨ ∃ b off, a = some ⟨b, off, none⟩ ∧ b < w.heap.size ∧ ∀ i p, l[i]? = some p → w.cell? ⟨b, off + i * 2, none⟩ = some (.int .i64 p.n) ∧ w.cell? ⟨b, off + i * 2 + 1, none⟩ = some (.string p.s)
end
theorem Vas.below {w w' : World} {a : Option Addr} {l : List Va} (h : Vas w a l) (hb : Below w.heap.size w w') : Vas w' a l := by
 rcases h with h | ⟨b, off, ha, hlt, hc⟩
 ·exact .inl h
 ·refine .inr ⟨b, off, ha, Nat.lt_of_lt_of_le hlt hb.size, fun i p hp => ?_⟩
  rw [hb.cell (p := ⟨b, off + i * 2, none⟩) hlt, hb.cell (p := ⟨b, off + i * 2 + 1, none⟩) hlt]
  exact hc i p hp
theorem Vas.at {w : World} {a : Option Addr} {l : List Va} (h : Vas w a l) {i : Nat} (hi : i < l.length) :
  ∃ b off p, a = some ⟨b, off, none⟩ ∧ b < w.heap.size ∧ l[i]? = some p ∧ w.cell? ⟨b, off + i * 2, none⟩ = some (.int .i64 p.n) ∧ w.cell? ⟨b, off + i * 2 + 1, none⟩ = some (.string p.s) := by
 rcases h with rfl | ⟨b, off, ha, hlt, hc⟩
 ·simp at hi
 ·have hp := List.getElem?_eq_getElem hi
  exact ⟨b, off, _, ha, hlt, hp, hc i _ hp⟩
end Go.Proofs.YtaciegkblklokaaGreat.field
namespace Go.Proofs.YtaciegkblklokaaGreat
structure zV_ (v : field.Va) where
def zV (v : field.Va) : zV_ v := ⟨⟩
instance (v : field.Va) (m : zV_ v) : CoeDep (zV_ v) m (List Value) := ⟨[.int .i64 v.n, .string v.s]⟩
instance (v : field.Va) (m : zV_ v) : CoeDep (zV_ v) m (Array Value) := ⟨#[.int .i64 v.n, .string v.s]⟩
instance (v : field.Va) (m : zV_ v) : CoeDep (zV_ v) m Value := ⟨.agg #[.int .i64 v.n, .string v.s]⟩
end Go.Proofs.YtaciegkblklokaaGreat
namespace Go.Proofs.YtaciegkblklokaaGreat
structure zS_ (v : Int) (a : Option Addr) (n c : Nat) where
def zS (v : Int) (a : Option Addr) (n c : Nat) : zS_ v a n c := ⟨⟩
instance (v : Int) (a : Option Addr) (n c : Nat) (m : zS_ v a n c) : CoeDep (zS_ v a n c) m (List Value) := ⟨[.int .i64 v, .slice a n c]⟩
instance (v : Int) (a : Option Addr) (n c : Nat) (m : zS_ v a n c) : CoeDep (zS_ v a n c) m (Array Value) := ⟨#[.int .i64 v, .slice a n c]⟩
instance (v : Int) (a : Option Addr) (n c : Nat) (m : zS_ v a n c) : CoeDep (zS_ v a n c) m Value := ⟨.agg #[.int .i64 v, .slice a n c]⟩
end Go.Proofs.YtaciegkblklokaaGreat
namespace Go.Proofs.YtaciegkblklokaaGreat.step
open Go.ChangeShapes Go.WideShapes Go.ChangeAt Go.RowKit Go.Deep
structure Sp where
 (op fm fd pl tt a b : Int) (f : field.Fd) (v : field.Va) (t : List Int) (l : List field.Fd)
structure St where
 (s : Sp) (ta : Option Addr) (tc : Nat) (la : Option Addr) (lc : Nat)
instance : Inhabited St := ⟨⟨⟨0, 0, 0, 0, 0, 0, 0, ⟨0, 0, 0, 0, 0⟩, ⟨0, ⟨#[]⟩⟩, [], []⟩, none, 0, none, 0⟩⟩
def spC (s : Sp) (x y : Value) : List Value := [.int .i64 s.op, .int .i64 s.fm, .int .i64 s.fd, .int .i64 s.pl, .int .i64 s.tt, .int .i64 s.a, .int .i64 s.b, .int .i64 s.f.id, .int .i64 s.f.kind, .int .i64 s.f.lo, .int .i64 s.f.hi, .int .i64 s.f.most, .int .i64 s.v.n, .string s.v.s, x, y]
def St.C (p : St) : List Value := spC p.s (.slice p.ta p.s.t.length p.tc) (.slice p.la p.s.l.length p.lc)
def St.val (p : St) : Value := .agg ⟨p.C⟩
structure Sp.Ints (s : Sp) : Prop where
 bop : InOk s.op
 bfm : InOk s.fm
 bfd : InOk s.fd
 bpl : InOk s.pl
 btt : InOk s.tt
 ba : InOk s.a
 bb : InOk s.b
 bn : InOk s.v.n
 bt : ∀ n ∈ s.t, InOk n
structure St.Good (W : World) (p : St) : Prop where
 ints : p.s.Ints
 bf : p.s.f.Good W
 rt : Ins W p.ta p.s.t
 ct : p.s.t.length ≤ p.tc
 dt : p.tc ≤ maxLen
 rl : field.Fds W p.la p.s.l
 ml : ∀ y ∈ p.s.l, y.Good W
 cl : p.s.l.length ≤ p.lc
 dl : p.lc ≤ maxLen
theorem St.Good.below {W W' : World} {p : St} (h : p.Good W) (hb : Below W.heap.size W W') : p.Good W' :=
 ⟨h.ints, h.bf.below hb, h.rt.below hb, h.ct, h.dt, h.rl.below hb, fun y hy => (h.ml y hy).below hb, h.cl, h.dl⟩
def Sts (w : World) (a : Option Addr) (l : List St) : Prop :=
 l = [] ∨ ∃ b off, a = some ⟨b, off, none⟩ ∧ b < w.heap.size ∧ ∀ (i : Nat) p, l[i]? = some p → ∀ (j : Nat) v, p.C[j]? = some v → w.cell? ⟨b, off + i * 16 + j, none⟩ = some v
theorem Sts.below {w w' : World} {a : Option Addr} {l : List St} (h : Sts w a l) (hb : Below w.heap.size w w') : Sts w' a l := by
 rcases h with h | ⟨b, off, ha, hlt, hc⟩
 ·exact .inl h
 ·refine .inr ⟨b, off, ha, Nat.lt_of_lt_of_le hlt hb.size, fun i p hp j v hv => ?_⟩
  rw [hb.cell (p := ⟨b, off + i * 16 + j, none⟩) hlt]
  exact hc i p hp j v hv
section
variable {H : Type} {enc : TypeId × Value → H} {P : Program} {W : World}
structure StShape (P : Program) (t : TypeId) (F : List Field) : Prop where
 hs : P.underlying t = some (.struct F.toArray)
 hC : P.cellsOf t = 16
 ho : F.map (fun f => (f.offset, P.cellsOf f.type)) = [(0, 1), (1, 1), (2, 1), (3, 1), (4, 1), (5, 1), (6, 1), (7, 5), (12, 2), (14, 1), (15, 1)]
 hi : ∀ i, i < 7 → ∀ f, F[i]? = some f → P.underlying f.type = some (.int .i64)
 hf : ∀ f, F[7]? = some f → ∃ f0 f1 f2 f3 f4, P.underlying f.type = some (.struct #[f0, f1, f2, f3, f4]) ∧ oneCellFields P #[f0, f1, f2, f3, f4] = true ∧ P.underlying f0.type = some (.int .i64) ∧ P.underlying f1.type = some (.int .i64) ∧ P.underlying f2.type = some (.int .i64) ∧ P.underlying f3.type = some (.int .i64) ∧ P.underlying f4.type = some (.int .i64)
 hv : ∀ f, F[8]? = some f → ∃ g0 g1, P.underlying f.type = some (.struct #[g0, g1]) ∧ oneCellFields P #[g0, g1] = true ∧ P.underlying g0.type = some (.int .i64) ∧ P.underlying g1.type = some .string
 ht : ∀ f, F[9]? = some f → InRow P f.type
 hl : ∀ f, F[10]? = some f → field.FdRow P f.type
def StType (P : Program) (t : TypeId) : Prop := ∃ F, StShape P t F
theorem take_one {cs : List Value} {i : Nat} {c : Value} (h : cs[i]? = some c) : (cs.drop i).take 1 = [c] := by
 rw [List.take_one, List.head?_drop, h]; rfl
theorem one_cells {t : TypeId} {fs : Array Field} {n : Nat} {cs : List Value} {y : DataW H × List MemPlace} (hs : P.underlying t = some (.struct fs)) (hone : oneCellFields P fs = true) (h : DataW.trod enc P W 0 (fun _ => true) true n t cs = some y) :
  ∃ m, ∀ (i : Nat) (f : Field) (c : Value), fs[i]? = some f → cs[i]? = some c → ∃ y, DataW.trod enc P W 0 (fun _ => true) true m f.type [c] = some y := by
 obtain ⟨ys, m, _, _, hl, hlen, hx⟩ := DataW.trod_struct hs h
 refine ⟨m, fun i f c hi hc => ?_⟩
 obtain ⟨o, k⟩ := hone_of hone i f hi
 have h1 := hx i f hi
 rw [o, k, take_one hc] at h1
 have hi6 : i < fs.size := (Array.getElem?_eq_some_iff.1 hi).1
 exact ⟨_, h1.trans (List.getElem?_eq_getElem (by rw [hlen]; exact hi6))⟩
theorem some_cells {t : TypeId} {fs : Array Field} {n : Nat} {cs : List Value} {y : DataW H × List MemPlace} (hs : P.underlying t = some (.struct fs)) (h : DataW.trod enc P W 0 (fun _ => true) true n t cs = some y) :
  ∃ m, ∀ (i : Nat) (f : Field), fs[i]? = some f → ∃ y, DataW.trod enc P W 0 (fun _ => true) true m f.type ((cs.drop f.offset).take (P.cellsOf f.type)) = some y := by
 obtain ⟨ys, m, _, _, hl, hlen, hx⟩ := DataW.trod_struct hs h
 refine ⟨m, fun i f hi => ?_⟩
 have hi6 : i < fs.size := (Array.getElem?_eq_some_iff.1 hi).1
 exact ⟨_, (hx i f hi).trans (List.getElem?_eq_getElem (by rw [hlen]; exact hi6))⟩
theorem St_cells {t : TypeId} {n : Nat} {c0 c1 c2 c3 c4 c5 c6 c7 c8 c9 c10 c11 c12 c13 c14 c15 : Value} {y : DataW H × List MemPlace} (hT : StType P t)
  (h : DataW.trod enc P W 0 (fun _ => true) true n t [c0, c1, c2, c3, c4, c5, c6, c7, c8, c9, c10, c11, c12, c13, c14, c15] = some y) :
  ∃ p : St, p.Good W ∧ [c0, c1, c2, c3, c4, c5, c6, c7, c8, c9, c10, c11, c12, c13, c14, c15] = p.C := by
 obtain ⟨F, S⟩ := hT
 have hlen : F.length = 11 := by have := congrArg List.length S.ho; simpa using this
 match F, hlen, S with
 | [F0, F1, F2, F3, F4, F5, F6, F7, F8, F9, F10], _, S =>
  have ho := S.ho
  simp only [List.map_cons, List.map_nil, List.cons.injEq, Prod.mk.injEq, and_true] at ho
  obtain ⟨m, hx⟩ := some_cells S.hs h
  have e0 := hx 0 F0 rfl
  have e1 := hx 1 F1 rfl
  have e2 := hx 2 F2 rfl
  have e3 := hx 3 F3 rfl
  have e4 := hx 4 F4 rfl
  have e5 := hx 5 F5 rfl
  have e6 := hx 6 F6 rfl
  have e7 := hx 7 F7 rfl
  have e8 := hx 8 F8 rfl
  have e9 := hx 9 F9 rfl
  have e10 := hx 10 F10 rfl
  obtain ⟨⟨o0, k0⟩, ⟨o1, k1⟩, ⟨o2, k2⟩, ⟨o3, k3⟩, ⟨o4, k4⟩, ⟨o5, k5⟩, ⟨o6, k6⟩, ⟨o7, k7⟩, ⟨o8, k8⟩, ⟨o9, k9⟩, ⟨o10, k10⟩⟩ := ho
  rw [o0, k0] at e0
  rw [o1, k1] at e1
  rw [o2, k2] at e2
  rw [o3, k3] at e3
  rw [o4, k4] at e4
  rw [o5, k5] at e5
  rw [o6, k6] at e6
  rw [o7, k7] at e7
  rw [o8, k8] at e8
  rw [o9, k9] at e9
  rw [o10, k10] at e10
  obtain ⟨y0, e0⟩ := e0
  obtain ⟨y1, e1⟩ := e1
  obtain ⟨y2, e2⟩ := e2
  obtain ⟨y3, e3⟩ := e3
  obtain ⟨y4, e4⟩ := e4
  obtain ⟨y5, e5⟩ := e5
  obtain ⟨y6, e6⟩ := e6
  obtain ⟨y7, e7⟩ := e7
  obtain ⟨y8, e8⟩ := e8
  obtain ⟨y9, e9⟩ := e9
  obtain ⟨y10, e10⟩ := e10
  replace e0 : DataW.trod enc P W 0 (fun _ => true) true m F0.type [c0] = some y0 := e0
  replace e1 : DataW.trod enc P W 0 (fun _ => true) true m F1.type [c1] = some y1 := e1
  replace e2 : DataW.trod enc P W 0 (fun _ => true) true m F2.type [c2] = some y2 := e2
  replace e3 : DataW.trod enc P W 0 (fun _ => true) true m F3.type [c3] = some y3 := e3
  replace e4 : DataW.trod enc P W 0 (fun _ => true) true m F4.type [c4] = some y4 := e4
  replace e5 : DataW.trod enc P W 0 (fun _ => true) true m F5.type [c5] = some y5 := e5
  replace e6 : DataW.trod enc P W 0 (fun _ => true) true m F6.type [c6] = some y6 := e6
  replace e7 : DataW.trod enc P W 0 (fun _ => true) true m F7.type [c7, c8, c9, c10, c11] = some y7 := e7
  replace e8 : DataW.trod enc P W 0 (fun _ => true) true m F8.type [c12, c13] = some y8 := e8
  replace e9 : DataW.trod enc P W 0 (fun _ => true) true m F9.type [c14] = some y9 := e9
  replace e10 : DataW.trod enc P W 0 (fun _ => true) true m F10.type [c15] = some y10 := e10
  obtain ⟨x0, q0, _, w0⟩ := DataW.trod_int (S.hi 0 (by omega) F0 rfl) e0
  obtain ⟨x1, q1, _, w1⟩ := DataW.trod_int (S.hi 1 (by omega) F1 rfl) e1
  obtain ⟨x2, q2, _, w2⟩ := DataW.trod_int (S.hi 2 (by omega) F2 rfl) e2
  obtain ⟨x3, q3, _, w3⟩ := DataW.trod_int (S.hi 3 (by omega) F3 rfl) e3
  obtain ⟨x4, q4, _, w4⟩ := DataW.trod_int (S.hi 4 (by omega) F4 rfl) e4
  obtain ⟨x5, q5, _, w5⟩ := DataW.trod_int (S.hi 5 (by omega) F5 rfl) e5
  obtain ⟨x6, q6, _, w6⟩ := DataW.trod_int (S.hi 6 (by omega) F6 rfl) e6
  obtain ⟨f0, f1, f2, f3, f4, hf, hfo, a0, a1, a2, a3, a4⟩ := S.hf F7 rfl
  obtain ⟨m7, r7⟩ := one_cells hf hfo e7
  obtain ⟨z0, r70⟩ := r7 0 f0 c7 rfl rfl
  obtain ⟨z1, r71⟩ := r7 1 f1 c8 rfl rfl
  obtain ⟨z2, r72⟩ := r7 2 f2 c9 rfl rfl
  obtain ⟨z3, r73⟩ := r7 3 f3 c10 rfl rfl
  obtain ⟨z4, r74⟩ := r7 4 f4 c11 rfl rfl
  obtain ⟨pf, hpf, rfl, rfl, rfl, rfl, rfl⟩ := field.Fd_cells a0 a1 a2 a3 a4 r70 r71 r72 r73 r74
  obtain ⟨g0, g1, hv, hvo, b0, b1⟩ := S.hv F8 rfl
  obtain ⟨m8, r8⟩ := one_cells hv hvo e8
  obtain ⟨z5, r80⟩ := r8 0 g0 c12 rfl rfl
  obtain ⟨z6, r81⟩ := r8 1 g1 c13 rfl rfl
  obtain ⟨pv, hpv, rfl, rfl⟩ := field.Va_cells b0 b1 r80 r81
  obtain ⟨ta, tc, tL, rfl, t1, t2, t3, t4⟩ := open_InRow (S.ht F9 rfl) e9
  obtain ⟨la, lc, lL, rfl, l1, l2, l3, l4⟩ := field.open_FdRow (S.hl F10 rfl) e10
  refine ⟨⟨⟨x0, x1, x2, x3, x4, x5, x6, pf, pv, tL, lL⟩, ta, tc, la, lc⟩, ⟨⟨wf_i64 _ w0, wf_i64 _ w1, wf_i64 _ w2, wf_i64 _ w3, wf_i64 _ w4, wf_i64 _ w5, wf_i64 _ w6, hpv.bn, t2⟩, hpf, t1, t3, t4, l1, l2, l3, l4⟩, ?_⟩
  simp only [List.cons.injEq, and_true] at q0 q1 q2 q3 q4 q5 q6
  rw [q0, q1, q2, q3, q4, q5, q6]
  rfl
theorem open_St_arg {r : Reach} {b0 : Nat} {t : TypeId} {v : Value} {d : DataW H} {pl : List MemPlace} (hT : StType P t)
  (hv : Value.okWide P W r b0 t v) (h : DataW.Trod enc P W 0 (fun _ => true) true t v d pl) : ∃ p : St, p.Good W ∧ v = p.val := by
 obtain ⟨F, S⟩ := id hT
 obtain ⟨cs, rfl, hsz⟩ := okWide_struct S.hs hv
 obtain ⟨fuel, hf⟩ := h
 rw [S.hC] at hsz
 obtain ⟨l⟩ := cs
 match l, hsz with
 | [c0, c1, c2, c3, c4, c5, c6, c7, c8, c9, c10, c11, c12, c13, c14, c15], _ =>
  obtain ⟨p, hp, he⟩ := St_cells hT (y := (d, pl)) (show DataW.trod enc P W 0 (fun _ => true) true fuel t [c0, c1, c2, c3, c4, c5, c6, c7, c8, c9, c10, c11, c12, c13, c14, c15] = some (d, pl) from hf)
  exact ⟨p, hp, by rw [he]; rfl⟩
theorem open_Sts {t e : TypeId} {a : Option Addr} {len cap : Nat} {d : DataW H} {pl : List MemPlace} (ht : P.underlying t = some (.slice e)) (hT : StType P e)
  (h0 : DataW.Trod enc P W 0 (fun _ => true) true t (.slice a len cap) d pl) : ∃ l : List St, len = l.length ∧ Sts W a l ∧ (∀ p ∈ l, p.Good W) ∧ len ≤ cap ∧ cap ≤ maxLen := by
 obtain ⟨fuel, hf⟩ := h0
 have hf2 : DataW.trod enc P W 0 (fun _ => true) true fuel t [.slice a len cap] = some (d, pl) := by simpa [Value.cells] using hf
 rcases open_slice ht hf2 with ⟨hcs, _⟩ | ⟨A, len', cap', q, n, D, Pl, hcs, _, hlc, hcm, hm, hx0, hrow⟩
 ·simp at hcs
  obtain ⟨rfl, rfl, rfl⟩ := hcs
  exact ⟨[], rfl, .inl rfl, by simp, Nat.le_refl _, by unfold maxLen; omega⟩
 ·simp at hcs
  obtain ⟨rfl, rfl, rfl⟩ := hcs
  simp only [if_true] at hm
  have hC : P.cellsOf e = 16 := by obtain ⟨F, S⟩ := id hT; exact S.hC
  have each : ∀ r, r < len → ∃ p : St, p.Good W ∧ ∀ (j : Nat) v, p.C[j]? = some v → W.cell? (A.add (r * 16 + j)) = some v := by
   intro r hr
   obtain ⟨cs', h1, h2⟩ := hrow r (by omega)
   rw [hC] at h1
   obtain ⟨_, hlen0, hcell⟩ := World.cells?_some h1
   obtain ⟨F, S⟩ := id hT
   obtain ⟨ys, m, _, _, hl, hlen, hx⟩ := DataW.trod_struct S.hs h2
   rw [hC] at hl
   match cs', hl with
   | [c0, c1, c2, c3, c4, c5, c6, c7, c8, c9, c10, c11, c12, c13, c14, c15], _ =>
    obtain ⟨p, hp, he⟩ := St_cells hT h2
    refine ⟨p, hp, fun j v hj => ?_⟩
    have hjl : j < 16 := (List.getElem?_eq_some_iff.1 hj).1
    have k := hcell j (by omega)
    rw [add_add] at k
    rw [k, he]
    exact hj
  obtain ⟨y, hy⟩ := choose_lt each
  refine ⟨(List.range len).map y, by simp, ?_, ?_, by omega, hcm⟩
  ·by_cases hz : len = 0
   ·subst hz; exact .inl rfl
   ·right
    obtain ⟨b, off, spot⟩ := A
    have hc0 := (hy 0 (by omega)).2 0 _ rfl
    have hspot : spot = none := by simpa [Addr.add] using World.cell?_spot hc0
    subst hspot
    have hb : b < W.heap.size := by
     have := World.block_lt_of_cell? W _ hc0
     simpa [Addr.add] using this
    refine ⟨b, off, rfl, hb, fun i p hp j v hj => ?_⟩
    have hi : i < len := by have := (List.getElem?_eq_some_iff.1 hp).1; simpa using this
    simp [hi] at hp
    subst hp
    have e := (hy i hi).2 j v hj
    rw [Addr.add_lit] at e
    rw [Nat.add_assoc]; exact e
  ·intro p hp
   obtain ⟨i, hi, rfl⟩ := List.mem_map.1 hp
   exact (hy i (List.mem_range.1 hi)).1
end
theorem stType : StType Tryz.prog 32 := by
 refine ⟨_, ⟨Tryz.underlying32, by kernel_rfl, by kernel_rfl, ?_, ?_, ?_, ?_, ?_⟩⟩
 rotate_left
 ·intro f hf
  obtain rfl := Option.some.inj hf
  exact ⟨_, _, _, _, _, Tryz.underlying26, by kernel_rfl, by kernel_rfl, by kernel_rfl, by kernel_rfl, by kernel_rfl, by kernel_rfl⟩
 ·intro f hf
  obtain rfl := Option.some.inj hf
  exact ⟨_, _, Tryz.underlying28, by kernel_rfl, by kernel_rfl, by kernel_rfl⟩
 ·intro f hf
  obtain rfl := Option.some.inj hf
  exact inRow
 ·intro f hf
  obtain rfl := Option.some.inj hf
  exact field.fdRow
 ·intro i hi f hf
  have h : i = 0 ∨ i = 1 ∨ i = 2 ∨ i = 3 ∨ i = 4 ∨ i = 5 ∨ i = 6 := by omega
  rcases h with rfl | rfl | rfl | rfl | rfl | rfl | rfl <;> (obtain rfl := Option.some.inj hf; exact Tryz.underlying3)
end Go.Proofs.YtaciegkblklokaaGreat.step
namespace Go.Proofs.YtaciegkblklokaaGreat
structure zP_ (s : step.Sp) (a : Option Addr) (c : Nat) (d : Option Addr) (e : Nat) where
def zP (s : step.Sp) (a : Option Addr) (c : Nat) (d : Option Addr) (e : Nat) : zP_ s a c d e := ⟨⟩
instance (s : step.Sp) (a : Option Addr) (c : Nat) (d : Option Addr) (e : Nat) (m : zP_ s a c d e) : CoeDep (zP_ s a c d e) m (List Value) := ⟨[.int .i64 s.op, .int .i64 s.fm, .int .i64 s.fd, .int .i64 s.pl, .int .i64 s.tt, .int .i64 s.a, .int .i64 s.b, .int .i64 s.f.id, .int .i64 s.f.kind, .int .i64 s.f.lo, .int .i64 s.f.hi, .int .i64 s.f.most, .int .i64 s.v.n, .string s.v.s, .slice a s.t.length c, .slice d s.l.length e]⟩
instance (s : step.Sp) (a : Option Addr) (c : Nat) (d : Option Addr) (e : Nat) (m : zP_ s a c d e) : CoeDep (zP_ s a c d e) m (Array Value) := ⟨#[.int .i64 s.op, .int .i64 s.fm, .int .i64 s.fd, .int .i64 s.pl, .int .i64 s.tt, .int .i64 s.a, .int .i64 s.b, .int .i64 s.f.id, .int .i64 s.f.kind, .int .i64 s.f.lo, .int .i64 s.f.hi, .int .i64 s.f.most, .int .i64 s.v.n, .string s.v.s, .slice a s.t.length c, .slice d s.l.length e]⟩
instance (s : step.Sp) (a : Option Addr) (c : Nat) (d : Option Addr) (e : Nat) (m : zP_ s a c d e) : CoeDep (zP_ s a c d e) m Value := ⟨.agg #[.int .i64 s.op, .int .i64 s.fm, .int .i64 s.fd, .int .i64 s.pl, .int .i64 s.tt, .int .i64 s.a, .int .i64 s.b, .int .i64 s.f.id, .int .i64 s.f.kind, .int .i64 s.f.lo, .int .i64 s.f.hi, .int .i64 s.f.most, .int .i64 s.v.n, .string s.v.s, .slice a s.t.length c, .slice d s.l.length e]⟩
end Go.Proofs.YtaciegkblklokaaGreat
namespace Go.Proofs.YtaciegkblklokaaGreat
structure zZ_  where
def zZ  : zZ_  := ⟨⟩
instance  (m : zZ_ ) : CoeDep (zZ_ ) m (List Value) := ⟨[.int .i64 0, .int .i64 0, .int .i64 0, .int .i64 0, .int .i64 0, .int .i64 0, .int .i64 0, .int .i64 0, .int .i64 0, .int .i64 0, .int .i64 0, .int .i64 0, .int .i64 0, .string ⟨#[]⟩, .slice none 0 0, .slice none 0 0]⟩
instance  (m : zZ_ ) : CoeDep (zZ_ ) m (Array Value) := ⟨#[.int .i64 0, .int .i64 0, .int .i64 0, .int .i64 0, .int .i64 0, .int .i64 0, .int .i64 0, .int .i64 0, .int .i64 0, .int .i64 0, .int .i64 0, .int .i64 0, .int .i64 0, .string ⟨#[]⟩, .slice none 0 0, .slice none 0 0]⟩
instance  (m : zZ_ ) : CoeDep (zZ_ ) m Value := ⟨.agg #[.int .i64 0, .int .i64 0, .int .i64 0, .int .i64 0, .int .i64 0, .int .i64 0, .int .i64 0, .int .i64 0, .int .i64 0, .int .i64 0, .int .i64 0, .int .i64 0, .int .i64 0, .string ⟨#[]⟩, .slice none 0 0, .slice none 0 0]⟩
end Go.Proofs.YtaciegkblklokaaGreat
namespace Go.Proofs.YtaciegkblklokaaGreat.schema
open Go.ChangeShapes Go.WideShapes Go.ChangeAt Go.RowKit Go.Deep
structure Sc where
 (ver : Int) (f : Option Addr) (fCap : Nat) (fL : List Fm)
instance : Inhabited Sc := ⟨⟨0, none, 0, []⟩⟩
def Sc.val (p : Sc) : Value := .agg #[.int .i64 p.ver, .slice p.f p.fL.length p.fCap]
structure Sc.Good (W : World) (p : Sc) : Prop where
 unit : True
 bver : -9223372036854775808 ≤ p.ver ∧ p.ver ≤ 9223372036854775807
 rf : Fms W p.f p.fL
 mf : ∀ y ∈ p.fL, y.Good W
 cf : p.fL.length ≤ p.fCap
 df : p.fCap ≤ maxLen
theorem Sc.Good.below {W W' : World} {p : Sc} (h : p.Good W) (hb : Below W.heap.size W W') : p.Good W' := ⟨h.unit, h.bver, h.rf.below hb, fun y hy => (h.mf y hy).below hb, h.cf, h.df⟩
section
variable {H : Type} {enc : TypeId × Value → H} {P : Program} {W : World}
theorem Sc_cells {t0 t1 : TypeId} {n : Nat} {v0 v1 : Value} {y0 y1 : DataW H × List MemPlace} (u0 : P.underlying t0 = some (.int .i64)) (u1 : FmRow P t1)
  (h0 : DataW.trod enc P W 0 (fun _ => true) true n t0 [v0] = some y0) (h1 : DataW.trod enc P W 0 (fun _ => true) true n t1 [v1] = some y1) :
  ∃ p : Sc, p.Good W ∧ v0 = .int .i64 p.ver ∧ v1 = .slice p.f p.fL.length p.fCap := by
 obtain ⟨x0, e0, _, w0⟩ := DataW.trod_int u0 h0
 have a0 := wf_i64 _ w0
 obtain ⟨q1, c1, M1, rfl, hr1, hM1, hl1, hc1⟩ := open_FmRow u1 h1
 exact ⟨⟨x0, q1, c1, M1⟩, ⟨trivial, a0, hr1, hM1, hl1, hc1⟩, by simpa using e0, rfl⟩
theorem open_Sc_arg {r : Reach} {b0 : Nat} {t : TypeId} {f0 f1 : Field} {v : Value} {d : DataW H} {pl : List MemPlace} (hs : P.underlying t = some (.struct #[f0, f1])) (u1 : FmRow P f1.type)
  (hv : Value.okWide P W r b0 t v) (h : DataW.Trod enc P W 0 (fun _ => true) true t v d pl) (hone : oneCellFields P #[f0, f1] = true := by kernel_rfl) (hC : P.cellsOf t = 2 := by kernel_rfl) (u0 : P.underlying f0.type = some (.int .i64) := by kernel_rfl) : ∃ p : Sc, p.Good W ∧ v = p.val := by
 obtain ⟨cs, rfl, hsz⟩ := okWide_struct hs hv
 obtain ⟨fuel, hf⟩ := h
 rw [hC] at hsz
 obtain ⟨l⟩ := cs
 match l, hsz with
 | [c0, c1], _ =>
  obtain ⟨ys, m, _, _, hl, hlen, hx⟩ := DataW.trod_struct hs hf
  have each : ∀ (i : Nat) (f : Field) (c : Value), #[f0, f1][i]? = some f → [c0, c1][i]? = some c → ∃ y, DataW.trod enc P W 0 (fun _ => true) true m f.type [c] = some y := by
   intro i f c hi hc
   obtain ⟨o, k⟩ := hone_of hone i f hi
   have hi6 : i < 2 := by have := (Array.getElem?_eq_some_iff.1 hi).1; simpa using this
   have h1 := hx i f hi
   rw [o, k] at h1
   have e : (((Value.agg ⟨[c0, c1]⟩).cells.toList.drop i).take 1) = [c] := by
    rw [List.take_one]
    have : ((Value.agg ⟨[c0, c1]⟩).cells.toList.drop i).head? = some c := by
     rw [List.head?_drop]; simpa [Value.cells] using hc
    rw [this]; rfl
   rw [e] at h1
   have hy : ys[i]? = some (ys[i]'(by rw [hlen]; exact hi6)) := List.getElem?_eq_getElem _
   exact ⟨_, h1.trans hy⟩
  obtain ⟨y0, g0⟩ := each 0 f0 c0 rfl rfl
  obtain ⟨y1, g1⟩ := each 1 f1 c1 rfl rfl
  obtain ⟨p, hp, rfl, rfl⟩ := Sc_cells u0 u1 g0 g1
  exact ⟨p, hp, rfl⟩
def Scs (w : World) (a : Option Addr) (l : List Sc) : Prop :=
 l = [] ∨ ∃ b off, a = some ⟨b, off, none⟩ ∧ b < w.heap.size ∧ ∀ i p, l[i]? = some p → w.cell? ⟨b, off + i * 2, none⟩ = some (.int .i64 p.ver) ∧ w.cell? ⟨b, off + i * 2 + 1, none⟩ = some (.slice p.f p.fL.length p.fCap)
end
theorem Scs.below {w w' : World} {a : Option Addr} {l : List Sc} (h : Scs w a l) (hb : Below w.heap.size w w') : Scs w' a l := by
 rcases h with h | ⟨b, off, ha, hlt, hc⟩
 ·exact .inl h
 ·refine .inr ⟨b, off, ha, Nat.lt_of_lt_of_le hlt hb.size, fun i p hp => ?_⟩
  rw [hb.cell (p := ⟨b, off + i * 2, none⟩) hlt, hb.cell (p := ⟨b, off + i * 2 + 1, none⟩) hlt]
  exact hc i p hp
theorem Scs.at {w : World} {a : Option Addr} {l : List Sc} (h : Scs w a l) {i : Nat} (hi : i < l.length) :
  ∃ b off p, a = some ⟨b, off, none⟩ ∧ b < w.heap.size ∧ l[i]? = some p ∧ w.cell? ⟨b, off + i * 2, none⟩ = some (.int .i64 p.ver) ∧ w.cell? ⟨b, off + i * 2 + 1, none⟩ = some (.slice p.f p.fL.length p.fCap) := by
 rcases h with rfl | ⟨b, off, ha, hlt, hc⟩
 ·simp at hi
 ·have hp := List.getElem?_eq_getElem hi
  exact ⟨b, off, _, ha, hlt, hp, hc i _ hp⟩
end Go.Proofs.YtaciegkblklokaaGreat.schema
namespace Go.Proofs.YtaciegkblklokaaGreat.field
open Go.RowKit
def Fd.Right (f : Fd) : Prop :=
 (0 ≤ f.id ∧ f.id ≤ 255) ∧ ((f.kind = 1 ∧ f.lo ≤ f.hi ∧ -1099511627776 ≤ f.lo ∧ f.hi ≤ 1099511627776 ∧ f.most = 0) ∨ (f.kind = 2 ∧ (f.lo = 0 ∧ f.hi = 0) ∧ f.most = 0) ∨
  (f.kind = 3 ∧ (f.lo = 0 ∧ f.hi = 0) ∧ 1 ≤ f.most ∧ f.most ≤ 1000) ∨ (f.kind = 4 ∧ (f.lo = 0 ∧ f.hi = 0) ∧ 0 ≤ f.most ∧ f.most ≤ 32))
instance (f : Fd) : Decidable f.Right := by unfold Fd.Right; infer_instance
def Fd.great (f : Fd) : Int := if f.kind = 1 then f.hi else if f.kind = 2 then 1 else if f.kind = 3 then f.most - 1 else 0
def Fd.long (f : Fd) : Int := if f.kind = 4 then f.most else 0
def Fd.Has (f : Fd) (v : Va) : Prop := f.Right ∧ (f.lo ≤ v.n ∧ v.n ≤ f.great) ∧ (v.s.size : Int) ≤ f.long
instance (f : Fd) (v : Va) : Decidable (f.Has v) := by unfold Fd.Has; infer_instance
def Fd.Wider (f g : Fd) : Prop := f.Right ∧ g.Right ∧ f.kind = g.kind ∧ g.lo ≤ f.lo ∧ f.hi ≤ g.hi ∧ f.most ≤ g.most
instance (f g : Fd) : Decidable (f.Wider g) := by unfold Fd.Wider; infer_instance
def wide (n : Nat) : Nat := if n = 0 then 0 else if n < 256 then 1 else if n < 65536 then 2 else if n < 16777216 then 3 else if n < 4294967296 then 4 else if n < 1099511627776 then 5 else 6
theorem wide_le (n : Nat) : wide n ≤ 6 := by
 unfold wide
 repeat' split
 all_goals omega
theorem wide_div {n : Nat} (h : 0 < n) (hn : n < 281474976710656) : wide n = wide (n / 256) + 1 := by
 unfold wide
 repeat' split
 all_goals omega
def Fd.size (f : Fd) : Nat := if f.Right then (if f.kind = 4 then 1 + f.most.toNat else wide (f.great - f.lo).toNat) else 0
theorem Fd.size_le (f : Fd) : f.size ≤ 33 := by
 unfold Fd.size
 split
 ·rename_i h
  unfold Fd.Right at h
  have := wide_le (f.great - f.lo).toNat
  split <;> omega
 ·omega
def num (xs : List Nat) : Nat := xs.foldl (fun a x => 256 * a + x) 0
structure Tk where
 (n : Int) (s : List Nat) (c : Nat) (e : Int)
def Fd.take (f : Fd) (xs : List Nat) : Tk :=
 if ¬ f.Right then ⟨0, [], 0, 2⟩ else if f.kind = 4 then
  (if xs.length < 1 then ⟨0, [], 0, 5⟩ else if f.most < (xs.getD 0 0 : Nat) then ⟨0, [], 0, 16⟩ else if xs.length < 1 + xs.getD 0 0 then ⟨0, [], 0, 5⟩ else ⟨0, (xs.drop 1).take (xs.getD 0 0), 1 + xs.getD 0 0, 0⟩)
 else if xs.length < f.size then ⟨0, [], 0, 5⟩ else if f.great - f.lo < (num (xs.take f.size) : Nat) then ⟨0, [], 0, 16⟩ else ⟨f.lo + (num (xs.take f.size) : Nat), [], f.size, 0⟩
theorem Fd.Right.span {f : Fd} (h : f.Right) : f.lo ≤ f.great ∧ f.great - f.lo ≤ 2199023255552 ∧ -1099511627776 ≤ f.lo ∧ f.lo ≤ 1099511627776 ∧ 0 ≤ f.long ∧ f.long ≤ 32 := by
 unfold Fd.Right at h
 unfold Fd.great Fd.long
 obtain ⟨_, h⟩ := h
 rcases h with h | h | h | h <;> obtain ⟨h1, h2⟩ := h <;> rw [h1] <;> simp <;> omega
theorem Fd.Wider.has {f g : Fd} {v : Va} (h : f.Wider g) (hv : f.Has v) : g.Has v := by
 obtain ⟨h1, h2, h3, h4, h5, h6⟩ := h
 obtain ⟨_, ⟨h7, h8⟩, h9⟩ := hv
 refine ⟨h2, ⟨by omega, ?_⟩, ?_⟩
 ·unfold Fd.great at h8 ⊢
  rw [← h3]
  split <;> rename_i hk
  ·simp [hk] at h8; omega
  ·simp only [hk, if_false] at h8
   split <;> rename_i hk2
   ·simp [hk2] at h8; omega
   ·simp only [hk2, if_false] at h8
    split <;> rename_i hk3
    ·simp [hk3] at h8; omega
    ·simp only [hk3, if_false] at h8; omega
 ·unfold Fd.long at h9 ⊢
  rw [← h3]
  split <;> rename_i hk
  ·simp [hk] at h9; omega
  ·simp only [hk, if_false] at h9; omega
end Go.Proofs.YtaciegkblklokaaGreat.field
namespace Go.Proofs.YtaciegkblklokaaGreat.pen
def vb (x : Nat) : List Nat := if h : x < 128 then [x] else (128 + x % 128) :: vb (x / 128)
 termination_by x
 decreasing_by omega
def grp : Nat → Nat → List Nat → Nat × Nat × Nat
 | _, _, [] => (0, 0, 5)
 | i, u, c :: r => if i = 9 ∧ 1 < c then (0, 0, 4) else if 0 < i ∧ c = 0 then (0, 0, 4) else if c < 128 then (u + c * 128 ^ i, i + 1, 0) else grp (i + 1) (u + (c - 128) * 128 ^ i) r
def zig (n : Int) : Nat := if n < 0 then (2 * (-n - 1) + 1).toNat else (2 * n).toNat
def unzig (u : Nat) : Int := if u % 2 = 1 then -((u / 2 : Nat) : Int) - 1 else ((u / 2 : Nat) : Int)
def wb (x : Nat) : List Nat := [x / 16777216, x / 65536 % 256, x / 256 % 256, x % 256]
def nums (s : List UInt8) : List Nat := s.map UInt8.toNat
abbrev Piece := Int × Int × List UInt8
def enc (p : Piece) : List Nat :=
 if p.1 = 0 then [(p.2.1 % 256).toNat] else if p.1 = 1 then (if p.2.1 < 0 then [] else vb p.2.1.toNat) else if p.1 = 2 then vb (zig p.2.1) else if p.1 = 3 then wb (p.2.1 % 4294967296).toNat
 else vb p.2.2.length ++ nums p.2.2
abbrev Sight := List Nat × Nat
def eNext (n : Nat) (s : Sight) : List Nat × Sight := if s.2 ≠ 0 then ([], s) else if s.1.length < n then ([], (s.1, 5)) else (s.1.take n, (s.1.drop n, 0))
def eVar (fits most : Nat) (s : Sight) : Nat × Sight :=
 if s.2 ≠ 0 then (0, s) else if (grp 0 0 s.1).2.2 ≠ 0 then (0, (s.1, (grp 0 0 s.1).2.2)) else if fits < (grp 0 0 s.1).1 then (0, (s.1, 4)) else if most < (grp 0 0 s.1).1 then (0, (s.1, 7))
 else ((grp 0 0 s.1).1, (s.1.drop (grp 0 0 s.1).2.1, 0))
def eCount (most : Int) (s : Sight) : Nat × Sight := eVar 9223372036854775807 (max most 0).toNat s
def eInt (s : Sight) : Int × Sight := (unzig (eVar 18446744073709551615 18446744073709551615 s).1, (eVar 18446744073709551615 18446744073709551615 s).2)
def eText (most : Int) (s : Sight) : List Nat × Sight :=
 ((eNext (eCount most s).1 (eCount most s).2).1, if (eNext (eCount most s).1 (eCount most s).2).2.2 ≠ 0 then (s.1, (eNext (eCount most s).1 (eCount most s).2).2.2) else (eNext (eCount most s).1 (eCount most s).2).2)
end Go.Proofs.YtaciegkblklokaaGreat.pen
