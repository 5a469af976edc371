/- Contracts and lemmas that the claims of this seat share: SchemaOpen, FieldMath, PenMath, SchemaMath, ValueEq, StepMath. Each says its own conditions. -/
import Derived.Test.YtpdnfiofjkbeiaaCmA
import Derived.Deep.Slices
import Derived.Deep.Strs
import Derived.Lib.SmallJoins
import Derived.Lib.AppendStr
import Derived.Laws.Strings
/- What a struct of 2 fields, and a list of such structs, that came in read as. No condition. -/
namespace Go.Proofs.Ytpdnfiofjkbeiaa.schema
open Go.ChangeShapes Go.WideShapes Go.ChangeAt Go.RowKit Go.Deep
set_option linter.unusedVariables false

structure Sc where
  (ver : Int) (f : Option Addr) (fCap : Nat) (fL : List Fm)
instance : Inhabited Sc := ⟨⟨0, none, 0, []⟩⟩
def Sc.val (p : Sc) : Value := .agg #[.int .i64 p.ver, .slice p.f p.fL.length p.fCap]
structure Sc.Good (W : World) (p : Sc) : Prop where
  unit : True
  bver : -9223372036854775808 ≤ p.ver ∧ p.ver ≤ 9223372036854775807
  rf : Fms W p.f p.fL
  mf : ∀ y ∈ p.fL, y.Good W
  cf : p.fL.length ≤ p.fCap
  df : p.fCap ≤ maxLen
theorem Sc.Good.below {W W' : World} {p : Sc} (h : p.Good W) (hb : Below W.heap.size W W') : p.Good W' := ⟨h.unit, h.bver, h.rf.below hb, fun y hy => (h.mf y hy).below hb, h.cf, h.df⟩
section
variable {H : Type} {enc : TypeId × Value → H} {P : Program} {W : World}
theorem Sc_cells {t0 t1 : TypeId} {n : Nat} {v0 v1 : Value} {y0 y1 : DataW H × List MemPlace} (u0 : P.underlying t0 = some (.int .i64)) (u1 : FmRow P t1)
    (h0 : DataW.trod enc P W 0 (fun _ => true) true n t0 [v0] = some y0) (h1 : DataW.trod enc P W 0 (fun _ => true) true n t1 [v1] = some y1) :
    ∃ p : Sc, p.Good W ∧ v0 = .int .i64 p.ver ∧ v1 = .slice p.f p.fL.length p.fCap := by
  obtain ⟨x0, e0, _, w0⟩ := DataW.trod_int u0 h0
  have a0 := wf_i64 _ w0
  obtain ⟨q1, c1, M1, rfl, hr1, hM1, hl1, hc1⟩ := open_FmRow u1 h1
  exact ⟨⟨x0, q1, c1, M1⟩, ⟨trivial, a0, hr1, hM1, hl1, hc1⟩, by simpa using e0, rfl⟩
theorem open_Sc_arg {r : Reach} {b0 : Nat} {t : TypeId} {f0 f1 : Field} {v : Value} {d : DataW H} {pl : List MemPlace} (hs : P.underlying t = some (.struct #[f0, f1])) (hone : oneCellFields P #[f0, f1] = true) (hC : P.cellsOf t = 2)
    (u0 : P.underlying f0.type = some (.int .i64)) (u1 : FmRow P f1.type)
    (hv : Value.okWide P W r b0 t v) (h : DataW.Trod enc P W 0 (fun _ => true) true t v d pl) : ∃ p : Sc, p.Good W ∧ v = p.val := by
  obtain ⟨cs, rfl, hsz⟩ := okWide_struct hs hv
  obtain ⟨fuel, hf⟩ := h
  rw [hC] at hsz
  obtain ⟨l⟩ := cs
  match l, hsz with
  | [c0, c1], _ =>
    obtain ⟨ys, m, _, _, hl, hlen, hx⟩ := DataW.trod_struct hs hf
    have each : ∀ (i : Nat) (f : Field) (c : Value), #[f0, f1][i]? = some f → [c0, c1][i]? = some c → ∃ y, DataW.trod enc P W 0 (fun _ => true) true m f.type [c] = some y := by
      intro i f c hi hc
      obtain ⟨o, k⟩ := hone_of hone i f hi
      have hi6 : i < 2 := by have := (Array.getElem?_eq_some_iff.1 hi).1; simpa using this
      have h1 := hx i f hi
      rw [o, k] at h1
      have e : (((Value.agg ⟨[c0, c1]⟩).cells.toList.drop i).take 1) = [c] := by
        rw [List.take_one]
        have : ((Value.agg ⟨[c0, c1]⟩).cells.toList.drop i).head? = some c := by
          rw [List.head?_drop]; simpa [Value.cells] using hc
        rw [this]; rfl
      rw [e] at h1
      have hy : ys[i]? = some (ys[i]'(by rw [hlen]; exact hi6)) := List.getElem?_eq_getElem _
      exact ⟨_, h1.trans hy⟩
    obtain ⟨y0, g0⟩ := each 0 f0 c0 rfl rfl
    obtain ⟨y1, g1⟩ := each 1 f1 c1 rfl rfl
    obtain ⟨p, hp, rfl, rfl⟩ := Sc_cells u0 u1 g0 g1
    exact ⟨p, hp, rfl⟩
/-- the slice at a reads as the list l -/
def Scs (w : World) (a : Option Addr) (l : List Sc) : Prop :=
  l = [] ∨ ∃ b off, a = some ⟨b, off, none⟩ ∧ b < w.heap.size ∧ ∀ i p, l[i]? = some p → w.cell? ⟨b, off + i * 2, none⟩ = some (.int .i64 p.ver) ∧ w.cell? ⟨b, off + i * 2 + 1, none⟩ = some (.slice p.f p.fL.length p.fCap)
theorem open_Scs {t e : TypeId} {f0 f1 : Field} {a : Option Addr} {len cap : Nat} {d : DataW H} {pl : List MemPlace} (ht : P.underlying t = some (.slice e)) (he : P.underlying e = some (.struct #[f0, f1])) (hone : oneCellFields P #[f0, f1] = true) (hC : P.cellsOf e = 2)
    (u0 : P.underlying f0.type = some (.int .i64)) (u1 : FmRow P f1.type)
    (h0 : DataW.Trod enc P W 0 (fun _ => true) true t (.slice a len cap) d pl) : ∃ l : List Sc, len = l.length ∧ Scs W a l ∧ (∀ p ∈ l, p.Good W) ∧ len ≤ cap ∧ cap ≤ maxLen := by
  obtain ⟨fuel, hf⟩ := h0
  have hf2 : DataW.trod enc P W 0 (fun _ => true) true fuel t [.slice a len cap] = some (d, pl) := by simpa [Value.cells] using hf
  rcases open_slice ht hf2 with ⟨hcs, _⟩ | ⟨A, len', cap', q, n, D, Pl, hcs, _, hlc, hcm, hm, hx0, hrow⟩
  · simp at hcs
    obtain ⟨rfl, rfl, rfl⟩ := hcs
    exact ⟨[], rfl, .inl rfl, by simp, Nat.le_refl _, by unfold maxLen; omega⟩
  · simp at hcs
    obtain ⟨rfl, rfl, rfl⟩ := hcs
    simp only [if_true] at hm
    have each : ∀ r, r < len → ∃ p : Sc, p.Good W ∧ W.cell? (A.add (r * 2)) = some (.int .i64 p.ver) ∧ W.cell? (A.add (r * 2 + 1)) = some (.slice p.f p.fL.length p.fCap) := by
      intro r hr
      obtain ⟨cs', h1, h2⟩ := hrow r (by omega)
      rw [hC] at h1
      obtain ⟨_, hlen0, hcell⟩ := World.cells?_some h1
      obtain ⟨ys, m, _, _, hl, hlen, hx⟩ := DataW.trod_struct he h2
      rw [hC] at hl
      match cs', hl with
      | [c0, c1], _ =>
        have each : ∀ (i : Nat) (f : Field) (c : Value), #[f0, f1][i]? = some f → [c0, c1][i]? = some c → ∃ y, DataW.trod enc P W 0 (fun _ => true) true m f.type [c] = some y := by
          intro i f c hi hc
          obtain ⟨o, k⟩ := hone_of hone i f hi
          have hi6 : i < 2 := by have := (Array.getElem?_eq_some_iff.1 hi).1; simpa using this
          have h1 := hx i f hi
          rw [o, k] at h1
          have e : (([c0, c1].drop i).take 1) = [c] := by
            rw [List.take_one]
            have : ([c0, c1].drop i).head? = some c := by
              rw [List.head?_drop]; simpa using hc
            rw [this]; rfl
          rw [e] at h1
          have hy : ys[i]? = some (ys[i]'(by rw [hlen]; exact hi6)) := List.getElem?_eq_getElem _
          exact ⟨_, h1.trans hy⟩
        obtain ⟨y0, g0⟩ := each 0 f0 c0 rfl rfl
        obtain ⟨y1, g1⟩ := each 1 f1 c1 rfl rfl
        obtain ⟨p, hp, rfl, rfl⟩ := Sc_cells u0 u1 g0 g1
        have k0 := hcell 0 (by omega)
        have k1 := hcell 1 (by omega)
        rw [add_add] at k0 k1
        exact ⟨p, hp, by simpa using k0, by simpa using k1⟩
    obtain ⟨y, hy⟩ := choose_lt each
    refine ⟨(List.range len).map y, by simp, ?_, ?_, by omega, hcm⟩
    · by_cases hz : len = 0
      · subst hz; exact .inl rfl
      · right
        obtain ⟨b, off, spot⟩ := A
        have hc0 := (hy 0 (by omega)).2.1
        have hspot : spot = none := by simpa [Addr.add] using World.cell?_spot hc0
        subst hspot
        have hb : b < W.heap.size := by
          have := World.block_lt_of_cell? W _ hc0
          simpa [Addr.add] using this
        refine ⟨b, off, rfl, hb, fun i p hp => ?_⟩
        have hi : i < len := by have := (List.getElem?_eq_some_iff.1 hp).1; simpa using this
        simp [hi] at hp
        subst hp
        obtain ⟨_, e50, e51⟩ := hy i hi
        rw [Addr.add_lit] at e50 e51
        exact ⟨e50, by rw [Nat.add_assoc]; exact e51⟩
    · intro p hp
      obtain ⟨i, hi, rfl⟩ := List.mem_map.1 hp
      exact (hy i (List.mem_range.1 hi)).1
end
theorem Scs.below {w w' : World} {a : Option Addr} {l : List Sc} (h : Scs w a l) (hb : Below w.heap.size w w') : Scs w' a l := by
  rcases h with h | ⟨b, off, ha, hlt, hc⟩
  · exact .inl h
  · refine .inr ⟨b, off, ha, Nat.lt_of_lt_of_le hlt hb.size, fun i p hp => ?_⟩
    rw [hb.cell (p := ⟨b, off + i * 2, none⟩) hlt, hb.cell (p := ⟨b, off + i * 2 + 1, none⟩) hlt]
    exact hc i p hp
theorem Scs.at {w : World} {a : Option Addr} {l : List Sc} (h : Scs w a l) {i : Nat} (hi : i < l.length) :
    ∃ b off p, a = some ⟨b, off, none⟩ ∧ b < w.heap.size ∧ l[i]? = some p ∧ w.cell? ⟨b, off + i * 2, none⟩ = some (.int .i64 p.ver) ∧ w.cell? ⟨b, off + i * 2 + 1, none⟩ = some (.slice p.f p.fL.length p.fCap) := by
  rcases h with rfl | ⟨b, off, ha, hlt, hc⟩
  · simp at hi
  · have hp := List.getElem?_eq_getElem hi
    exact ⟨b, off, _, ha, hlt, hp, hc i _ hp⟩
/-- all that is asked of the type of a slice of such structs -/
def ScRow (P : Program) (t : TypeId) : Prop := ∃ (e : TypeId) (f0 f1 : Field), P.underlying t = some (.slice e) ∧ P.underlying e = some (.struct #[f0, f1]) ∧ oneCellFields P #[f0, f1] = true ∧ P.cellsOf e = 2 ∧ P.underlying f0.type = some (.int .i64) ∧ FmRow P f1.type
theorem open_ScRow {H : Type} {enc : TypeId × Value → H} {P : Program} {W : World} {t : TypeId} {v : Value} {n : Nat} {y : DataW H × List MemPlace} (hR : ScRow P t) (h : DataW.trod enc P W 0 (fun _ => true) true n t [v] = some y) : ∃ a cap L, v = .slice a (List.length L) cap ∧ Scs W a L ∧ (∀ p ∈ L, p.Good W) ∧ L.length ≤ cap ∧ cap ≤ maxLen := by
  obtain ⟨e, f0, f1, ht, he, hone, hC, u0, u1⟩ := hR
  have hv : ∃ a len cap, v = .slice a len cap := by
    rcases open_slice ht h with ⟨hcs, _⟩ | ⟨A, len, cap, m, n1, D, Pl, hcs, _⟩
    · exact ⟨none, 0, 0, by simpa using hcs⟩
    · exact ⟨_, _, _, by simpa using hcs⟩
  obtain ⟨a, len, cap, rfl⟩ := hv
  obtain ⟨L, rfl, h1, h2, h3, h4⟩ := open_Scs ht he hone hC u0 u1 (W := W) (enc := enc) (d := y.1) (pl := y.2) ⟨n, by simpa [Value.cells] using h⟩
  exact ⟨a, cap, L, rfl, h1, h2, h3, h4⟩
end Go.Proofs.Ytpdnfiofjkbeiaa.schema
/- Fields and their values by plain numbers: when a field is right, what belongs to it, how a value is written and read. No condition. -/
namespace Go.Proofs.Ytpdnfiofjkbeiaa.field
open Go.RowKit
set_option linter.unusedVariables false

/-- the bytes of a string -/
def bytesOf (s : ByteArray) : List Nat := s.data.toList.map UInt8.toNat
theorem bytesOf_length (s : ByteArray) : (bytesOf s).length = s.size := by unfold bytesOf; rw [List.length_map, Array.length_toList]; rfl
theorem bytesOf_lt (s : ByteArray) : ∀ x ∈ bytesOf s, x < 256 := by
  intro x hx
  obtain ⟨b, _, rfl⟩ := List.mem_map.1 hx
  exact b.toNat_lt
theorem strOf_nil : strOf [] = ⟨#[]⟩ := rfl
theorem strOf_bytes (s : ByteArray) : strOf (bytesOf s) = s := by
  obtain ⟨l⟩ := s
  unfold strOf strOfNums bytesOf
  congr 1
  apply Array.ext'
  simp [List.map_map, Function.comp_def]
theorem bytes_strOf {xs : List Nat} (h : ∀ x ∈ xs, x < 256) : bytesOf (strOf xs) = xs := by
  unfold strOf strOfNums bytesOf
  simp only [List.map_map]
  conv => rhs; rw [← List.map_id xs]
  apply List.map_congr_left
  intro x hx
  have := h x hx
  simp [UInt8.toNat_ofNat', Nat.mod_eq_of_lt this]
theorem strOf_size (xs : List Nat) : (strOf xs).size = xs.length := by unfold strOf; rw [strOfNums_size]; simp
theorem strCells_bytes (s : ByteArray) : Lib.strCells s = (bytesOf s).map fun x : Nat => Value.int .u8 (x : Int) := by
  simp [Lib.strCells, bytesOf, List.map_map, Function.comp_def]

def Fd.Right (f : Fd) : Prop :=
  (0 ≤ f.id ∧ f.id ≤ 255) ∧ ((f.kind = 1 ∧ f.lo ≤ f.hi ∧ -1099511627776 ≤ f.lo ∧ f.hi ≤ 1099511627776 ∧ f.most = 0) ∨ (f.kind = 2 ∧ (f.lo = 0 ∧ f.hi = 0) ∧ f.most = 0) ∨
    (f.kind = 3 ∧ (f.lo = 0 ∧ f.hi = 0) ∧ 1 ≤ f.most ∧ f.most ≤ 1000) ∨ (f.kind = 4 ∧ (f.lo = 0 ∧ f.hi = 0) ∧ 0 ≤ f.most ∧ f.most ≤ 32))
instance (f : Fd) : Decidable f.Right := by unfold Fd.Right; infer_instance
/-- the greatest number, and the length of the longest text -/
def Fd.great (f : Fd) : Int := if f.kind = 1 then f.hi else if f.kind = 2 then 1 else if f.kind = 3 then f.most - 1 else 0
def Fd.long (f : Fd) : Int := if f.kind = 4 then f.most else 0
def Fd.Has (f : Fd) (v : Va) : Prop := f.Right ∧ (f.lo ≤ v.n ∧ v.n ≤ f.great) ∧ (v.s.size : Int) ≤ f.long
instance (f : Fd) (v : Va) : Decidable (f.Has v) := by unfold Fd.Has; infer_instance
def Fd.least (f : Fd) : Int := if f.Right then f.lo else 0
def Fd.Wider (f g : Fd) : Prop := f.Right ∧ g.Right ∧ f.kind = g.kind ∧ g.lo ≤ f.lo ∧ f.hi ≤ g.hi ∧ f.most ≤ g.most
instance (f g : Fd) : Decidable (f.Wider g) := by unfold Fd.Wider; infer_instance

/-- how many bytes hold numbers up to n -/
def wide (n : Nat) : Nat := if n = 0 then 0 else if n < 256 then 1 else if n < 65536 then 2 else if n < 16777216 then 3 else if n < 4294967296 then 4 else if n < 1099511627776 then 5 else 6
theorem wide_le (n : Nat) : wide n ≤ 6 := by
  unfold wide
  repeat' split
  all_goals omega
theorem wide_div {n : Nat} (h : 0 < n) (hn : n < 281474976710656) : wide n = wide (n / 256) + 1 := by
  unfold wide
  repeat' split
  all_goals omega
theorem wide_lt {n : Nat} (hn : n < 281474976710656) : n < 256 ^ wide n := by
  unfold wide
  repeat' split
  all_goals first | omega | (simp; omega)
def Fd.size (f : Fd) : Nat := if f.Right then (if f.kind = 4 then 1 + f.most.toNat else wide (f.great - f.lo).toNat) else 0
theorem Fd.size_le (f : Fd) : f.size ≤ 33 := by
  unfold Fd.size
  split
  · rename_i h
    unfold Fd.Right at h
    have := wide_le (f.great - f.lo).toNat
    split <;> omega
  · omega

/-- the last k bytes of n, the greatest first -/
def digits (k n : Nat) : List Nat := (List.range k).map fun p => n / 256 ^ (k - 1 - p) % 256
theorem digits_length (k n : Nat) : (digits k n).length = k := by simp [digits]
theorem digits_lt (k n : Nat) : ∀ x ∈ digits k n, x < 256 := by
  intro x hx
  obtain ⟨p, _, rfl⟩ := List.mem_map.1 hx
  exact Nat.mod_lt _ (by omega)
theorem digits_snoc (k n : Nat) : digits (k + 1) n = digits k (n / 256) ++ [n % 256] := by
  unfold digits
  rw [List.range_succ, List.map_append]
  congr 1
  · apply List.map_congr_left
    intro p hp
    have hp := List.mem_range.1 hp
    rw [show k + 1 - 1 - p = (k - 1 - p) + 1 by omega, Nat.pow_succ, Nat.mul_comm, ← Nat.div_div_eq_div_mul]
  · simp
theorem digits_cons (k n : Nat) : digits (k + 1) n = (n / 256 ^ k % 256) :: digits k n := by
  unfold digits
  rw [List.range_succ_eq_map, List.map_cons, List.map_map]
  congr 1
  apply List.map_congr_left
  intro p hp
  simp only [Function.comp]
  rw [show k + 1 - 1 - Nat.succ p = k - 1 - p by omega]
/-- the number that bytes are -/
def num (xs : List Nat) : Nat := xs.foldl (fun a x => 256 * a + x) 0
theorem num_snoc (xs : List Nat) (x : Nat) : num (xs ++ [x]) = 256 * num xs + x := by simp [num, List.foldl_append]
theorem num_digits : ∀ (k n : Nat), num (digits k n) = n % 256 ^ k
  | 0, n => by simp [digits, num, Nat.mod_one]
  | k + 1, n => by
    rw [digits_snoc, num_snoc, num_digits k, Nat.pow_succ, Nat.mul_comm (256 ^ k) 256, Nat.mod_mul]
    omega
theorem num_lt : ∀ (k : Nat) (xs : List Nat), xs.length = k → (∀ x ∈ xs, x < 256) → num xs < 256 ^ k
  | 0, xs, h, _ => by
    obtain rfl := List.eq_nil_of_length_eq_zero h
    simp [num]
  | k + 1, xs, h, hx => by
    have hne : xs ≠ [] := by intro h0; simp [h0] at h
    have hd := List.dropLast_concat_getLast hne
    have hl : xs.dropLast.length = k := by simp [h]
    have h1 := num_lt k xs.dropLast hl (fun x hm => hx x ((List.dropLast_sublist xs).subset hm))
    have h2 := hx _ (List.getLast_mem hne)
    rw [← hd, num_snoc, Nat.pow_succ]
    omega
theorem digits_num : ∀ (k : Nat) (xs : List Nat), xs.length = k → (∀ x ∈ xs, x < 256) → digits k (num xs) = xs
  | 0, xs, h, _ => by
    obtain rfl := List.eq_nil_of_length_eq_zero h
    simp [digits]
  | k + 1, xs, h, hx => by
    have hne : xs ≠ [] := by intro h0; simp [h0] at h
    have hd := List.dropLast_concat_getLast hne
    have hl : xs.dropLast.length = k := by simp [h]
    have h1 := digits_num k xs.dropLast hl (fun x hm => hx x ((List.dropLast_sublist xs).subset hm))
    have h2 := hx _ (List.getLast_mem hne)
    conv => lhs; rw [← hd, num_snoc]
    rw [digits_snoc, show (256 * num xs.dropLast + xs.getLast hne) / 256 = num xs.dropLast by omega, show (256 * num xs.dropLast + xs.getLast hne) % 256 = xs.getLast hne by omega, h1]
    exact hd

/-- what Lay answers: the bytes and the error -/
def Fd.layE (f : Fd) (v : Va) : Int := if ¬ f.Right then 2 else if ¬ f.Has v then 16 else 0
def Fd.layB (f : Fd) (v : Va) : List Nat := if ¬ f.Has v then [] else if f.kind = 4 then v.s.size :: bytesOf v.s else digits f.size (v.n - f.lo).toNat
/-- what Take answers: the number and the bytes of the text, how many bytes it took, the error -/
structure Tk where
  (n : Int) (s : List Nat) (c : Nat) (e : Int)
def Fd.take (f : Fd) (xs : List Nat) : Tk :=
  if ¬ f.Right then ⟨0, [], 0, 2⟩ else if f.kind = 4 then
    (if xs.length < 1 then ⟨0, [], 0, 5⟩ else if f.most < (xs.getD 0 0 : Nat) then ⟨0, [], 0, 16⟩ else if xs.length < 1 + xs.getD 0 0 then ⟨0, [], 0, 5⟩ else ⟨0, (xs.drop 1).take (xs.getD 0 0), 1 + xs.getD 0 0, 0⟩)
  else if xs.length < f.size then ⟨0, [], 0, 5⟩ else if f.great - f.lo < (num (xs.take f.size) : Nat) then ⟨0, [], 0, 16⟩ else ⟨f.lo + (num (xs.take f.size) : Nat), [], f.size, 0⟩

theorem Fd.Right.span {f : Fd} (h : f.Right) : f.lo ≤ f.great ∧ f.great - f.lo ≤ 2199023255552 ∧ -1099511627776 ≤ f.lo ∧ f.lo ≤ 1099511627776 ∧ 0 ≤ f.long ∧ f.long ≤ 32 := by
  unfold Fd.Right at h
  unfold Fd.great Fd.long
  obtain ⟨_, h⟩ := h
  rcases h with h | h | h | h <;> obtain ⟨h1, h2⟩ := h <;> rw [h1] <;> simp <;> omega
theorem Fd.layB_lt (f : Fd) (v : Va) : ∀ x ∈ f.layB v, x < 256 := by
  unfold Fd.layB
  split
  · simp
  · rename_i h
    have h' : f.Has v := Classical.not_not.1 h
    obtain ⟨hr, _, h3⟩ := h'
    have := hr.span
    split
    · intro x hx
      rcases List.mem_cons.1 hx with rfl | hx
      · omega
      · exact bytesOf_lt _ x hx
    · exact digits_lt _ _
/-- a written value is read again, whatever stands behind it -/
theorem Fd.take_lay {f : Fd} {v : Va} (h : f.Has v) (more : List Nat) : f.take (f.layB v ++ more) = ⟨v.n, bytesOf v.s, (f.layB v).length, 0⟩ ∧ (f.layB v).length ≤ f.size := by
  have hh := h
  obtain ⟨hr, ⟨h1, h2⟩, h3⟩ := h
  have hs := hr.span
  have hL : f.layB v = if f.kind = 4 then v.s.size :: bytesOf v.s else digits f.size (v.n - f.lo).toNat := by unfold Fd.layB; rw [if_neg (show ¬¬ f.Has v from fun h => h hh)]
  rw [hL]
  unfold Fd.take
  rw [if_neg (show ¬¬ f.Right from fun h => h hr)]
  by_cases hk : f.kind = 4
  · have hr' := hr
    unfold Fd.Right at hr'
    have hg : f.great = 0 ∧ f.long = f.most := by simp [Fd.great, Fd.long, hk]
    have hv : v.n = 0 := by omega
    have hb := bytesOf_length v.s
    rw [if_pos hk, if_pos hk]
    simp only [List.cons_append, List.length_cons, List.getD_cons_zero, List.length_append, List.drop_succ_cons, List.drop_zero]
    rw [if_neg (by omega), if_neg (by omega), if_neg (by omega)]
    refine ⟨?_, ?_⟩
    · rw [hv, List.take_append_of_le_length (by omega), List.take_of_length_le (by omega), hb]
      congr 1; omega
    · unfold Fd.size; rw [if_pos hr, if_pos hk]; omega
  · rw [if_neg hk, if_neg hk]
    have hl : f.long = 0 := by simp [Fd.long, hk]
    have hse : bytesOf v.s = [] := List.eq_nil_of_length_eq_zero (by rw [bytesOf_length]; omega)
    have hsz : f.size = wide (f.great - f.lo).toNat := by unfold Fd.size; rw [if_pos hr, if_neg hk]
    have hw := wide_lt (n := (f.great - f.lo).toNat) (by omega)
    rw [← hsz] at hw
    have ht : (digits f.size (v.n - f.lo).toNat ++ more).take f.size = digits f.size (v.n - f.lo).toNat := by
      rw [List.take_append_of_le_length (by rw [digits_length]; omega), List.take_of_length_le (by rw [digits_length]; omega)]
    have hn : num (digits f.size (v.n - f.lo).toNat) = (v.n - f.lo).toNat := by rw [num_digits, Nat.mod_eq_of_lt (by omega)]
    rw [ht, hn, List.length_append, digits_length, if_neg (by omega), if_neg (by omega), hse]
    refine ⟨?_, by omega⟩
    congr 1; omega
/-- what was read belongs to the field, and has the bytes that were read -/
theorem Fd.lay_take {f : Fd} {xs : List Nat} (hx : ∀ x ∈ xs, x < 256) (h : (f.take xs).e = 0) :
    f.Has ⟨(f.take xs).n, strOf (f.take xs).s⟩ ∧ (f.take xs).c ≤ xs.length ∧ f.layB ⟨(f.take xs).n, strOf (f.take xs).s⟩ = xs.take (f.take xs).c := by
  have hx' : ∀ x ∈ (f.take xs).s, x < 256 := by
    unfold Fd.take
    split
    · simp
    · split
      · split
        · simp
        · split
          · simp
          · split
            · simp
            · intro x hm; exact hx x (List.mem_of_mem_drop (List.mem_of_mem_take hm))
      · split
        · simp
        · split <;> simp
  by_cases hr : f.Right
  case neg => simp [Fd.take, hr] at h
  have hs := hr.span
  by_cases hk : f.kind = 4
  · have hr' := hr
    unfold Fd.Right at hr'
    have hg : f.great = 0 ∧ f.long = f.most := by simp [Fd.great, Fd.long, hk]
    by_cases h1 : xs.length < 1
    · unfold Fd.take at h; rw [if_neg (show ¬¬ f.Right from fun h => h hr), if_pos hk, if_pos h1] at h; simp at h
    by_cases h2 : f.most < (xs.getD 0 0 : Nat)
    · unfold Fd.take at h; rw [if_neg (show ¬¬ f.Right from fun h => h hr), if_pos hk, if_neg h1, if_pos h2] at h; simp at h
    by_cases h3 : xs.length < 1 + xs.getD 0 0
    · unfold Fd.take at h; rw [if_neg (show ¬¬ f.Right from fun h => h hr), if_pos hk, if_neg h1, if_neg h2, if_pos h3] at h; simp at h
    have ht : f.take xs = ⟨0, (xs.drop 1).take (xs.getD 0 0), 1 + xs.getD 0 0, 0⟩ := by
      unfold Fd.take; rw [if_neg (show ¬¬ f.Right from fun h => h hr), if_pos hk, if_neg h1, if_neg h2, if_neg h3]
    rw [ht] at hx' ⊢
    simp only at hx' ⊢
    have hsl : (strOf ((xs.drop 1).take (xs.getD 0 0))).size = xs.getD 0 0 := by rw [strOf_size, List.length_take, List.length_drop]; omega
    have hH : f.Has ⟨0, strOf ((xs.drop 1).take (xs.getD 0 0))⟩ := by
      refine ⟨hr, ⟨by simp only; omega, by simp only; omega⟩, ?_⟩
      simp only; rw [hsl]; omega
    refine ⟨hH, by omega, ?_⟩
    unfold Fd.layB
    rw [if_neg (show ¬¬ f.Has _ from fun h => h hH), if_pos hk]
    simp only
    rw [hsl, bytes_strOf hx']
    cases xs with
    | nil => simp at h1
    | cons y ys => simp [Nat.add_comm 1]
  · by_cases h1 : xs.length < f.size
    · unfold Fd.take at h; rw [if_neg (show ¬¬ f.Right from fun h => h hr), if_neg hk, if_pos h1] at h; simp at h
    by_cases h2 : f.great - f.lo < (num (xs.take f.size) : Nat)
    · unfold Fd.take at h; rw [if_neg (show ¬¬ f.Right from fun h => h hr), if_neg hk, if_neg h1, if_pos h2] at h; simp at h
    have ht : f.take xs = ⟨f.lo + (num (xs.take f.size) : Nat), [], f.size, 0⟩ := by
      unfold Fd.take; rw [if_neg (show ¬¬ f.Right from fun h => h hr), if_neg hk, if_neg h1, if_neg h2]
    rw [ht]
    simp only
    have hH : f.Has ⟨f.lo + (num (xs.take f.size) : Nat), strOf []⟩ := by
      refine ⟨hr, ⟨by simp only; omega, by simp only; omega⟩, ?_⟩
      simp only; rw [strOf_size]; simp; omega
    refine ⟨hH, by omega, ?_⟩
    unfold Fd.layB
    rw [if_neg (show ¬¬ f.Has _ from fun h => h hH), if_neg hk]
    simp only
    rw [show (f.lo + (num (xs.take f.size) : Nat) - f.lo).toNat = num (xs.take f.size) by omega]
    exact digits_num _ _ (by rw [List.length_take]; omega) (fun x hm => hx x (List.mem_of_mem_take hm))
theorem Fd.Wider.has {f g : Fd} {v : Va} (h : f.Wider g) (hv : f.Has v) : g.Has v := by
  obtain ⟨h1, h2, h3, h4, h5, h6⟩ := h
  obtain ⟨_, ⟨h7, h8⟩, h9⟩ := hv
  refine ⟨h2, ⟨by omega, ?_⟩, ?_⟩
  · unfold Fd.great at h8 ⊢
    rw [← h3]
    split <;> rename_i hk
    · simp [hk] at h8; omega
    · simp only [hk, if_false] at h8
      split <;> rename_i hk2
      · simp [hk2] at h8; omega
      · simp only [hk2, if_false] at h8
        split <;> rename_i hk3
        · simp [hk3] at h8; omega
        · simp only [hk3, if_false] at h8; omega
  · unfold Fd.long at h9 ⊢
    rw [← h3]
    split <;> rename_i hk
    · simp [hk] at h9; omega
    · simp only [hk, if_false] at h9; omega
theorem Fd.least_has (f : Fd) : f.Right ↔ f.Has ⟨f.least, ⟨#[]⟩⟩ := by
  constructor
  · intro h
    have hs := h.span
    refine ⟨h, ?_, ?_⟩
    · unfold Fd.least; rw [if_pos h]; simp only; omega
    · show ((0 : Nat) : Int) ≤ _; omega
  · exact fun h => h.1
theorem Fd.wider_self (f : Fd) : f.Right ↔ f.Wider f := ⟨fun h => ⟨h, h, rfl, Int.le_refl _, Int.le_refl _, Int.le_refl _⟩, fun h => h.1⟩
end Go.Proofs.Ytpdnfiofjkbeiaa.field
/- Counts of seven bits a byte, numbers with a sign and words as bytes: what is written, and how it is read. No condition. -/
namespace Go.Proofs.Ytpdnfiofjkbeiaa.pen
set_option linter.unusedVariables false

/-- the bytes of a count -/
def vb (x : Nat) : List Nat := if h : x < 128 then [x] else (128 + x % 128) :: vb (x / 128)
  termination_by x
  decreasing_by omega
theorem vb_small {x : Nat} (h : x < 128) : vb x = [x] := by rw [vb, dif_pos h]
theorem vb_big {x : Nat} (h : ¬ x < 128) : vb x = (128 + x % 128) :: vb (x / 128) := by rw [vb, dif_neg h]
theorem vb_lt (x : Nat) : ∀ c ∈ vb x, c < 256 := by
  induction x using Nat.strongRecOn with
  | _ x ih =>
    intro c hc
    by_cases h : x < 128
    · rw [vb_small h, List.mem_singleton] at hc; omega
    · rw [vb_big h] at hc
      rcases List.mem_cons.1 hc with rfl | hc
      · omega
      · exact ih _ (by omega) c hc
theorem vb_pos (x : Nat) : 0 < (vb x).length := by
  by_cases h : x < 128
  · rw [vb_small h]; simp
  · rw [vb_big h]; simp
theorem vb_len : ∀ (k x : Nat), x < 128 ^ (k + 1) → (vb x).length ≤ k + 1
  | 0, x, h => by rw [vb_small (by simpa using h)]; simp
  | k + 1, x, h => by
    by_cases h1 : x < 128
    · rw [vb_small h1]; simp
    · have := vb_len k (x / 128) (by rw [Nat.pow_succ] at h; omega)
      rw [vb_big h1, List.length_cons]; omega
theorem vb_ten (x : Nat) (h : x < 18446744073709551616) : (vb x).length ≤ 10 := vb_len 9 x (by omega)

/-- the value of the groups, how many bytes, and the error: 4 another form, 5 it ends -/
def grp : Nat → Nat → List Nat → Nat × Nat × Nat
  | _, _, [] => (0, 0, 5)
  | i, u, c :: r => if i = 9 ∧ 1 < c then (0, 0, 4) else if 0 < i ∧ c = 0 then (0, 0, 4) else if c < 128 then (u + c * 128 ^ i, i + 1, 0) else grp (i + 1) (u + (c - 128) * 128 ^ i) r
theorem grp_vb (x : Nat) : ∀ (i u : Nat) (r : List Nat), i ≤ 9 → x * 128 ^ i < 18446744073709551616 → (i = 0 ∨ 0 < x) → grp i u (vb x ++ r) = (u + x * 128 ^ i, i + (vb x).length, 0) := by
  induction x using Nat.strongRecOn with
  | _ x ih =>
    intro i u r hi hx h0
    by_cases h : x < 128
    · rw [vb_small h, List.singleton_append, grp]
      rw [if_neg, if_neg, if_pos h]
      · rfl
      · omega
      · rintro ⟨rfl, h1⟩; omega
    · have hi9 : i ≠ 9 := by rintro rfl; omega
      have hp : x * 128 ^ i = (x % 128) * 128 ^ i + (x / 128) * 128 ^ (i + 1) := by
        rw [Nat.pow_succ, Nat.mul_comm (128 ^ i) 128, ← Nat.mul_assoc, ← Nat.add_mul]
        congr 1; omega
      rw [vb_big h, List.cons_append, grp, if_neg (by omega), if_neg (by omega), if_neg (by omega), ih (x / 128) (by omega) (i + 1) _ r (by omega) (by omega) (by omega)]
      rw [List.length_cons, show 128 + x % 128 - 128 = x % 128 by omega, hp]
      congr 1
      · omega
      · congr 1; omega
theorem grp_of_vb (x : Nat) (h : x < 18446744073709551616) (r : List Nat) : grp 0 0 (vb x ++ r) = (x, (vb x).length, 0) := by
  rw [grp_vb x 0 0 r (by omega) (by simpa using h) (.inl rfl)]; simp
/-- what grp may answer -/
def GrpOk (i n : Nat) (a : Nat × Nat × Nat) : Prop := a.1 < 18446744073709551616 ∧ (a.2.2 = 0 → a.2.1 ≤ i + n) ∧ a.2.1 ≤ 10 ∧ (a.2.2 = 0 ∨ a.2.2 = 4 ∨ a.2.2 = 5)
theorem grp_ok : ∀ (l : List Nat) (i u : Nat), i ≤ 9 → u < 128 ^ i → (∀ c ∈ l, c < 256) → GrpOk i l.length (grp i u l)
  | [], i, u, hi, hu, hl => ⟨by simp [grp], by simp [grp], by simp [grp], by simp [grp]⟩
  | c :: r, i, u, hi, hu, hl => by
    have hc := hl c (by simp)
    unfold grp
    split
    · exact ⟨by simp, by simp, by simp, by simp⟩
    · split
      · exact ⟨by simp, by simp, by simp, by simp⟩
      · rename_i h1 h2
        split
        · rename_i h3
          refine ⟨?_, fun _ => by simp only [List.length_cons]; omega, by show i + 1 ≤ 10; omega, by simp⟩
          show u + c * 128 ^ i < 18446744073709551616
          by_cases h9 : i = 9
          · subst h9
            have : c ≤ 1 := by omega
            have : c * 128 ^ 9 ≤ 1 * 128 ^ 9 := Nat.mul_le_mul_right _ this
            omega
          · have hle : (c + 1) * 128 ^ i ≤ 128 * 128 ^ i := Nat.mul_le_mul_right _ (by omega)
            rw [Nat.add_mul] at hle
            have h8 : 128 * 128 ^ i ≤ 128 ^ 9 := by rw [Nat.mul_comm, ← Nat.pow_succ]; exact Nat.pow_le_pow_right (by omega) (by omega)
            omega
        · rename_i h3
          have h9 : i ≠ 9 := by rintro rfl; omega
          have hle : (c - 128 + 1) * 128 ^ i ≤ 128 * 128 ^ i := Nat.mul_le_mul_right _ (by omega)
          rw [Nat.add_mul] at hle
          have := grp_ok r (i + 1) (u + (c - 128) * 128 ^ i) (by omega) (by rw [Nat.pow_succ, Nat.mul_comm (128 ^ i) 128]; omega) (fun d hd => hl d (by simp [hd]))
          exact ⟨this.1, fun h => by have := this.2.1 h; simp only [List.length_cons]; omega, this.2.2.1, this.2.2.2⟩

/-- the number of a number with its sign, and back -/
def zig (n : Int) : Nat := if n < 0 then (2 * (-n - 1) + 1).toNat else (2 * n).toNat
def unzig (u : Nat) : Int := if u % 2 = 1 then -((u / 2 : Nat) : Int) - 1 else ((u / 2 : Nat) : Int)
theorem unzig_zig (n : Int) : unzig (zig n) = n := by
  unfold zig unzig
  split
  · rw [if_pos (by omega)]; omega
  · rw [if_neg (by omega)]; omega
theorem zig_lt (n : Int) (h1 : -9223372036854775808 ≤ n) (h2 : n ≤ 9223372036854775807) : zig n < 18446744073709551616 := by
  unfold zig; split <;> omega
/-- the bytes of a word -/
def wb (x : Nat) : List Nat := [x / 16777216, x / 65536 % 256, x / 256 % 256, x % 256]
theorem wb_lt (x : Nat) (h : x < 4294967296) : ∀ c ∈ wb x, c < 256 := by
  intro c hc
  simp only [wb, List.mem_cons, List.not_mem_nil, or_false] at hc
  omega
/-- bytes as a number -/
def folded (l : List Nat) : Nat := l.foldl (fun x b => 256 * x + b) 0
theorem folded_wb (x : Nat) (h : x < 4294967296) : folded (wb x) = x := by
  simp only [folded, wb, List.foldl_cons, List.foldl_nil]; omega
theorem folded_one (x : Nat) : folded [x] = x := by simp [folded]
theorem folded_snoc (l : List Nat) (x : Nat) : folded (l ++ [x]) = 256 * folded l + x := by simp [folded]
theorem folded_lt : ∀ (n : Nat) (l : List Nat), l.length = n → (∀ c ∈ l, c < 256) → folded l < 256 ^ n := by
  intro n
  induction n with
  | zero => intro l h _; obtain rfl := List.eq_nil_of_length_eq_zero h; simp [folded]
  | succ n ih =>
    intro l h hl
    have hne : l ≠ [] := by intro e; rw [e] at h; simp at h
    rw [← List.dropLast_concat_getLast hne, folded_snoc]
    have h1 := ih l.dropLast (by simp [h]) (fun c hc => hl c ((List.dropLast_sublist l).subset hc))
    have h2 := hl _ (List.getLast_mem hne)
    rw [Nat.pow_succ]; omega
/-- the bytes of a string, as numbers -/
def nums (s : List UInt8) : List Nat := s.map UInt8.toNat
theorem nums_lt (s : List UInt8) : ∀ c ∈ nums s, c < 256 := by
  intro c hc
  obtain ⟨b, _, rfl⟩ := List.mem_map.1 hc
  exact b.toNat_lt
theorem nums_len (s : List UInt8) : (nums s).length = s.length := by simp [nums]

/-- a piece: kind, number, text -/
abbrev Piece := Int × Int × List UInt8
/-- what the document writes for a piece -/
def enc (p : Piece) : List Nat :=
  if p.1 = 0 then [(p.2.1 % 256).toNat] else if p.1 = 1 then (if p.2.1 < 0 then [] else vb p.2.1.toNat) else if p.1 = 2 then vb (zig p.2.1) else if p.1 = 3 then wb (p.2.1 % 4294967296).toNat
  else vb p.2.2.length ++ nums p.2.2
def encs (l : List Piece) : List Nat := (l.map enc).flatten
/-- a count that is negative -/
def ill (p : Piece) : Bool := p.1 == 1 && decide (p.2.1 < 0)
theorem enc_lt (p : Piece) : ∀ c ∈ enc p, c < 256 := by
  intro c hc
  unfold enc at hc
  split at hc
  · rw [List.mem_singleton] at hc; omega
  · split at hc
    · split at hc
      · cases hc
      · exact vb_lt _ c hc
    · split at hc
      · exact vb_lt _ c hc
      · split at hc
        · exact wb_lt _ (by omega) c hc
        · rcases List.mem_append.1 hc with h | h
          · exact vb_lt _ c h
          · exact nums_lt _ c h

/-! the reading: what was not read, and the first error -/
abbrev Sight := List Nat × Nat
def eNext (n : Nat) (s : Sight) : List Nat × Sight := if s.2 ≠ 0 then ([], s) else if s.1.length < n then ([], (s.1, 5)) else (s.1.take n, (s.1.drop n, 0))
def eNum (n : Nat) (s : Sight) : Nat × Sight := (folded (eNext n s).1, (eNext n s).2)
def eVar (fits most : Nat) (s : Sight) : Nat × Sight :=
  if s.2 ≠ 0 then (0, s) else if (grp 0 0 s.1).2.2 ≠ 0 then (0, (s.1, (grp 0 0 s.1).2.2)) else if fits < (grp 0 0 s.1).1 then (0, (s.1, 4)) else if most < (grp 0 0 s.1).1 then (0, (s.1, 7))
  else ((grp 0 0 s.1).1, (s.1.drop (grp 0 0 s.1).2.1, 0))
def eCount (most : Int) (s : Sight) : Nat × Sight := eVar 9223372036854775807 (max most 0).toNat s
def eInt (s : Sight) : Int × Sight := (unzig (eVar 18446744073709551615 18446744073709551615 s).1, (eVar 18446744073709551615 18446744073709551615 s).2)
def eText (most : Int) (s : Sight) : List Nat × Sight :=
  ((eNext (eCount most s).1 (eCount most s).2).1, if (eNext (eCount most s).1 (eCount most s).2).2.2 ≠ 0 then (s.1, (eNext (eCount most s).1 (eCount most s).2).2.2) else (eNext (eCount most s).1 (eCount most s).2).2)
def eEnd (s : Sight) : Nat := if s.2 = 0 ∧ 0 < s.1.length then 6 else s.2
theorem eNext_lt {n : Nat} {s : Sight} (h : ∀ c ∈ s.1, c < 256) : ∀ c ∈ (eNext n s).1, c < 256 := by
  unfold eNext
  split
  · intro c hc; cases hc
  · split
    · intro c hc; cases hc
    · intro c hc; exact h c (List.mem_of_mem_take hc)
theorem eNext_len (n : Nat) (s : Sight) : (eNext n s).1.length ≤ n := by
  unfold eNext
  split
  · exact Nat.zero_le _
  · split
    · exact Nat.zero_le _
    · rw [List.length_take]; exact Nat.min_le_left _ _
theorem eNum_lt (n : Nat) (s : Sight) (h : ∀ c ∈ s.1, c < 256) (hn : n ≤ 4) : (eNum n s).1 < 4294967296 := by
  have h1 := folded_lt _ _ rfl (eNext_lt (n := n) h)
  have h2 := eNext_len n s
  have h3 : 256 ^ (eNext n s).1.length ≤ 256 ^ 4 := Nat.pow_le_pow_right (by omega) (by omega)
  unfold eNum
  show folded _ < _
  omega
theorem eNum_one (s : Sight) (h : ∀ c ∈ s.1, c < 256) : (eNum 1 s).1 < 256 := by
  have h1 := folded_lt _ _ rfl (eNext_lt (n := 1) h)
  have h2 := eNext_len 1 s
  have h3 : 256 ^ (eNext 1 s).1.length ≤ 256 ^ 1 := Nat.pow_le_pow_right (by omega) (by omega)
  unfold eNum
  show folded _ < _
  omega
theorem grp_ok0 (l : List Nat) (h : ∀ c ∈ l, c < 256) : GrpOk 0 l.length (grp 0 0 l) := grp_ok l 0 0 (by omega) (by simp) h
theorem eVar_le (fits most : Nat) (s : Sight) : (eVar fits most s).1 ≤ fits ∧ (eVar fits most s).1 ≤ most := by
  unfold eVar
  split
  · exact ⟨Nat.zero_le _, Nat.zero_le _⟩
  · split
    · exact ⟨Nat.zero_le _, Nat.zero_le _⟩
    · split
      · exact ⟨Nat.zero_le _, Nat.zero_le _⟩
      · split
        · exact ⟨Nat.zero_le _, Nat.zero_le _⟩
        · exact ⟨by omega, by omega⟩

/-! there and back -/
theorem eNext_enc (n : Nat) (a r : List Nat) (h : a.length = n) : eNext n (a ++ r, 0) = (a, (r, 0)) := by
  subst h
  simp [eNext]
theorem eVar_vb (fits most x : Nat) (r : List Nat) (h : x < 18446744073709551616) (h1 : x ≤ fits) (h2 : x ≤ most) : eVar fits most (vb x ++ r, 0) = (x, (r, 0)) := by
  unfold eVar
  rw [if_neg (by simp)]
  show (if (grp 0 0 (vb x ++ r)).2.2 ≠ 0 then _ else _) = _
  rw [grp_of_vb x h r]
  simp only [ne_eq, not_true_eq_false, if_false]
  rw [if_neg (by omega), if_neg (by omega)]
  simp
end Go.Proofs.Ytpdnfiofjkbeiaa.pen
/- Forms and schemas by plain lists: when they are right, what they are as bytes, how bytes are read. No condition. -/
namespace Go.Proofs.Ytpdnfiofjkbeiaa.schema
open Go.RowKit Go.Proofs.Ytpdnfiofjkbeiaa.pen
set_option linter.unusedVariables false

instance : DecidableEq field.Fd := fun a b =>
  if h : a.id = b.id ∧ a.kind = b.kind ∧ a.lo = b.lo ∧ a.hi = b.hi ∧ a.most = b.most then isTrue (by cases a; cases b; simp_all) else isFalse (by rintro rfl; simp at h)
abbrev Form := Int × List field.Fd
def Fm.p (f : Fm) : Form := (f.id, f.fL)
def forms (F : List Fm) : List Form := F.map Fm.p
theorem forms_length (F : List Fm) : (forms F).length = F.length := List.length_map _
theorem forms_at {F : List Fm} {i : Nat} {p : Fm} (h : F[i]? = some p) : (forms F)[i]? = some p.p := by simp [forms, h]
def size (L : List field.Fd) : Nat := (L.map field.Fd.size).sum
def ids (L : List field.Fd) : List Int := L.map field.Fd.id
def FineF (L : List field.Fd) : Prop := (∀ f ∈ L, f.Right) ∧ (ids L).Nodup
instance (L : List field.Fd) : Decidable (FineF L) := by unfold FineF; infer_instance
def Fine (p : Form) : Prop := (0 ≤ p.1 ∧ p.1 ≤ 200) ∧ (1 ≤ p.2.length ∧ p.2.length ≤ 8) ∧ FineF p.2 ∧ size p.2 ≤ 64
instance (p : Form) : Decidable (Fine p) := by unfold Fine; infer_instance
def FineS (F : List Form) : Prop := (∀ p ∈ F, Fine p) ∧ (F.map (·.1)).Pairwise (· < ·)
instance (F : List Form) : Decidable (FineS F) := by unfold FineS; infer_instance
def Right (v : Int) (F : List Form) : Prop := (1 ≤ v ∧ v ≤ 65535) ∧ F.length ≤ 8 ∧ FineS F
instance (v : Int) (F : List Form) : Decidable (Right v F) := by unfold Right; infer_instance

theorem fd_size_le (f : field.Fd) : f.size ≤ 33 := by
  have := @field.wide_le
  unfold field.Fd.size
  split
  · rename_i h
    split
    · unfold field.Fd.Right at h; omega
    · exact Nat.le_trans (this _) (by omega)
  · omega
theorem size_le (L : List field.Fd) : size L ≤ 33 * L.length := by
  induction L with
  | nil => simp [size]
  | cons f L ih =>
    have := fd_size_le f
    simp only [size, List.map_cons, List.sum_cons, List.length_cons] at ih ⊢
    omega
theorem take_succ_at {α : Type} {L : List α} {k : Nat} {x : α} (h : L[k]? = some x) : L.take (k + 1) = L.take k ++ [x] := by
  rw [List.take_add_one, h]; rfl
theorem size_succ {L : List field.Fd} {k : Nat} {x : field.Fd} (h : L[k]? = some x) : size (L.take (k + 1)) = size (L.take k) + x.size := by
  rw [take_succ_at h]; simp [size]
theorem size_take (L : List field.Fd) (k : Nat) : size (L.take k) ≤ 33 * k := by
  have := size_le (L.take k)
  simp at this
  omega
/-- the fields, one by one -/
theorem FineF.nil : FineF [] := ⟨by simp, by simp [ids]⟩
theorem fineF_succ {L : List field.Fd} {k : Nat} {x : field.Fd} (h : L[k]? = some x) : FineF (L.take (k + 1)) ↔ FineF (L.take k) ∧ x.Right ∧ x.id ∉ ids (L.take k) := by
  rw [take_succ_at h]
  unfold FineF ids
  simp only [List.map_append, List.map_cons, List.map_nil, List.nodup_append, List.mem_append, List.mem_singleton]
  constructor
  · rintro ⟨h1, h2, h3, h4⟩
    refine ⟨⟨fun f hf => h1 f (.inl hf), h2⟩, h1 x (.inr rfl), fun hm => h4 _ hm _ rfl rfl⟩
  · rintro ⟨⟨h1, h2⟩, h3, h4⟩
    refine ⟨fun f hf => hf.elim (h1 f) (fun e => e ▸ h3), h2, by simp, fun a ha b hb e => h4 (by rw [← hb, ← e]; exact ha)⟩
theorem fineF_take {L : List field.Fd} (h : FineF L) (k : Nat) : FineF (L.take k) :=
  ⟨fun f hf => h.1 f (List.mem_of_mem_take hf), by unfold ids; rw [List.map_take]; exact h.2.sublist (List.take_sublist _ _)⟩
theorem fineF_no {L : List field.Fd} {k : Nat} {x : field.Fd} (h : L[k]? = some x) (hn : ¬ (x.Right ∧ x.id ∉ ids (L.take k))) : ¬ FineF L := fun hf => hn ((fineF_succ h).1 (fineF_take hf _)).2
/-- the forms, one by one -/
theorem FineS.nil : FineS [] := ⟨by simp, by simp⟩
theorem fineS_succ {F : List Form} {k : Nat} {x : Form} (h : F[k]? = some x) : FineS (F.take (k + 1)) ↔ FineS (F.take k) ∧ Fine x ∧ ∀ p ∈ F.take k, p.1 < x.1 := by
  rw [take_succ_at h]
  unfold FineS
  simp only [List.map_append, List.map_cons, List.map_nil, List.pairwise_append, List.mem_append, List.mem_singleton, List.mem_map]
  constructor
  · rintro ⟨h1, h2, h3, h4⟩
    exact ⟨⟨fun f hf => h1 f (.inl hf), h2⟩, h1 x (.inr rfl), fun p hp => h4 _ ⟨p, hp, rfl⟩ _ rfl⟩
  · rintro ⟨⟨h1, h2⟩, h3, h4⟩
    exact ⟨fun f hf => hf.elim (h1 f) (fun e => e ▸ h3), h2, by simp, by rintro a ⟨p, hp, rfl⟩ b rfl; exact h4 p hp⟩
theorem fineS_take {F : List Form} (h : FineS F) (k : Nat) : FineS (F.take k) :=
  ⟨fun f hf => h.1 f (List.mem_of_mem_take hf), by rw [List.map_take]; exact h.2.sublist (List.take_sublist _ _)⟩
theorem fineS_no {F : List Form} {k : Nat} {x : Form} (h : F[k]? = some x) (hn : ¬ (Fine x ∧ ∀ p ∈ F.take k, p.1 < x.1)) : ¬ FineS F := fun hf => hn ((fineS_succ h).1 (fineS_take hf _)).2
/-- the last before k decides -/
theorem rise {F : List Form} {k : Nat} {y x : Form} (hy : F[k]? = some y) (hk : FineS (F.take (k + 1))) : (∀ p ∈ F.take (k + 1), p.1 < x.1) ↔ y.1 < x.1 := by
  have h1 := (fineS_succ hy).1 hk
  rw [take_succ_at hy]
  constructor
  · intro h; exact h y (by simp)
  · intro h p hp
    rcases List.mem_append.1 hp with h2 | h2
    · have := h1.2.2 p h2; omega
    · obtain rfl := List.mem_singleton.1 h2; exact h

/-! bytes -/
def fieldB (f : field.Fd) : List Nat := vb f.id.toNat ++ vb f.kind.toNat ++ (if f.kind = 1 then vb (zig f.lo) ++ vb (zig f.hi) else if f.kind = 3 ∨ f.kind = 4 then vb f.most.toNat else [])
def fieldsB (L : List field.Fd) : List Nat := (L.map fieldB).flatten
def formB (p : Form) : List Nat := vb p.1.toNat ++ vb p.2.length ++ fieldsB p.2
def formsB (F : List Form) : List Nat := (F.map formB).flatten
def schemaB (v : Int) (F : List Form) : List Nat := vb v.toNat ++ vb F.length ++ formsB F
theorem fieldsB_succ {L : List field.Fd} {k : Nat} {x : field.Fd} (h : L[k]? = some x) : fieldsB (L.take (k + 1)) = fieldsB (L.take k) ++ fieldB x := by
  rw [take_succ_at h]; simp [fieldsB]
theorem formsB_succ {F : List Form} {k : Nat} {x : Form} (h : F[k]? = some x) : formsB (F.take (k + 1)) = formsB (F.take k) ++ formB x := by
  rw [take_succ_at h]; simp [formsB]
theorem right_span {f : field.Fd} (h : f.Right) : (0 ≤ f.id ∧ f.id ≤ 255) ∧ (1 ≤ f.kind ∧ f.kind ≤ 4) ∧ (-1099511627776 ≤ f.lo ∧ f.lo ≤ 1099511627776) ∧ (-1099511627776 ≤ f.hi ∧ f.hi ≤ 1099511627776) ∧ (0 ≤ f.most ∧ f.most ≤ 1000) := by
  unfold field.Fd.Right at h; omega
theorem fieldB_len {f : field.Fd} (h : f.Right) : (fieldB f).length ≤ 40 := by
  have hs := right_span h
  have h1 := vb_ten f.id.toNat (by omega)
  have h2 := vb_ten f.kind.toNat (by omega)
  have h3 := vb_ten (zig f.lo) (zig_lt _ (by omega) (by omega))
  have h4 := vb_ten (zig f.hi) (zig_lt _ (by omega) (by omega))
  have h5 := vb_ten f.most.toNat (by omega)
  unfold fieldB
  split <;> (try split) <;> simp only [List.length_append, List.length_nil] <;> omega
theorem fieldsB_len {L : List field.Fd} (h : ∀ f ∈ L, f.Right) : (fieldsB L).length ≤ 40 * L.length := by
  induction L with
  | nil => simp [fieldsB]
  | cons f L ih =>
    have h1 := fieldB_len (h f (by simp))
    have h2 := ih (fun g hg => h g (by simp [hg]))
    simp only [fieldsB, List.map_cons, List.flatten_cons, List.length_append, List.length_cons] at h2 ⊢
    omega
theorem formB_len {p : Form} (h : Fine p) : (formB p).length ≤ 340 := by
  have h1 := vb_ten p.1.toNat (by have := h.1; omega)
  have h2 := vb_ten p.2.length (by have := h.2.1; omega)
  have h3 := fieldsB_len h.2.2.1.1
  have := h.2.1
  simp only [formB, List.length_append]
  omega
theorem formsB_len {F : List Form} (h : ∀ p ∈ F, Fine p) : (formsB F).length ≤ 340 * F.length := by
  induction F with
  | nil => simp [formsB]
  | cons f L ih =>
    have h1 := formB_len (h f (by simp))
    have h2 := ih (fun g hg => h g (by simp [hg]))
    simp only [formsB, List.map_cons, List.flatten_cons, List.length_append, List.length_cons] at h2 ⊢
    omega
/-! reading -/
def takeF (s : Sight) : field.Fd × Sight :=
  let a := eCount 255 s
  let k := eCount 4 a.2
  if k.1 = 1 then let l := eInt k.2; let h := eInt l.2; (⟨a.1, 1, l.1, h.1, 0⟩, h.2)
  else if k.1 = 3 ∨ k.1 = 4 then let m := eCount 1000 k.2; (⟨a.1, k.1, 0, 0, m.1⟩, m.2)
  else (⟨a.1, k.1, 0, 0, 0⟩, k.2)
def takeFs : Nat → Sight → List field.Fd × Sight
  | 0, s => ([], s)
  | n + 1, s => ((takeFs n s).1 ++ [(takeF (takeFs n s).2).1], (takeF (takeFs n s).2).2)
def takeFm (s : Sight) : Form × Sight :=
  let a := eCount 200 s
  let n := eCount 8 a.2
  let r := takeFs n.1 n.2
  (((a.1 : Int), r.1), r.2)
def takeFms : Nat → Sight → List Form × Sight
  | 0, s => ([], s)
  | n + 1, s => ((takeFms n s).1 ++ [(takeFm (takeFms n s).2).1], (takeFm (takeFms n s).2).2)
theorem takeFs_len (n : Nat) (s : Sight) : (takeFs n s).1.length = n := by
  induction n with
  | zero => rfl
  | succ n ih => simp [takeFs, ih]
theorem takeFms_len (n : Nat) (s : Sight) : (takeFms n s).1.length = n := by
  induction n with
  | zero => rfl
  | succ n ih => simp [takeFms, ih]
/-- what is read of bytes, before it is checked -/
def readV (xs : List Nat) : Nat × Sight := eCount 65535 (xs, 0)
def readN (xs : List Nat) : Nat × Sight := eCount 8 (readV xs).2
def readF (xs : List Nat) : List Form × Sight := takeFms (readN xs).1 (readN xs).2
/-- the schema of bytes, and the error -/
def parsed (xs : List Nat) : Int × List Form × Nat :=
  if eEnd (readF xs).2 ≠ 0 then (0, [], eEnd (readF xs).2)
  else if Right (readV xs).1 (readF xs).1 then ((readV xs).1, (readF xs).1, 0)
  else (0, [], 2)
end Go.Proofs.Ytpdnfiofjkbeiaa.schema
/- Two values of fields are the same or not. No condition. -/
namespace Go.Proofs.Ytpdnfiofjkbeiaa.record
open Go.RowKit
open Go.Proofs.Ytpdnfiofjkbeiaa.field (Va)
set_option linter.unusedVariables false

instance : DecidableEq Va := fun a b =>
  if h : a.n = b.n ∧ a.s.toList = b.s.toList then isTrue (by
    obtain ⟨n, ⟨⟨s⟩⟩⟩ := a
    obtain ⟨m, ⟨⟨t⟩⟩⟩ := b
    obtain ⟨h1, h2⟩ := h
    simp only at h1 h2
    rw [ByteArray.toList_eq, ByteArray.toList_eq] at h2
    simp only at h2
    subst h1 h2; rfl) else isFalse (by rintro rfl; simp at h)
theorem va_eq {n m : Int} {s t : ByteArray} : (⟨n, s⟩ : Va) = ⟨m, t⟩ ↔ n = m ∧ s.toList = t.toList := by
  constructor
  · intro h; cases h; exact ⟨rfl, rfl⟩
  · rintro ⟨rfl, h⟩
    obtain ⟨⟨s⟩⟩ := s
    obtain ⟨⟨t⟩⟩ := t
    rw [ByteArray.toList_eq, ByteArray.toList_eq] at h
    simp only at h
    subst h; rfl

end Go.Proofs.Ytpdnfiofjkbeiaa.record
/- Steps by plain values: which members an operation uses, when a step is right, what steps are as bytes, how bytes are read. No condition. -/
namespace Go.Proofs.Ytpdnfiofjkbeiaa.step
open Go.RowKit Go.Proofs.Ytpdnfiofjkbeiaa.pen
open Go.Proofs.Ytpdnfiofjkbeiaa.schema (take_succ_at)
open Go.Proofs.Ytpdnfiofjkbeiaa.field (bytesOf)
set_option linter.unusedVariables false

instance : DecidableEq Sp := fun x y =>
  if h : x.op = y.op ∧ x.fm = y.fm ∧ x.fd = y.fd ∧ x.pl = y.pl ∧ x.tt = y.tt ∧ x.a = y.a ∧ x.b = y.b ∧ x.f = y.f ∧ x.v = y.v ∧ x.t = y.t ∧ x.l = y.l then isTrue (by
    cases x; cases y; simp only at h
    obtain ⟨rfl, rfl, rfl, rfl, rfl, rfl, rfl, rfl, rfl, rfl, rfl⟩ := h; rfl) else isFalse (by rintro rfl; simp at h)
abbrev fd0 : field.Fd := ⟨0, 0, 0, 0, 0⟩
abbrev va0 : field.Va := ⟨0, ⟨#[]⟩⟩
abbrev Sp.zero : Sp := ⟨0, 0, 0, 0, 0, 0, 0, fd0, va0, [], []⟩
/-- the members that an operation uses -/
def mem (op : Int) : List Nat :=
  if op = 1 ∨ op = 22 then [0, 2, 9] else if op = 2 then [0, 1, 10] else if op = 3 ∨ op = 23 then [0, 1, 8] else if op = 4 then [0, 1, 5] else if op = 24 then [0, 1, 5, 8]
  else if op = 5 then [0, 1, 6] else if op = 25 then [0, 1, 7] else if op = 6 then [0, 1, 4, 3] else if op = 26 then [0, 1, 4, 3, 8] else if op = 7 ∨ op = 27 then [0, 1, 2]
  else if op = 8 ∨ op = 28 then [0, 1, 3] else if op = 9 ∨ op = 30 then [0, 11] else if op = 10 ∨ op = 29 then [0] else if op = 21 then [0, 1] else []
/-- the same by the reference's letters -/
def uses (op : Int) : List UInt8 :=
  if op = 1 ∨ op = 22 then [102, 112, 70, 86] else if op = 2 then [102, 100, 86] else if op = 3 ∨ op = 23 then [102, 100, 70] else if op = 4 then [102, 100, 98] else if op = 24 then [102, 100, 98, 70]
  else if op = 5 then [102, 100, 97, 84] else if op = 25 then [102, 100, 84] else if op = 6 then [102, 100, 97, 116] else if op = 26 then [102, 100, 97, 116, 70] else if op = 7 ∨ op = 27 then [102, 100, 112]
  else if op = 8 ∨ op = 28 then [102, 100, 116] else if op = 9 ∨ op = 30 then [102, 76] else if op = 10 ∨ op = 29 then [102] else if op = 21 then [102, 100] else []
/-- a member's letters -/
def lets (m : Nat) : List UInt8 :=
  if m = 0 then [102] else if m = 1 then [100] else if m = 2 then [112] else if m = 3 then [116] else if m = 4 then [97] else if m = 5 then [98] else if m = 6 then [97, 84] else if m = 7 then [84]
  else if m = 8 then [70] else if m = 9 then [70, 86] else if m = 10 then [86] else [76]
/-- the operations, one by one -/
theorem ops (op : Int) : (op = 1 ∨ op = 22 ∨ op = 2 ∨ op = 3 ∨ op = 23 ∨ op = 4 ∨ op = 24 ∨ op = 5 ∨ op = 25 ∨ op = 6 ∨ op = 26 ∨ op = 7 ∨ op = 27 ∨ op = 8 ∨ op = 28 ∨ op = 9 ∨ op = 30 ∨ op = 10 ∨ op = 29 ∨ op = 21) ∨
    (¬ op = 1 ∧ ¬ op = 22 ∧ ¬ op = 2 ∧ ¬ op = 3 ∧ ¬ op = 23 ∧ ¬ op = 4 ∧ ¬ op = 24 ∧ ¬ op = 5 ∧ ¬ op = 25 ∧ ¬ op = 6 ∧ ¬ op = 26 ∧ ¬ op = 7 ∧ ¬ op = 27 ∧ ¬ op = 8 ∧ ¬ op = 28 ∧ ¬ op = 9 ∧ ¬ op = 30 ∧ ¬ op = 10 ∧ ¬ op = 29 ∧ ¬ op = 21) := by omega
theorem mem_none {op : Int} (h : ¬ op = 1 ∧ ¬ op = 22 ∧ ¬ op = 2 ∧ ¬ op = 3 ∧ ¬ op = 23 ∧ ¬ op = 4 ∧ ¬ op = 24 ∧ ¬ op = 5 ∧ ¬ op = 25 ∧ ¬ op = 6 ∧ ¬ op = 26 ∧ ¬ op = 7 ∧ ¬ op = 27 ∧ ¬ op = 8 ∧ ¬ op = 28 ∧ ¬ op = 9 ∧ ¬ op = 30 ∧ ¬ op = 10 ∧ ¬ op = 29 ∧ ¬ op = 21) : mem op = [] ∧ uses op = [] := by
  unfold mem uses
  simp [h]
/-- what holds of each operation holds of all -/
theorem all_ops {Q : Int → Prop} (h1 : Q 1) (h22 : Q 22) (h2 : Q 2) (h3 : Q 3) (h23 : Q 23) (h4 : Q 4) (h24 : Q 24) (h5 : Q 5) (h25 : Q 25) (h6 : Q 6) (h26 : Q 26) (h7 : Q 7) (h27 : Q 27) (h8 : Q 8) (h28 : Q 28) (h9 : Q 9) (h30 : Q 30) (h10 : Q 10) (h29 : Q 29) (h21 : Q 21)
    (h0 : ∀ op, mem op = [] → uses op = [] → Q op) (op : Int) : Q op := by
  rcases ops op with h | h
  · rcases h with rfl | rfl | rfl | rfl | rfl | rfl | rfl | rfl | rfl | rfl | rfl | rfl | rfl | rfl | rfl | rfl | rfl | rfl | rfl | rfl <;> assumption
  · exact h0 op (mem_none h).1 (mem_none h).2
theorem uses_mem (op : Int) : uses op = ((mem op).map lets).flatten := by
  refine all_ops (Q := fun op => uses op = ((mem op).map lets).flatten) ?_ ?_ ?_ ?_ ?_ ?_ ?_ ?_ ?_ ?_ ?_ ?_ ?_ ?_ ?_ ?_ ?_ ?_ ?_ ?_ ?h0 op
  case h0 => intro op h1 h2; rw [h1, h2]; rfl
  all_goals rfl
theorem mem_lt (op : Int) : ∀ m ∈ mem op, m < 12 := by
  refine all_ops (Q := fun op => ∀ m ∈ mem op, m < 12) ?_ ?_ ?_ ?_ ?_ ?_ ?_ ?_ ?_ ?_ ?_ ?_ ?_ ?_ ?_ ?_ ?_ ?_ ?_ ?_ ?h0 op
  case h0 => intro op h1 h2; rw [h1]; simp
  all_goals decide
theorem mem_span {op : Int} (h : mem op ≠ []) : 1 ≤ op ∧ op ≤ 30 := by
  rcases ops op with h1 | h1
  · omega
  · exact absurd (mem_none h1).1 h
theorem mem_len (op : Int) : (mem op).length ≤ 5 := by
  refine all_ops (Q := fun op => (mem op).length ≤ 5) ?_ ?_ ?_ ?_ ?_ ?_ ?_ ?_ ?_ ?_ ?_ ?_ ?_ ?_ ?_ ?_ ?_ ?_ ?_ ?_ ?h0 op
  case h0 => intro op h1 h2; rw [h1]; simp
  all_goals decide
theorem uses_len (op : Int) : (uses op).length ≤ 5 := by
  refine all_ops (Q := fun op => (uses op).length ≤ 5) ?_ ?_ ?_ ?_ ?_ ?_ ?_ ?_ ?_ ?_ ?_ ?_ ?_ ?_ ?_ ?_ ?_ ?_ ?_ ?_ ?h0 op
  case h0 => intro op h1 h2; rw [h2]; simp
  all_goals decide
theorem uses_nil (op : Int) : uses op = [] ↔ mem op = [] := by
  refine all_ops (Q := fun op => uses op = [] ↔ mem op = []) ?_ ?_ ?_ ?_ ?_ ?_ ?_ ?_ ?_ ?_ ?_ ?_ ?_ ?_ ?_ ?_ ?_ ?_ ?_ ?_ ?h0 op
  case h0 => intro op h1 h2; rw [h1, h2]; exact ⟨fun _ => rfl, fun _ => rfl⟩
  all_goals decide
/-- the ten letters -/
def Letter (c : UInt8) : Prop := c = 102 ∨ c = 100 ∨ c = 112 ∨ c = 116 ∨ c = 97 ∨ c = 98 ∨ c = 70 ∨ c = 86 ∨ c = 84 ∨ c = 76
instance (c : UInt8) : Decidable (Letter c) := by unfold Letter; infer_instance
theorem uses_letter (op : Int) : ∀ c ∈ uses op, Letter c := by
  refine all_ops (Q := fun op => ∀ c ∈ uses op, Letter c) ?_ ?_ ?_ ?_ ?_ ?_ ?_ ?_ ?_ ?_ ?_ ?_ ?_ ?_ ?_ ?_ ?_ ?_ ?_ ?_ ?h0 op
  case h0 => intro op h1 h2; rw [h2]; simp
  all_goals decide

/-! right -/
def Table (t : List Int) (lim : Int) : Prop := (1 ≤ t.length ∧ t.length ≤ 64) ∧ (∀ n ∈ t, 0 ≤ n ∧ n ≤ lim - 1) ∧ t.Nodup
instance (t : List Int) (lim : Int) : Decidable (Table t lim) := by unfold Table; infer_instance
/-- a member that is used is as it must be -/
def Sp.Fine (s : Sp) (m : Nat) : Prop :=
  if m = 0 then 0 ≤ s.fm ∧ s.fm ≤ 200 else if m = 1 then 0 ≤ s.fd ∧ s.fd ≤ 255 else if m = 2 then 0 ≤ s.pl ∧ s.pl ≤ 8 else if m = 3 then (0 ≤ s.tt ∧ s.tt ≤ 255) ∧ s.tt ≠ s.fd
  else if m = 4 then 2 ≤ s.a ∧ s.a ≤ 1048576 else if m = 5 then ((-1048576 ≤ s.a ∧ s.a ≤ 1048576) ∧ s.a ≠ 0) ∧ (-1099511627776 ≤ s.b ∧ s.b ≤ 1099511627776)
  else if m = 6 then (1 ≤ s.a ∧ s.a ≤ 1000) ∧ Table s.t s.a else if m = 7 then Table s.t 1000 else if m = 8 then s.f.Right ∧ s.f.id = s.fd else if m = 9 then s.f.Has s.v
  else if m = 10 then (-1099511627776 ≤ s.v.n ∧ s.v.n ≤ 1099511627776) ∧ s.v.s.size ≤ 32 else schema.Fine (s.fm, s.l)
instance (s : Sp) (m : Nat) : Decidable (s.Fine m) := by unfold Sp.Fine; infer_instance
/-- a member is set to zero -/
def Sp.clear (s : Sp) (m : Nat) : Sp :=
  if m = 0 then { s with fm := 0 } else if m = 1 then { s with fd := 0 } else if m = 2 then { s with pl := 0 } else if m = 3 then { s with tt := 0 } else if m = 4 then { s with a := 0 }
  else if m = 5 then { s with a := 0, b := 0 } else if m = 6 then { s with a := 0, t := [] } else if m = 7 then { s with t := [] } else if m = 8 then { s with f := fd0 } else if m = 9 then { s with f := fd0, v := va0 }
  else if m = 10 then { s with v := va0 } else { s with l := [] }
def Sp.bare (s : Sp) (k : Nat) : Sp := ((mem s.op).take k).foldl Sp.clear { s with op := 0 }
def Sp.Right (s : Sp) : Prop := (∀ m ∈ mem s.op, s.Fine m) ∧ mem s.op ≠ [] ∧ (mem s.op).foldl Sp.clear { s with op := 0 } = Sp.zero
instance (s : Sp) : Decidable s.Right := by unfold Sp.Right; infer_instance
def Rights (L : List Sp) : Prop := ∀ s ∈ L, s.Right
instance (L : List Sp) : Decidable (Rights L) := by unfold Rights; infer_instance

/-! bytes -/
def fieldA (f : field.Fd) : List Nat := vb f.id.toNat ++ vb f.kind.toNat ++ vb (zig f.lo) ++ vb (zig f.hi) ++ vb f.most.toNat
def fieldsA (L : List field.Fd) : List Nat := (L.map fieldA).flatten
def numsA (L : List Int) : List Nat := (L.map fun n => vb n.toNat).flatten
def Sp.letB (s : Sp) (c : UInt8) : List Nat :=
  if c = 102 then vb s.fm.toNat else if c = 100 then vb s.fd.toNat else if c = 112 then vb s.pl.toNat else if c = 116 then vb s.tt.toNat else if c = 97 then vb s.a.toNat
  else if c = 98 then vb (zig s.a) ++ vb (zig s.b) else if c = 70 then fieldA s.f else if c = 86 then vb (zig s.v.n) ++ (vb s.v.s.size ++ bytesOf s.v.s)
  else if c = 84 then vb s.t.length ++ numsA s.t else vb s.l.length ++ fieldsA s.l
def Sp.memB (s : Sp) (m : Nat) : List Nat := ((lets m).map s.letB).flatten
def Sp.stepB (s : Sp) : List Nat := vb s.op.toNat ++ ((uses s.op).map s.letB).flatten
def listB (L : List Sp) : List Nat := vb L.length ++ (L.map Sp.stepB).flatten
theorem stepB_mem (s : Sp) : s.stepB = vb s.op.toNat ++ ((mem s.op).map s.memB).flatten := by
  unfold Sp.stepB Sp.memB
  rw [uses_mem]
  congr 1
  induction mem s.op with
  | nil => rfl
  | cons m M ih => simp only [List.map_cons, List.flatten_cons, List.map_append, List.flatten_append, ih]

/-! reading -/
def takeA (e : Sight) : field.Fd × Sight :=
  let a := eCount 255 e
  let k := eCount 4 a.2
  let l := eInt k.2
  let h := eInt l.2
  let m := eCount 1000 h.2
  (⟨a.1, k.1, l.1, h.1, m.1⟩, m.2)
def takeAs : Nat → Sight → List field.Fd × Sight
  | 0, e => ([], e)
  | n + 1, e => ((takeAs n e).1 ++ [(takeA (takeAs n e).2).1], (takeA (takeAs n e).2).2)
def takeNs : Nat → Sight → List Int × Sight
  | 0, e => ([], e)
  | n + 1, e => ((takeNs n e).1 ++ [((eCount 1000 (takeNs n e).2).1 : Int)], (eCount 1000 (takeNs n e).2).2)
theorem takeAs_len (n : Nat) (e : Sight) : (takeAs n e).1.length = n := by
  induction n with
  | zero => rfl
  | succ n ih => simp [takeAs, ih]
theorem takeNs_len (n : Nat) (e : Sight) : (takeNs n e).1.length = n := by
  induction n with
  | zero => rfl
  | succ n ih => simp [takeNs, ih]
def takeL (c : UInt8) (s : Sp) (e : Sight) : Sp × Sight :=
  if c = 102 then ({ s with fm := (eCount 200 e).1 }, (eCount 200 e).2) else if c = 100 then ({ s with fd := (eCount 255 e).1 }, (eCount 255 e).2)
  else if c = 112 then ({ s with pl := (eCount 8 e).1 }, (eCount 8 e).2) else if c = 116 then ({ s with tt := (eCount 255 e).1 }, (eCount 255 e).2)
  else if c = 97 then ({ s with a := (eCount 1048576 e).1 }, (eCount 1048576 e).2) else if c = 98 then ({ s with a := (eInt e).1, b := (eInt (eInt e).2).1 }, (eInt (eInt e).2).2)
  else if c = 70 then ({ s with f := (takeA e).1 }, (takeA e).2) else if c = 86 then ({ s with v := ⟨(eInt e).1, strOf (eText 32 (eInt e).2).1⟩ }, (eText 32 (eInt e).2).2)
  else if c = 84 then ({ s with t := s.t ++ (takeNs (eCount 64 e).1 (eCount 64 e).2).1 }, (takeNs (eCount 64 e).1 (eCount 64 e).2).2)
  else ({ s with l := s.l ++ (takeAs (eCount 8 e).1 (eCount 8 e).2).1 }, (takeAs (eCount 8 e).1 (eCount 8 e).2).2)
def run (cs : List UInt8) (p : Sp × Sight) : Sp × Sight := cs.foldl (fun p c => takeL c p.1 p.2) p
theorem run_app (a b : List UInt8) (p : Sp × Sight) : run (a ++ b) p = run b (run a p) := List.foldl_append
theorem run_one (c : UInt8) (p : Sp × Sight) : run [c] p = takeL c p.1 p.2 := rfl
def startS (op : Int) : Sp := { Sp.zero with op := op }
def takeS (e : Sight) : Sp × Sight := run (uses (eCount 30 e).1) (startS (eCount 30 e).1, (eCount 30 e).2)
def takeSs : Nat → Sight → List Sp × Sight
  | 0, e => ([], e)
  | n + 1, e => ((takeSs n e).1 ++ [(takeS (takeSs n e).2).1], (takeS (takeSs n e).2).2)
theorem takeSs_len (n : Nat) (e : Sight) : (takeSs n e).1.length = n := by
  induction n with
  | zero => rfl
  | succ n ih => simp [takeSs, ih]
def readL (xs : List Nat) : List Sp × Sight := takeSs (eCount 40 (xs, 0)).1 (eCount 40 (xs, 0)).2
/-- the steps of bytes, and the error -/
def parsed (xs : List Nat) : List Sp × Nat :=
  if eEnd (readL xs).2 ≠ 0 then ([], eEnd (readL xs).2) else if Rights (readL xs).1 then ((readL xs).1, 0) else ([], 2)
/-- why there are no bytes -/
def rightsE (L : List Sp) : Nat := if 40 < L.length then 7 else if Rights L then 0 else 2
end Go.Proofs.Ytpdnfiofjkbeiaa.step
