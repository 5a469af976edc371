/- What an act on a flash, and a list of such acts, that came in read as. No condition. -/
import Derived.Test.YtdpddcmbilipfaaFlashDo
import Derived.Test.YtdpddcmbilipfaaOpen
import Derived.Deep.Slices
import Derived.Deep.Strs
import Derived.Lib.SmallJoins
namespace Go.Proofs.Ytdpddcmbilipfaa.flash
open Go.ChangeShapes Go.WideShapes Go.ChangeAt Go.RowKit Go.Deep
set_option linter.unusedVariables false

/-- an act: its kind, where, what, and the slice of its masks -/
structure FAct where
  (k A : Int) (X : Nat) (a : Option Addr) (len cap : Nat) (M : List Nat)
instance : Inhabited FAct := ⟨⟨0, 0, 0, none, 0, 0, []⟩⟩
def FAct.val (p : FAct) : Value := actV p.k p.A p.X p.a p.len p.cap
structure FAct.Good (W : World) (p : FAct) : Prop where
  a1 : -9223372036854775808 ≤ p.A
  a2 : p.A ≤ 9223372036854775807
  x : p.X < 4294967296
  r : Reads .u32 W p.a p.len p.M
  m : ∀ x ∈ p.M, x < 4294967296
  c1 : p.len ≤ p.cap
  c2 : p.cap ≤ maxLen
theorem FAct.Good.below {W W' : World} {p : FAct} (h : p.Good W) (hb : Below W.heap.size W W') : p.Good W' := ⟨h.a1, h.a2, h.x, h.r.below hb, h.m, h.c1, h.c2⟩
theorem FAct.Good.sep {W : World} {p : FAct} (h : p.Good W) : p.len = 0 ∨ ∃ x, p.a = some x ∧ x.block < W.heap.size := by
  rcases h.r.2 with h0 | ⟨b, off, ha, hlt, _⟩
  · exact .inl h0
  · exact .inr ⟨_, ha, hlt⟩
section
variable {H : Type} {enc : TypeId × Value → H} {P : Program} {W : World}
theorem open_words {t e : TypeId} {v : Value} {fuel : Nat} {y : DataW H × List MemPlace} (ht : P.underlying t = some (.slice e)) (he : P.underlying e = some (.int .u32)) (hc : P.cellsOf e = 1)
    (hf : DataW.trod enc P W 0 (fun _ => true) true fuel t [v] = some y) :
    ∃ (a : Option Addr) (len cap : Nat) (M : List Nat), v = .slice a len cap ∧ Reads .u32 W a len M ∧ (∀ x ∈ M, x < 4294967296) ∧ len ≤ cap ∧ cap ≤ maxLen := by
  rcases open_ints ht he hc hf with ⟨hcs, _⟩ | ⟨x, l, c, zs, hcs, _, hl, hm, hz, hx, hcell, hwz⟩
  · exact ⟨none, 0, 0, [], by simpa using hcs, Reads.nil, by simp, Nat.le_refl _, by unfold maxLen; omega⟩
  · simp only [if_true] at hz
    refine ⟨some x, l, c, (zs.take l).map Int.toNat, by simpa using hcs, ⟨by simp; omega, ?_⟩, ?_, hl, hm⟩
    · by_cases h : l = 0
      · exact .inl h
      · right
        obtain ⟨b, off, spot⟩ := x
        have hspot : spot = none := by simpa [Addr.add] using World.cell?_spot (hcell 0 (by omega))
        subst hspot
        have hb : b < W.heap.size := by
          have := World.block_lt_of_cell? W _ (hcell 0 (by omega))
          simpa [Addr.add] using this
        refine ⟨b, off, rfl, hb, fun i hi => ?_⟩
        have h1 := hcell i (by omega)
        rw [Addr.add_lit] at h1
        rw [h1]
        have hi' : i < zs.length := by omega
        have hn : 0 ≤ zs[i] := (wf_u32 _ (hwz _ (List.getElem_mem hi'))).1
        simp [List.getD, hi, hi']
        omega
    · intro y hy
      obtain ⟨z, hz', rfl⟩ := List.mem_map.1 hy
      have := wf_u32 z (hwz z (List.mem_of_mem_take hz'))
      omega
theorem fact_cells {t0 t1 t2 t3 e3 : TypeId} {n : Nat} {v0 v1 v2 v3 : Value} {y0 y1 y2 y3 : DataW H × List MemPlace} (u0 : P.underlying t0 = some (.int .i64)) (u1 : P.underlying t1 = some (.int .i64)) (u2 : P.underlying t2 = some (.int .u32)) (u3 : P.underlying t3 = some (.slice e3)) (ue : P.underlying e3 = some (.int .u32)) (ce : P.cellsOf e3 = 1)
    (h0 : DataW.trod enc P W 0 (fun _ => true) true n t0 [v0] = some y0) (h1 : DataW.trod enc P W 0 (fun _ => true) true n t1 [v1] = some y1) (h2 : DataW.trod enc P W 0 (fun _ => true) true n t2 [v2] = some y2) (h3 : DataW.trod enc P W 0 (fun _ => true) true n t3 [v3] = some y3) :
    ∃ p : FAct, p.Good W ∧ v0 = .int .i64 p.k ∧ v1 = .int .i64 p.A ∧ v2 = .int .u32 p.X ∧ v3 = .slice p.a p.len p.cap := by
  obtain ⟨k, e0, _, _⟩ := DataW.trod_int u0 h0
  obtain ⟨m, e1, _, w1⟩ := DataW.trod_int u1 h1
  obtain ⟨x, e2, _, w2⟩ := DataW.trod_int u2 h2
  obtain ⟨a, len, cap, M, rfl, hr, hM, hl, hc⟩ := open_words u3 ue ce h3
  have a1 := wf_i64 _ w1
  have a2 := wf_u32 _ w2
  obtain ⟨X, rfl⟩ := Int.eq_ofNat_of_zero_le a2.1
  exact ⟨⟨k, m, X, a, len, cap, M⟩, ⟨a1.1, a1.2, by show X < _; omega, hr, hM, hl, hc⟩, by simpa using e0, by simpa using e1, by simpa using e2, rfl⟩
theorem open_fact_arg {r : Reach} {b0 : Nat} {t e3 : TypeId} {f0 f1 f2 f3 : Field} {v : Value} {d : DataW H} {pl : List MemPlace} (hs : P.underlying t = some (.struct #[f0, f1, f2, f3])) (hone : oneCellFields P #[f0, f1, f2, f3] = true) (hC : P.cellsOf t = 4)
    (u0 : P.underlying f0.type = some (.int .i64)) (u1 : P.underlying f1.type = some (.int .i64)) (u2 : P.underlying f2.type = some (.int .u32)) (u3 : P.underlying f3.type = some (.slice e3)) (ue : P.underlying e3 = some (.int .u32)) (ce : P.cellsOf e3 = 1)
    (hv : Value.okWide P W r b0 t v) (h : DataW.Trod enc P W 0 (fun _ => true) true t v d pl) : ∃ p : FAct, p.Good W ∧ v = p.val := by
  obtain ⟨v0, v1, v2, v3, y0, y1, y2, y3, n, rfl, _, _, h0, h1, h2, h3⟩ := Go.Joins.open_agg4 hs hone hC hv h
  obtain ⟨p, hp, rfl, rfl, rfl, rfl⟩ := fact_cells u0 u1 u2 u3 ue ce h0 h1 h2 h3
  exact ⟨p, hp, rfl⟩
/-- the slice at a reads as the acts l -/
def FActs (w : World) (a : Option Addr) (l : List FAct) : Prop :=
  l = [] ∨ ∃ b off, a = some ⟨b, off, none⟩ ∧ b < w.heap.size ∧ ∀ i p, l[i]? = some p → w.cell? ⟨b, off + i * 4, none⟩ = some (.int .i64 p.k) ∧ w.cell? ⟨b, off + i * 4 + 1, none⟩ = some (.int .i64 p.A) ∧ w.cell? ⟨b, off + i * 4 + 2, none⟩ = some (.int .u32 p.X) ∧ w.cell? ⟨b, off + i * 4 + 3, none⟩ = some (.slice p.a p.len p.cap)
theorem open_facts {t e e3 : TypeId} {f0 f1 f2 f3 : Field} {a : Option Addr} {len cap : Nat} {d : DataW H} {pl : List MemPlace} (ht : P.underlying t = some (.slice e)) (he : P.underlying e = some (.struct #[f0, f1, f2, f3])) (hone : oneCellFields P #[f0, f1, f2, f3] = true) (hC : P.cellsOf e = 4)
    (u0 : P.underlying f0.type = some (.int .i64)) (u1 : P.underlying f1.type = some (.int .i64)) (u2 : P.underlying f2.type = some (.int .u32)) (u3 : P.underlying f3.type = some (.slice e3)) (ue : P.underlying e3 = some (.int .u32)) (ce : P.cellsOf e3 = 1)
    (h0 : DataW.Trod enc P W 0 (fun _ => true) true t (.slice a len cap) d pl) : ∃ l : List FAct, len = l.length ∧ FActs W a l ∧ (∀ p ∈ l, p.Good W) ∧ len ≤ cap ∧ cap ≤ maxLen := by
  obtain ⟨fuel, hf⟩ := h0
  have hf2 : DataW.trod enc P W 0 (fun _ => true) true fuel t [.slice a len cap] = some (d, pl) := by simpa [Value.cells] using hf
  rcases open_slice ht hf2 with ⟨hcs, _⟩ | ⟨A, len', cap', m, n, D, Pl, hcs, _, hlc, hcm, hm, hx, hrow⟩
  · simp at hcs
    obtain ⟨rfl, rfl, rfl⟩ := hcs
    exact ⟨[], rfl, .inl rfl, by simp, Nat.le_refl _, by unfold maxLen; omega⟩
  · simp at hcs
    obtain ⟨rfl, rfl, rfl⟩ := hcs
    simp only [if_true] at hm
    have each : ∀ r, r < len → ∃ p : FAct, p.Good W ∧ W.cell? (A.add (r * 4)) = some (.int .i64 p.k) ∧ W.cell? (A.add (r * 4 + 1)) = some (.int .i64 p.A) ∧ W.cell? (A.add (r * 4 + 2)) = some (.int .u32 p.X) ∧ W.cell? (A.add (r * 4 + 3)) = some (.slice p.a p.len p.cap) := by
      intro r hr
      obtain ⟨cs', h1, h2⟩ := hrow r (by omega)
      rw [hC] at h1
      obtain ⟨_, hlen, hcell⟩ := World.cells?_some h1
      obtain ⟨y0, y1, y2, y3, n', _, hl, g0, g1, g2, g3⟩ := Go.Joins.trod_struct4 he h2
      obtain ⟨o0, k0⟩ := hone_of hone 0 f0 rfl
      obtain ⟨o1, k1⟩ := hone_of hone 1 f1 rfl
      obtain ⟨o2, k2⟩ := hone_of hone 2 f2 rfl
      obtain ⟨o3, k3⟩ := hone_of hone 3 f3 rfl
      rw [hC] at hl
      match cs', hl with
      | [c0, c1, c2, c3], _ =>
        obtain ⟨p, hp, rfl, rfl, rfl, rfl⟩ := fact_cells u0 u1 u2 u3 ue ce (by simpa [o0, k0] using g0) (by simpa [o1, k1] using g1) (by simpa [o2, k2] using g2) (by simpa [o3, k3] using g3)
        have e0 := hcell 0 (by omega)
        have e1 := hcell 1 (by omega)
        have e2 := hcell 2 (by omega)
        have e3 := hcell 3 (by omega)
        rw [add_add] at e0 e1 e2 e3
        exact ⟨p, hp, by simpa using e0, by simpa using e1, by simpa using e2, by simpa using e3⟩
    obtain ⟨y, hy⟩ := choose_lt each
    refine ⟨(List.range len).map y, by simp, ?_, ?_, by omega, hcm⟩
    · by_cases hz : len = 0
      · subst hz; exact .inl rfl
      · right
        obtain ⟨b, off, spot⟩ := A
        have hc0 := (hy 0 (by omega)).2.1
        have hspot : spot = none := by simpa [Addr.add] using World.cell?_spot hc0
        subst hspot
        have hb : b < W.heap.size := by
          have := World.block_lt_of_cell? W _ hc0
          simpa [Addr.add] using this
        refine ⟨b, off, rfl, hb, fun i p hp => ?_⟩
        have hi : i < len := by have := (List.getElem?_eq_some_iff.1 hp).1; simpa using this
        simp [hi] at hp
        subst hp
        obtain ⟨_, e0, e1, e2, e3⟩ := hy i hi
        rw [Addr.add_lit] at e0 e1 e2 e3
        exact ⟨e0, by rw [Nat.add_assoc]; exact e1, by rw [Nat.add_assoc]; exact e2, by rw [Nat.add_assoc]; exact e3⟩
    · intro p hp
      obtain ⟨i, hi, rfl⟩ := List.mem_map.1 hp
      exact (hy i (List.mem_range.1 hi)).1
end
theorem FActs.below {w w' : World} {a : Option Addr} {l : List FAct} (h : FActs w a l) (hb : Below w.heap.size w w') : FActs w' a l := by
  rcases h with h | ⟨b, off, ha, hlt, hc⟩
  · exact .inl h
  · refine .inr ⟨b, off, ha, Nat.lt_of_lt_of_le hlt hb.size, fun i p hp => ?_⟩
    rw [hb.cell (p := ⟨b, off + i * 4, none⟩) hlt, hb.cell (p := ⟨b, off + i * 4 + 1, none⟩) hlt, hb.cell (p := ⟨b, off + i * 4 + 2, none⟩) hlt, hb.cell (p := ⟨b, off + i * 4 + 3, none⟩) hlt]
    exact hc i p hp
theorem FActs.at {w : World} {a : Option Addr} {l : List FAct} (h : FActs w a l) {i : Nat} (hi : i < l.length) :
    ∃ b off p, a = some ⟨b, off, none⟩ ∧ b < w.heap.size ∧ l[i]? = some p ∧ w.cell? ⟨b, off + i * 4, none⟩ = some (.int .i64 p.k) ∧ w.cell? ⟨b, off + i * 4 + 1, none⟩ = some (.int .i64 p.A) ∧ w.cell? ⟨b, off + i * 4 + 2, none⟩ = some (.int .u32 p.X) ∧ w.cell? ⟨b, off + i * 4 + 3, none⟩ = some (.slice p.a p.len p.cap) := by
  rcases h with rfl | ⟨b, off, ha, hlt, hc⟩
  · simp at hi
  · have hp := List.getElem?_eq_getElem hi
    exact ⟨b, off, _, ha, hlt, hp, hc i _ hp⟩
end Go.Proofs.Ytdpddcmbilipfaa.flash
