/- Geometries by plain numbers: when one is right, what each sector is, and where each thing lies. No condition. -/
import Derived.Test.YtkkogoiboanepaaKit
namespace Go.Proofs.Ytkkogoiboanepaa.geom
set_option linter.unusedVariables false

/-- a geometry -/
structure Geo where
  (sector slot data quota tries life : Int)
def Geo.Right (g : Geo) : Prop :=
  (64 ≤ g.sector ∧ g.sector ≤ 1024) ∧ (2 ≤ g.slot ∧ g.slot ≤ 32) ∧ (2 ≤ g.quota ∧ g.quota ≤ g.sector - 8) ∧ (g.quota + 3 ≤ g.data ∧ g.data ≤ 128) ∧ (1 ≤ g.tries ∧ g.tries ≤ 9) ∧ (1 ≤ g.life ∧ g.life ≤ 1073741823)
instance (g : Geo) : Decidable g.Right := by unfold Geo.Right; infer_instance
/-- the first part of a geometry that is not right -/
theorem Geo.wrong {g : Geo} (h : ¬ g.Right) :
    (g.sector < 64 ∨ 1024 < g.sector) ∨
    ((64 ≤ g.sector ∧ g.sector ≤ 1024) ∧ (g.slot < 2 ∨ 32 < g.slot)) ∨
    ((64 ≤ g.sector ∧ g.sector ≤ 1024) ∧ (2 ≤ g.slot ∧ g.slot ≤ 32) ∧ (g.quota < 2 ∨ g.sector - 8 < g.quota)) ∨
    ((64 ≤ g.sector ∧ g.sector ≤ 1024) ∧ (2 ≤ g.slot ∧ g.slot ≤ 32) ∧ (2 ≤ g.quota ∧ g.quota ≤ g.sector - 8) ∧ (g.data < g.quota + 3 ∨ 128 < g.data)) ∨
    ((64 ≤ g.sector ∧ g.sector ≤ 1024) ∧ (2 ≤ g.slot ∧ g.slot ≤ 32) ∧ (2 ≤ g.quota ∧ g.quota ≤ g.sector - 8) ∧ (g.quota + 3 ≤ g.data ∧ g.data ≤ 128) ∧ (g.tries < 1 ∨ 9 < g.tries)) ∨
    ((64 ≤ g.sector ∧ g.sector ≤ 1024) ∧ (2 ≤ g.slot ∧ g.slot ≤ 32) ∧ (2 ≤ g.quota ∧ g.quota ≤ g.sector - 8) ∧ (g.quota + 3 ≤ g.data ∧ g.data ≤ 128) ∧ (1 ≤ g.tries ∧ g.tries ≤ 9) ∧ (g.life < 1 ∨ 1073741823 < g.life)) := by
  unfold Geo.Right at h
  omega
/-- the sectors of a geometry -/
def Geo.pages (g : Geo) : Int := 2 + 2 * g.slot
def Geo.sectors (g : Geo) : Int := if g.Right then 2 + 2 * g.slot + g.data else 0
/-- what sector k is -/
def Geo.at (g : Geo) (k : Int) : Int × Int × Int :=
  if k < 2 then (0, 0, k) else if 2 + 2 * g.slot ≤ k then (3, 0, k - (2 + 2 * g.slot)) else if (k - 2) % g.slot = 0 then (1, (k - 2) / g.slot, 0) else (2, (k - 2) / g.slot, (k - 2) % g.slot - 1)
def Geo.ledger (g : Geo) (a : Int) : Int := if g.Right ∧ 0 ≤ a ∧ a ≤ 1 then 2 + a * g.slot else -1
def Geo.chunk (g : Geo) (a i : Int) : Int := if g.Right ∧ (0 ≤ a ∧ a ≤ 1) ∧ 0 ≤ i ∧ i ≤ g.slot - 2 then 2 + a * g.slot + 1 + i else -1
def Geo.page (g : Geo) (p : Int) : Int := if g.Right ∧ 0 ≤ p ∧ p ≤ g.data - 1 then 2 + 2 * g.slot + p else -1
def Geo.long (g : Geo) : Int := if g.Right then 4 * g.sector else 0
def Geo.cap (g : Geo) : Int := if g.Right then 4 * g.sector * (g.slot - 1) else 0
def Geo.chunks (g : Geo) (t : Int) : Int := if g.Right ∧ 1 ≤ t ∧ t ≤ 4 * g.sector * (g.slot - 1) then (t - 1) / (4 * g.sector) + 1 else 0
def Geo.part (g : Geo) (t i : Int) : Int := if 0 ≤ i ∧ i ≤ g.chunks t - 1 then min (4 * g.sector) (t - i * (4 * g.sector)) else 0

/-- the first sector that is such a thing, or -1 -/
def Geo.IsFind (g : Geo) (t : Int × Int × Int) (v : Int) : Prop :=
  (0 ≤ v ∧ v < g.sectors ∧ g.at v = t) ∨ (v = -1 ∧ ∀ k, 0 ≤ k → k < g.sectors → g.at k ≠ t)

theorem Geo.at_cases (g : Geo) (h : g.Right) (k : Int) (h0 : 0 ≤ k) (h1 : k < g.sectors) :
    (k < 2 ∧ g.at k = (0, 0, k)) ∨ (2 + 2 * g.slot ≤ k ∧ k < 2 + 2 * g.slot + g.data ∧ g.at k = (3, 0, k - (2 + 2 * g.slot))) ∨
    (∃ a, 0 ≤ a ∧ a ≤ 1 ∧ k = 2 + a * g.slot ∧ g.at k = (1, a, 0)) ∨ (∃ a i, 0 ≤ a ∧ a ≤ 1 ∧ 0 ≤ i ∧ i ≤ g.slot - 2 ∧ k = 2 + a * g.slot + 1 + i ∧ g.at k = (2, a, i)) := by
  have hr := h
  unfold Geo.Right at hr
  unfold Geo.sectors at h1
  rw [if_pos h] at h1
  by_cases c1 : k < 2
  · exact .inl ⟨c1, by rw [Geo.at, if_pos c1]⟩
  · by_cases c2 : 2 + 2 * g.slot ≤ k
    · exact .inr (.inl ⟨c2, h1, by rw [Geo.at, if_neg c1, if_pos c2]⟩)
    · have hs : 0 < g.slot := by omega
      have m0 := Int.emod_nonneg (k - 2) (show g.slot ≠ 0 by omega)
      have m1 := Int.emod_lt_of_pos (k - 2) hs
      have me := Int.mul_ediv_add_emod (k - 2) g.slot
      have q0 : 0 ≤ (k - 2) / g.slot := Int.ediv_nonneg (by omega) (by omega)
      have q1 : (k - 2) / g.slot < 2 := by
        rw [Int.ediv_lt_iff_lt_mul hs]; omega
      by_cases c3 : (k - 2) % g.slot = 0
      · refine .inr (.inr (.inl ⟨(k - 2) / g.slot, q0, by omega, ?_, by rw [Geo.at, if_neg c1, if_neg c2, if_pos c3]⟩))
        rw [Int.mul_comm]; omega
      · refine .inr (.inr (.inr ⟨(k - 2) / g.slot, (k - 2) % g.slot - 1, q0, by omega, by omega, by omega, ?_, by rw [Geo.at, if_neg c1, if_neg c2, if_neg c3]⟩))
        rw [Int.mul_comm]; omega
theorem Geo.at_ledger (g : Geo) (h : g.Right) (a : Int) (h0 : 0 ≤ a) (h1 : a ≤ 1) : g.at (2 + a * g.slot) = (1, a, 0) ∧ 0 ≤ 2 + a * g.slot ∧ 2 + a * g.slot < g.sectors := by
  have hr := h
  unfold Geo.Right at hr
  rw [Geo.sectors, if_pos h]
  have : a = 0 ∨ a = 1 := by omega
  have hs : g.slot ≠ 0 := by omega
  rcases this with rfl | rfl
  · refine ⟨?_, by omega, by omega⟩
    rw [Geo.at, if_neg (by omega), if_neg (by omega), if_pos (by simp)]
    simp
  · refine ⟨?_, by omega, by omega⟩
    rw [Geo.at, if_neg (by omega), if_neg (by omega), if_pos (by rw [show 2 + 1 * g.slot - 2 = g.slot by omega]; exact Int.emod_self)]
    rw [show 2 + 1 * g.slot - 2 = g.slot by omega, Int.ediv_self hs]
theorem Geo.at_chunk (g : Geo) (h : g.Right) (a i : Int) (h0 : 0 ≤ a) (h1 : a ≤ 1) (h2 : 0 ≤ i) (h3 : i ≤ g.slot - 2) : g.at (2 + a * g.slot + 1 + i) = (2, a, i) ∧ 0 ≤ 2 + a * g.slot + 1 + i ∧ 2 + a * g.slot + 1 + i < g.sectors := by
  have hr := h
  unfold Geo.Right at hr
  rw [Geo.sectors, if_pos h]
  have ha : a = 0 ∨ a = 1 := by omega
  have hs : g.slot ≠ 0 := by omega
  have hb : 0 ≤ a * g.slot ∧ a * g.slot ≤ g.slot := by rcases ha with rfl | rfl <;> omega
  have e : 2 + a * g.slot + 1 + i - 2 = (i + 1) + a * g.slot := by omega
  have e1 : ((i + 1) + a * g.slot) % g.slot = i + 1 := by
    rw [Int.add_mul_emod_self_right, Int.emod_eq_of_lt (by omega) (by omega)]
  have e2 : ((i + 1) + a * g.slot) / g.slot = a := by
    rw [Int.add_mul_ediv_right _ _ hs, Int.ediv_eq_zero_of_lt (by omega) (by omega)]; omega
  refine ⟨?_, by omega, by omega⟩
  rw [Geo.at, if_neg (by omega), if_neg (by omega), if_neg (by rw [e, e1]; omega), e, e1, e2]
  simp
theorem Geo.at_page (g : Geo) (h : g.Right) (p : Int) (h0 : 0 ≤ p) (h1 : p ≤ g.data - 1) : g.at (2 + 2 * g.slot + p) = (3, 0, p) ∧ 0 ≤ 2 + 2 * g.slot + p ∧ 2 + 2 * g.slot + p < g.sectors := by
  have hr := h
  unfold Geo.Right at hr
  rw [Geo.sectors, if_pos h]
  refine ⟨?_, by omega, by omega⟩
  rw [Geo.at, if_neg (by omega), if_pos (by omega), show 2 + 2 * g.slot + p - (2 + 2 * g.slot) = p by omega]
theorem Geo.find_ledger {g : Geo} {a v : Int} (h : g.IsFind (1, a, 0) v) : v = g.ledger a := by
  by_cases hr : g.Right
  · rcases h with ⟨h0, h1, h2⟩ | ⟨rfl, hn⟩
    · rcases g.at_cases hr v h0 h1 with ⟨_, e⟩ | ⟨_, _, e⟩ | ⟨b, b0, b1, hk, e⟩ | ⟨b, i, _, _, _, _, _, e⟩
      · rw [e] at h2; simp at h2
      · rw [e] at h2; simp at h2
      · rw [e] at h2; simp at h2; subst h2; rw [Geo.ledger, if_pos ⟨hr, b0, b1⟩, hk]
      · rw [e] at h2; simp at h2
    · by_cases ha : 0 ≤ a ∧ a ≤ 1
      · obtain ⟨e, e0, e1⟩ := g.at_ledger hr a ha.1 ha.2
        exact absurd e (hn _ e0 e1)
      · rw [Geo.ledger, if_neg (fun k => ha k.2)]
  · rcases h with ⟨h0, h1, h2⟩ | ⟨rfl, hn⟩
    · rw [Geo.sectors, if_neg hr] at h1; omega
    · rw [Geo.ledger, if_neg (fun k => hr k.1)]
theorem Geo.find_chunk {g : Geo} {a b v : Int} (h : g.IsFind (2, a, b) v) : v = g.chunk a b := by
  by_cases hr : g.Right
  · rcases h with ⟨h0, h1, h2⟩ | ⟨rfl, hn⟩
    · rcases g.at_cases hr v h0 h1 with ⟨_, e⟩ | ⟨_, _, e⟩ | ⟨b, b0, b1, hk, e⟩ | ⟨b, i, b0, b1, i0, i1, hk, e⟩
      · rw [e] at h2; simp at h2
      · rw [e] at h2; simp at h2
      · rw [e] at h2; simp at h2
      · rw [e] at h2; simp at h2; obtain ⟨rfl, rfl⟩ := h2; rw [Geo.chunk, if_pos ⟨hr, ⟨b0, b1⟩, i0, i1⟩, hk]
    · by_cases ha : (0 ≤ a ∧ a ≤ 1) ∧ 0 ≤ b ∧ b ≤ g.slot - 2
      · obtain ⟨e, e0, e1⟩ := g.at_chunk hr a b ha.1.1 ha.1.2 ha.2.1 ha.2.2
        exact absurd e (hn _ e0 e1)
      · rw [Geo.chunk, if_neg (fun k => ha k.2)]
  · rcases h with ⟨h0, h1, h2⟩ | ⟨rfl, hn⟩
    · rw [Geo.sectors, if_neg hr] at h1; omega
    · rw [Geo.chunk, if_neg (fun k => hr k.1)]
theorem Geo.find_page {g : Geo} {b v : Int} (h : g.IsFind (3, 0, b) v) : v = g.page b := by
  by_cases hr : g.Right
  · rcases h with ⟨h0, h1, h2⟩ | ⟨rfl, hn⟩
    · rcases g.at_cases hr v h0 h1 with ⟨_, e⟩ | ⟨c1, c2, e⟩ | ⟨b, b0, b1, hk, e⟩ | ⟨b, i, b0, b1, i0, i1, hk, e⟩
      · rw [e] at h2; simp at h2
      · rw [e] at h2; simp at h2; subst h2; rw [Geo.page, if_pos ⟨hr, by omega, by omega⟩]; omega
      · rw [e] at h2; simp at h2
      · rw [e] at h2; simp at h2
    · by_cases ha : 0 ≤ b ∧ b ≤ g.data - 1
      · obtain ⟨e, e0, e1⟩ := g.at_page hr b ha.1 ha.2
        exact absurd e (hn _ e0 e1)
      · rw [Geo.page, if_neg (fun k => ha k.2)]
  · rcases h with ⟨h0, h1, h2⟩ | ⟨rfl, hn⟩
    · rw [Geo.sectors, if_neg hr] at h1; omega
    · rw [Geo.page, if_neg (fun k => hr k.1)]
end Go.Proofs.Ytkkogoiboanepaa.geom
