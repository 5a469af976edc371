/- Contract of the reference's Same at lists of the same words. No condition beyond the lengths. -/
import Derived.Test.YtdlebjogbhgheaaDoorTextsRows
namespace Go.Proofs.YtdlebjogbhgheaaDoor.texts
open Go.RowKit Go.Lib
set_option linter.unusedVariables false

theorem row_at {w : World} {a : Option Addr} {wss : List (List (List UInt8))} (h : StrRows w a wss) {i : Nat} (hi : i < wss.length) :
    ∃ b off ai ci, a = some ⟨b, off, none⟩ ∧ b < w.heap.size ∧ w.cell? ⟨b, off + i, none⟩ = some (.slice ai (wss.getD i []).length ci) ∧ (wss.getD i []).length ≤ ci ∧ Strs w ai (wss.getD i []) := by
  rcases h with h | ⟨b, off, ha, hlt, hc⟩
  · rw [h] at hi; simp at hi
  · obtain ⟨ai, ci, h1, h2, h3⟩ := hc i hi
    exact ⟨b, off, ai, ci, ha, hlt, h1, h2, h3⟩
theorem str_at {w : World} {a : Option Addr} {ws : List (List UInt8)} (h : Strs w a ws) {i : Nat} (hi : i < ws.length) :
    ∃ b off, a = some ⟨b, off, none⟩ ∧ b < w.heap.size ∧ w.cell? ⟨b, off + i, none⟩ = some (.string (strL (ws.getD i []))) := by
  rcases h with h | ⟨b, off, ha, hlt, hc⟩
  · rw [h] at hi; simp at hi
  · exact ⟨b, off, ha, hlt, hc i hi⟩

set_option maxRecDepth 20000 in
set_option maxHeartbeats 1000000 in
theorem same_any (wss : List (List (List UInt8))) (a b : Option Addr) (c d : Nat) (hn : wss.length ≤ 140737488351232) (hrow : ∀ i, i < wss.length → (wss.getD i []).length ≤ 140737488351232) (w : World) (ha : StrRows w a wss) (hb : StrRows w b wss) :
    Calls Tryd.prog 20 #[.slice a wss.length c, .slice b wss.length d] w fun e w' => e = .returned (.bool true) ∧ Below w.heap.size w w' := by
  have HA := hid ha
  have HB := hid hb
  have HROW := hid hrow
  clear ha hb hrow
  obtain ⟨n, hN⟩ : ∃ n, Hid (wss.length = n) := ⟨_, rfl⟩
  rw [hN.out] at hn ⊢
  go_enter Tryd.func20, Tryd.ntmps20
  go_wp2
  go_loopw [5] (fun v wr => ∃ k : Nat, k ≤ n ∧ v = .int .i64 k ∧ ∃ q, wr = w.drewN q) (fun v _ => n - (intOf v).toNat)
  case atStart => exact ⟨0, Nat.zero_le _, rfl, 0, rfl⟩
  case round =>
    obtain ⟨k, hk, rfl, q, rfl⟩ := hrel
    by_cases hlt : k < n
    · have i1 : (k : Int) < n := by omega
      have hlt' : k < wss.length := by rw [hN.out]; exact hlt
      obtain ⟨ba, oa, ai, ca, rfl, hba, hca, hla, hsa⟩ := row_at HA.out hlt'
      obtain ⟨bb, ob, bi, cb, rfl, hbb, hcb, hlb, hsb⟩ := row_at HB.out hlt'
      have hm := HROW.out k hlt'
      have HSA := hid hsa
      have HSB := hid hsb
      clear hsa hsb
      obtain ⟨ws, hw⟩ : ∃ ws, Hid (wss.getD k [] = ws) := ⟨_, rfl⟩
      rw [hw.out] at hca hcb hla hlb hm HSA HSB
      obtain ⟨m, hM⟩ : ∃ m, Hid (ws.length = m) := ⟨_, rfl⟩
      rw [hM.out] at hca hcb hla hlb hm
      have e1 : ∀ p, (w.drewN p).cell? ⟨ba, oa + k, none⟩ = some (.slice ai m ca) := fun p => hca
      have e2 : ∀ p, (w.drewN p).cell? ⟨bb, ob + k, none⟩ = some (.slice bi m cb) := fun p => hcb
      go_wp2
      go_region
      all_goals go_wp2
      all_goals go_loopw [6] (fun v wr => ∃ j : Nat, j ≤ m ∧ v = .int .i64 j ∧ ∃ q, wr = w.drewN q) (fun v _ => m - (intOf v).toNat)
      case atStart => exact ⟨0, Nat.zero_le _, rfl, _, rfl⟩
      case round =>
        obtain ⟨j, hj, rfl, q2, rfl⟩ := hrel
        by_cases hjl : j < m
        · have i2 : (j : Int) < m := by omega
          have hjl' : j < ws.length := by rw [hM.out]; exact hjl
          obtain ⟨xa, pa, rfl, hxa, hda⟩ := str_at HSA.out hjl'
          obtain ⟨xb, pb, rfl, hxb, hdb⟩ := str_at HSB.out hjl'
          obtain ⟨S, hS⟩ : ∃ S, Hid (strL (ws.getD j []) = S) := ⟨_, rfl⟩
          rw [hS.out] at hda hdb
          have e3 : ∀ p, (w.drewN p).cell? ⟨xa, pa + j, none⟩ = some (.string S) := fun p => hda
          have e4 : ∀ p, (w.drewN p).cell? ⟨xb, pb + j, none⟩ = some (.string S) := fun p => hdb
          go_wp2
          go_region
          all_goals go_wp2
          all_goals exact ⟨⟨j + 1, by omega, by go_num, _, rfl⟩, by simp [intOf]; omega⟩
        · obtain rfl : j = m := by omega
          go_wp2
          exact ⟨⟨k + 1, by omega, by go_num, _, rfl⟩, by simp [intOf]; omega⟩
    · obtain rfl : k = n := by omega
      go_wp2
      go_ret
      exact ⟨rfl, below_drewN (Below.refl _ w) q⟩
end Go.Proofs.YtdlebjogbhgheaaDoor.texts
