/- The library's iterator over a slice of strings: contract. No condition. -/
import Derived.Test.YtdlebjogbhgheaaDoorTextsCut
import Derived.Test.YtdlebjogbhgheaaDoorRange
import Derived.Shelf.Abstract
import Derived.WalkKit
import Derived.OwnWalkIn
import Derived.TacticsInMore
import Derived.LoopNIn
import Derived.LoopIn
import Derived.Shelf.RegionOpen
import Derived.RangeFuncBox
namespace Go.Proofs.YtdlebjogbhgheaaDoor.texts
open Go.RowKit Go.Lib Go.Shelf
set_option linter.unusedVariables false
attribute [local go_sem] Oper.semAt_some

/-- the slice at a reads as the strings ws -/
def Strs (w : World) (a : Option Addr) (ws : List (List UInt8)) : Prop :=
  ws = [] ∨ ∃ b off, a = some ⟨b, off, none⟩ ∧ b < w.heap.size ∧ ∀ i, i < ws.length → w.cell? ⟨b, off + i, none⟩ = some (.string (strL (ws.getD i [])))
theorem Strs.turned {Z : Nat → Prop} {w w' : World} {a : Option Addr} {ws : List (List UInt8)} (h : Strs w a ws) (ht : Turned Z w w') (hz : ∀ b off, a = some ⟨b, off, none⟩ → ¬ Z b) : Strs w' a ws := by
  rcases h with h | ⟨b, off, ha, hb, hc⟩
  · exact .inl h
  · exact .inr ⟨b, off, ha, Nat.lt_of_lt_of_le hb ht.size, fun i hi => ht.cell (hc i hi) (hz b off ha)⟩
theorem Strs.below {w w' : World} {a : Option Addr} {ws : List (List UInt8)} (h : Strs w a ws) (hb : Below w.heap.size w w') : Strs w' a ws :=
  h.turned (Turned.new (Z := fun _ => False) hb) (fun _ _ _ => id)

/-- the value that round i hands over: a string of ws -/
def isStr (ws : List (List UInt8)) (i : Nat) (v : Value) (_ : World) : Prop := v = .string (strL (ws.getD i []))

set_option maxRecDepth 100000 in
set_option maxHeartbeats 2000000 in
theorem values_iter (n : Nat) (a : Option Addr) (cap Bs : Nat) (ws : List (List UInt8)) (W : World) (hBs : W.cell? ⟨Bs, 0, none⟩ = some (.slice a ws.length cap)) (hs : Strs W a ws) (hsmall : ws.length ≤ 140737488351232) :
    Iter Tryd.prog n 47 #[.pointer (some ⟨Bs, 0, none⟩)] (fun _ => False) (fun k => ∃ off, a = some ⟨k, off, none⟩) (isStr ws) ws.length W := by
  intro l J Jx hJ hJx hY h0
  refine callsIn_of_wp Tryd.func47 rfl trivial ?_ rfl
  simp only [Tryd.ntmps47, List.size_toArray, List.length_cons, List.length_nil, Nat.reduceAdd, Nat.reduceSub, Array.replicate_succ, Array.replicate_zero, List.push_toArray, List.append_toArray, List.nil_append, List.cons_append]
  have HY := hid hY
  have HJ := hid hJ
  clear hY hJ hJx
  gi_wp2
  gi_loopw [7] (fun i wr => ∃ k : Nat, k ≤ ws.length ∧ i = .int .i64 k ∧ J k wr ∧ Strs wr a ws)
    (fun i _ => ws.length - (intOf i).toNat)
  case atStart => exact ⟨0, Nat.zero_le _, rfl, h0, hs⟩
  case round =>
    obtain ⟨k, hk, rfl, hJs, hst⟩ := hrel
    have HJs := hid hJs
    have HST := hid hst
    clear hJs hst
    by_cases hlt : k < ws.length
    · have i1 : (k : Int) < ws.length := by omega
      rcases HST.out with h | ⟨b, off, rfl, hb, hc⟩
      · rw [h] at hlt; simp at hlt
      · have hcx := hc k hlt
        obtain ⟨fn, tmps, assign, body, hy, hR⟩ := HY.out k (.string (strL (ws.getD k []))) wr hlt HJs.out rfl
        obtain ⟨S, hS⟩ : ∃ S, Hid (strL (ws.getD k []) = S) := ⟨_, rfl⟩
        rw [hS.out] at hcx hy
        clear hc
        gi_wp2
        refine ⟨fun h => (by cases h), hR.mono ?_⟩
        rintro e W3 (⟨rfl, hJ3, hk3⟩ | ⟨rfl, hJx3, _⟩)
        · gi_wp2
          go_roundw
          case rel => exact ⟨k + 1, by omega, by simp, hJ3, HST.out.turned hk3 (fun b' off' e h => h ⟨off', e⟩)⟩
          case measure => simp [intOf]; omega
        · gi_wp2
          refine bodyPost_ret (results_none rfl _ _ _) rfl ?_
          exact ⟨⟨_, rfl⟩, .inr ⟨k, hlt, hJx3⟩⟩
    · obtain rfl : k = ws.length := by omega
      gi_wp2
      go_end0
      exact ⟨⟨_, rfl⟩, .inl HJs.out⟩
end Go.Proofs.YtdlebjogbhgheaaDoor.texts
