/- ZerosSums: for every list of at most 1048576 words, Sum, Seal and Right answer as the reference does. Condition: at most 1048576 words. -/
import Derived.Test.YtcgfinfafphapaaZerosAwake
import Derived.Test.YtcgfinfafphapaaZerosRef
import Derived.Test.YtcgfinfafphapaaWordSame
namespace Go.Proofs.Ytcgfinfafphapaa.zerosSums
open Go.RowKit Go.Proofs.Ytcgfinfafphapaa.word Go.Proofs.Ytcgfinfafphapaa.zeros
set_option linter.unusedVariables false
set_option maxHeartbeats 1600000 in
theorem walk (a : Option Addr) (len cap : Nat) (xs : List Nat) (w : World) (hr : Reads .u32 w a len xs) (hx : ∀ x ∈ xs, x < 4294967296) (hlc : len ≤ cap) (hcap : cap * 4 ≤ 140737488351232) (hnil : a = none → cap = 0) (hsm : cap ≤ 1048576) :
    Calls Try.prog 3 #[.slice a len cap] w (Yes w) := by
  have c1 := fun w' (h : Reads .u32 w' a len xs) => sum_any a len cap xs w' h hx (by omega)
  have c2 := fun w' (h : Reads .u32 w' a len xs) => refSum_any a len cap xs w' h hx (by omega)
  have c3 := fun w' (h : Reads .u32 w' a len xs) => right_any a len cap xs w' h hx (by omega) hlc (by unfold maxLen; omega)
  have c4 := fun w' (h : Reads .u32 w' a len xs) => refRight_any a len cap xs w' h hx (by omega) hlc (by unfold maxLen; omega)
  have hz := zcount_le xs
  have hlen := hr.1
  have hmod : zcount xs % 4294967296 = zcount xs := Nat.mod_eq_of_lt (by omega)
  rw [hmod] at c1
  generalize zcount xs = z at *
  generalize rightB xs = b at *
  have hb : (b == b) = true := by cases b <;> rfl
  have q2 : ((z : Int) == z) = true := by simp
  have HX := hid hx
  have HL := hid hlen
  clear hx hlen hmod hz
  go_enter Try.func3, Try.ntmps3
  go_wp2_with (first
    | (go_at_call 7; ((with_reducible refine (c1 _ hr).mono ?_); rintro e w' ⟨rfl, m1, rfl⟩))
    | (go_at_call 8; ((with_reducible refine (c2 _ (hr.drewN _)).mono ?_); rintro e w' ⟨rfl, m2, rfl⟩)))
  have hr2 : Reads .u32 (w.drewN (m1 + m2)) a len xs := hr.drewN (m1 + m2)
  refine (seal_any a len cap xs _ hr2 HX.out (by omega)).mono ?_
  rintro e w3 ⟨v3, rfl, ho3, hb3⟩
  obtain ⟨x3, k3, rfl, hk3⟩ := ownsRow_slice ho3
  have hr3 := hr2.below hb3
  go_wp2_with fail
  refine (refSeal_any a len cap xs _ hr3 HX.out (by omega) hnil).mono ?_
  rintro e w4 ⟨v4, rfl, ho4, hb4⟩
  obtain ⟨x4, k4, rfl, hk4⟩ := ownsRow_slice ho4
  have rv3 := (Reads.own ho3).below hb4
  have rv4 := Reads.own ho4
  have hr4 := hr3.below hb4
  have z3 := hb3.size
  have hbb : Below w.heap.size w w4 := (below_drewN (Below.refl _ _) (m1 + m2)).trans (hb3.trans (hb4.mono z3))
  clear ho3 ho4 hb3 hb4 hr3 hr2
  go_wp2_with fail
  refine (same_any x3 x4 (len + 1) k3 k4 _ _ rv3 rv4 (by omega)).mono ?_
  rintro e w5 ⟨rfl, m5, rfl⟩
  go_wp2_with (first
    | (go_at_call 12; ((with_reducible refine (c3 _ (hr4.drewN _)).mono ?_); rintro e w' ⟨rfl, m6, rfl⟩))
    | (go_at_call 13; ((with_reducible refine (c4 _ (hr4.drewN _)).mono ?_); rintro e w' ⟨rfl, m7, rfl⟩))
    | (go_at_call 14; ((with_reducible refine (awake_any _).mono ?_); rintro e w' ⟨rfl, hbe⟩)))
  go_ret
  exact ⟨rfl, (below_drewN hbb _).trans (hbe.mono hbb.size)⟩
end Go.Proofs.Ytcgfinfafphapaa.zerosSums
