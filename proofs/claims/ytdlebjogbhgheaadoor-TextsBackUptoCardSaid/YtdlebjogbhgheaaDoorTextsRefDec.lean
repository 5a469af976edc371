/- Contracts of the reference's digits and Dec, for every number. No condition. -/
import Derived.Test.YtdlebjogbhgheaaDoorKit
import Derived.Lib.ItoaNum
import Derived.Lib.ItoaLen
import Derived.Laws.BytesArg
import Derived.Laws.Concat
namespace Go.Proofs.YtdlebjogbhgheaaDoor.texts
open Go.RowKit
set_option linter.unusedVariables false

/-- the string of a list of bytes -/
def strL (l : List UInt8) : ByteArray := ⟨l.toArray⟩
theorem strL_data (l : List UInt8) : (strL l).data.toList = l := rfl
theorem strL_size (l : List UInt8) : (strL l).size = l.length := by simp [strL, ByteArray.size]
theorem strL_app (a b : List UInt8) : strL a ++ strL b = strL (a ++ b) := ByteArray.mk_append_mk a b
theorem strL_of (s : ByteArray) : strL s.data.toList = s := by cases s; simp [strL]
theorem strL_inj {a b : List UInt8} (h : strL a = strL b) : a = b := by rw [← strL_data a, h, strL_data]
theorem strL_toList (l : List UInt8) : (strL l).toList = l := ByteArray.toList_mk l
/-- the string of one byte -/
def oneB (x : Int) : ByteArray := strL [UInt8.ofNat x.toNat]
theorem oneB_size (x : Int) : (oneB x).size = 1 := rfl
theorem oneB_app (x : Nat) (l : List UInt8) : oneB (x : Int) ++ strL l = strL (UInt8.ofNat x :: l) := by
  rw [oneB, strL_app]; rfl
/-- string([]byte{x}) -/
theorem conv_one (W : World) (x : Int) : (convert 53 9 (.slice (some ⟨W.heap.size, 0, none⟩) 1 1)).run Tryd.prog (W.alloc (.cells #[.int .u8 x] 5)) = .ok (.string (oneB x)) (W.alloc (.cells #[.int .u8 x] 5)) := by
  refine (run_convert_bytes_arg _ 53 5 Tryd.underlying53 Tryd.underlying5 W.heap.size 0 1 1 [x] rfl (fun i hi => ?_) 9 Tryd.underlying9).trans ?_
  · obtain rfl : i = 0 := by omega
    rw [World.cell?_alloc_new]; rfl
  · rfl
open Go.Lib in
theorem digits_any (u : Nat) (hu : u < 18446744073709551616) (w : World) :
    Calls Tryd.prog 23 #[.int .u64 u] w fun e w' => e = .returned (.string (strL (decDigits u))) ∧ Below w.heap.size w w' := by
  have hlen : (decDigits u).length ≤ 20 := by rw [decDigits_length]; exact nDigits_le20 u hu
  have hconv := conv_one
  obtain ⟨D, hD⟩ : ∃ D, Hid (decDigits u = D) := ⟨_, rfl⟩
  rw [hD.out] at hlen ⊢
  have HL := hid hlen
  have HU := hid hu
  clear hlen hu
  go_enter Tryd.func23, Tryd.ntmps23
  go_wp2
  go_loopw [0, 3] (fun v s wr => ∃ (y : Nat) (l : List UInt8) (S : ByteArray), v = .int .u64 y ∧ s = .string S ∧ S = strL l ∧ D = decDigits y ++ l ∧ y < 18446744073709551616 ∧ Below w.heap.size w wr)
    (fun v _ _ => (intOf v).toNat)
  case atStart => exact ⟨u, [], ⟨#[]⟩, rfl, rfl, rfl, by rw [hD.out]; simp, HU.out, Below.refl _ _⟩
  case round =>
    obtain ⟨y, l, S, rfl, rfl, hS, hDl, hy, hb⟩ := hrel
    have hsz : S.size ≤ 20 := by
      have := HL.out
      rw [hDl, List.length_append] at this
      rw [hS, strL_size]; omega
    have HS := hid hS
    have HDL := hid hDl
    have HB := hid hb
    clear hS hDl hb
    have ec := fun x => hconv wr x
    have es := oneB_size
    by_cases h10 : y < 10
    · have i1 : (y : Int) < 10 := by omega
      have hy0 : 0 ≤ (y : Int) := by omega
      have HY := hid h10
      clear hy h10
      go_wp2
      go_ret
      have hS := HS.out
      have hDl := HDL.out
      rw [decDigits_one HY.out] at hDl
      refine ⟨?_, HB.out.alloc HB.out.size _⟩
      subst hS
      rw [show (48 + (y : Int)) = ((48 + y : Nat) : Int) from by omega, oneB_app, hDl]
      rfl
    · have i1 : 10 ≤ (y : Int) := by omega
      have i2 : IntKind.u64.wrap ((y : Int) / 10) = (y : Int) / 10 := by simp [IntKind.wrap, IntKind.bits, IntKind.signed]; omega
      have i3 : IntKind.u64.wrap ((y : Int) % 10) = (y : Int) % 10 := by simp [IntKind.wrap, IntKind.bits, IntKind.signed]; omega
      have HY := hid h10
      have HY2 := hid hy
      clear hy h10
      go_wp2
      have hS := HS.out
      have hDl := HDL.out
      rw [decDigits, dif_neg HY.out] at hDl
      have h1 := HY.out
      have h2 := HY2.out
      refine ⟨⟨y / 10, UInt8.ofNat (48 + y % 10) :: l, _, by go_num, rfl, ?_, by rw [hDl]; simp, by omega, HB.out.alloc HB.out.size _⟩, by simp [intOf]; omega⟩
      subst hS
      rw [← oneB_app, show ((48 + y % 10 : Nat) : Int) = 48 + (y : Int) % 10 from by omega]

open Go.Lib in
theorem refDec_any (n : Int) (h1 : -9223372036854775808 ≤ n) (h2 : n ≤ 9223372036854775807) (w : World) :
    Calls Tryd.prog 10 #[.int .i64 n] w fun e w' => e = .returned (.string (strL (itoa n))) ∧ Below w.heap.size w w' := by
  have hit := itoa_length_le n h1 h2
  by_cases hn : n < 0
  · obtain ⟨u, hu⟩ : ∃ u : Nat, (u : Int) = -n := ⟨n.natAbs, by omega⟩
    have e1 : itoa n = 45 :: decDigits u := by rw [itoa, if_pos hn, show n.natAbs = u from by omega]
    rw [e1] at hit ⊢
    have c := digits_any u (by omega) w
    have es : (strL (decDigits u)).size ≤ 21 := by rw [strL_size]; simp at hit; omega
    have es1 : (ByteArray.mk #[45]).size = 1 := rfl
    rw [hu, show -n = -(n + 1) + 1 from by omega] at c
    have hap : ByteArray.mk #[45] ++ strL (decDigits u) = strL (45 :: decDigits u) := strL_app [45] _
    obtain ⟨S, hS⟩ : ∃ S, Hid (strL (decDigits u) = S) := ⟨_, rfl⟩
    rw [hS.out] at c es hap
    have HAP := hid hap
    clear hap hit e1 hu es1 hS
    go_enter Tryd.func10, Tryd.ntmps10
    go_wp2_with (go_at_call 23; refine c.mono ?_; rintro e w' ⟨rfl, hb⟩)
    go_ret
    exact ⟨by rw [HAP.out]; rfl, hb⟩
  · obtain ⟨u, rfl⟩ := Int.eq_ofNat_of_zero_le (by omega : 0 ≤ n)
    have e1 : itoa (u : Int) = decDigits u := by rw [itoa, if_neg hn]; rfl
    rw [e1] at hit ⊢
    have c := digits_any u (by omega) w
    have w1 : IntKind.u64.wrap (u : Int) = u := by simp [IntKind.wrap, IntKind.bits, IntKind.signed]; omega
    go_enter Tryd.func10, Tryd.ntmps10
    go_wp2_with (go_at_call 23; refine c.mono ?_; rintro e w' ⟨rfl, hb⟩)
    go_ret
    exact ⟨rfl, hb⟩
end Go.Proofs.YtdlebjogbhgheaaDoor.texts
