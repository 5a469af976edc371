/- Contract of takeText of layer 12 (field). No condition but a right field of texts. -/
import Derived.Test.YthpiffafakoheaaFieldHas
import Derived.Test.YthpiffafakoheaaFieldNumber
import Derived.Test.YthpiffafakoheaaCut
namespace Go.Proofs.Ythpiffafakoheaa.field
open Go.RowKit Go.Proofs.Ythpiffafakoheaa.cut
set_option linter.unusedVariables false

/-- the call answers what Take answers -/
def TakesAs (T : Tk) (w : World) (e : Ending) (w' : World) : Prop := e = .returned (.tuple #[.agg #[.int .i64 T.n, .string (strOf T.s)], .int .i64 (T.c : Int), .int .i64 T.e]) ∧ Below w.heap.size w w'
theorem takeText_any (f : Fd) (h : f.Right) (h4 : f.kind = 4) (a : Option Addr) (len cap : Nat) (xs : List Nat) (w : World) (hr : Reads .u8 w a len xs) (hx : ∀ x ∈ xs, x < 256) (hc : len ≤ cap) (hm : cap ≤ 9223372036854775807) :
    Calls Try.prog 31 #[.agg #[.int .i64 f.id, .int .i64 f.kind, .int .i64 f.lo, .int .i64 f.hi, .int .i64 f.most], .slice a len cap] w (TakesAs (f.take xs) w) := by
  have HW := hid (W2.all f w (W2 f w) (Below.refl _ _))
  have hlen := hr.1
  have ht : f.take xs = if xs.length < 1 then ⟨0, [], 0, 5⟩ else if f.most < (xs.getD 0 0 : Nat) then ⟨0, [], 0, 16⟩ else if xs.length < 1 + xs.getD 0 0 then ⟨0, [], 0, 5⟩ else ⟨0, (xs.drop 1).take (xs.getD 0 0), 1 + xs.getD 0 0, 0⟩ := by
    unfold Fd.take
    rw [if_neg (show ¬¬ f.Right from fun k => k h), if_pos h4]
  rw [ht]
  have hmost : 0 ≤ f.most ∧ f.most ≤ 32 := by unfold Fd.Right at h; omega
  clear ht h h4
  rw [hlen]
  unfold TakesAs
  unfold W2 at HW
  by_cases h0 : len < 1
  · rw [if_pos h0]
    obtain rfl : len = 0 := by omega
    rw [show strOf ([] : List Nat) = ⟨#[]⟩ from rfl]
    clear hx h0
    go_enter Try.func31, Try.ntmps31
    go_wp2
    go_returns
    exact ⟨rfl, HW.out.2.2⟩
  · rw [if_neg h0]
    obtain ⟨b, off, rfl, hbb, hcell⟩ := hr.at (i := 0) (by omega)
    have hk0 := hcell 0 (by omega)
    rw [Nat.add_zero] at hk0
    have hx0 : xs.getD 0 0 < 256 := by
      rw [List.getD_eq_getElem?_getD, List.getElem?_eq_getElem (by omega)]
      exact hx _ (List.getElem_mem (by omega))
    obtain ⟨X, hX⟩ : ∃ X, Hid (xs.getD 0 0 = X) := ⟨_, rfl⟩
    rw [hX.out] at hk0 hx0 ⊢
    obtain ⟨L, rfl⟩ : ∃ L, len = L + 1 := ⟨len - 1, by omega⟩
    have hcut : ∀ W : World, (Instr.slice 33 (.slice (some ⟨b, off, none⟩) (L + 1) cap) (some (.int .i64 1)) none none).run Try.prog W = .ok (.slice (shift (some ⟨b, off, none⟩) 1 cap) L (cap - 1)) W := fun W => cut_from W _ (L + 1) cap 1 (by omega)
    have hrs : Reads .u8 w (shift (some ⟨b, off, none⟩) 1 cap) L (xs.drop 1) := reads_shift (k := 1) hr (by omega) hc
    generalize shift (some ⟨b, off, none⟩) 1 cap = A1 at *
    have hlp : 0 < L + 1 := by omega
    have HX := hid hx
    have HC := hid hcell
    have HR := hid hr
    clear hx hcell h0 hr
    by_cases h1 : f.most < (X : Int)
    · rw [if_pos h1]
      rw [show strOf ([] : List Nat) = ⟨#[]⟩ from rfl]
      go_enter Try.func31, Try.ntmps31
      go_wp2
      go_quiet (fail)
      go_wp2
      go_returns
      exact ⟨rfl, ((below_drewN HW.out.2.2 nq).setCell (p := ⟨w.heap.size + 1, 0, none⟩) (Nat.le_succ _) _).setCell (p := ⟨w.heap.size + 1, 1, none⟩) (Nat.le_succ _) _⟩
    · rw [if_neg h1]
      have hX32 : X ≤ 32 := by omega
      by_cases h2 : L + 1 < 1 + X
      · rw [if_pos h2]
        rw [show strOf ([] : List Nat) = ⟨#[]⟩ from rfl]
        have h3 : (X : Int) > (L : Int) := by omega
        clear h2
        go_enter Try.func31, Try.ntmps31
        go_wp2
        go_quiet (fail)
        go_wp2
        go_returns
        exact ⟨rfl, ((below_drewN HW.out.2.2 nq).setCell (p := ⟨w.heap.size + 1, 0, none⟩) (Nat.le_succ _) _).setCell (p := ⟨w.heap.size + 1, 1, none⟩) (Nat.le_succ _) _⟩
      · rw [if_neg h2]
        have h3 : ¬ (X : Int) > (L : Int) := by omega
        have hcut2 : ∀ W : World, (Instr.slice 33 (.slice A1 L (cap - 1)) none (some (.int .i64 (X : Int))) none).run Try.prog W = .ok (.slice (shift A1 0 (cap - 1)) X (cap - 1)) W := fun W => cut_to W _ L (cap - 1) X (by omega)
        have hr2 := reads_take (cap := cap - 1) hrs (k := X) (by omega)
        have hbw := HW.out.2.2
        have hcv : ∀ n : Nat, (convert 33 9 (.slice (shift A1 0 (cap - 1)) X (cap - 1))).run Try.prog (((w.alloc (.cells #[.int .i64 f.id, .int .i64 f.kind, .int .i64 f.lo, .int .i64 f.hi, .int .i64 f.most] 23)).alloc (.cells #[.int .i64 0, .string ⟨#[]⟩] 25)).drewN n) = .ok (.string (strOf ((xs.drop 1).take X))) (((w.alloc (.cells #[.int .i64 f.id, .int .i64 f.kind, .int .i64 f.lo, .int .i64 f.hi, .int .i64 f.most] 23)).alloc (.cells #[.int .i64 0, .string ⟨#[]⟩] 25)).drewN n) :=
          fun n => Reads.str (P := Try.prog) (hr2.below (below_drewN hbw n)) 33 5 Try.underlying33 Try.underlying5 (cap - 1) 9 Try.underlying9
        clear h2 hr2 hbw
        generalize shift A1 0 (cap - 1) = A2 at *
        generalize strOf ((xs.drop 1).take X) = Z at *
        go_enter Try.func31, Try.ntmps31
        go_wp2
        go_quiet (fail)
        go_wp2
        go_returns
        exact ⟨by rw [show ((1 + X : Nat) : Int) = 1 + (X : Int) by omega], ((below_drewN HW.out.2.2 nq).setCell (p := ⟨w.heap.size + 1, 0, none⟩) (Nat.le_succ _) _).setCell (p := ⟨w.heap.size + 1, 1, none⟩) (Nat.le_succ _) _⟩
end Go.Proofs.Ythpiffafakoheaa.field
