/- Contracts of layer 13 (schema): Long. No condition but at most 40 fields. -/
import Derived.Test.YtacigmnnekphmaaSchemaMath
import Derived.Test.YtacigmnnekphmaaFieldSize
import Derived.Test.YtacigmnnekphmaaFieldRows
namespace Go.Proofs.Ytacigmnnekphmaa.schema
open Go.RowKit
open Go.Proofs.Ytacigmnnekphmaa.field (Gives newB gives_from size_any)
set_option linter.unusedVariables false

theorem own_low {w : World} {B B' e size n : Nat} {v : Value} {xs : List Value} (h : w.ownsRow B e size v n xs) (hB : B' ≤ B) : w.ownsRow B' e size v n xs := by
  refine ⟨h.1, ?_⟩
  rcases h.2 with h0 | ⟨g, cap, cur, hv, hb, hg⟩
  · exact .inl h0
  · exact .inr ⟨g, cap, cur, hv, Nat.le_trans hB hb, hg⟩
theorem below_out {w w' : World} {d : Obj} (hb : Below (w.alloc d).heap.size (w.alloc d) w') : Below w.heap.size w w' := ((Below.refl _ _).alloc (Nat.le_refl _) _).trans (hb.mono (by simp))
theorem fields_below {w w' : World} {B : Nat} {a : Option Addr} {L : List field.Fd} (h : field.Fds w a L) (hB : w.heap.size ≤ B) (hb : Below B w w') : field.Fds w' a L := h.below (hb.mono hB)
/-- the cells of field k in a later world -/
theorem field_at {w w' : World} {a : Option Addr} {L : List field.Fd} (h : field.Fds w a L) (hb : Below w.heap.size w w') {k : Nat} (hk : k < L.length) :
    ∃ b off p, a = some ⟨b, off, none⟩ ∧ b < w'.heap.size ∧ L[k]? = some p ∧ w'.cell? ⟨b, off + k * 5, none⟩ = some (.int .i64 p.id) ∧ w'.cell? ⟨b, off + k * 5 + 1, none⟩ = some (.int .i64 p.kind) ∧ w'.cell? ⟨b, off + k * 5 + 2, none⟩ = some (.int .i64 p.lo) ∧ w'.cell? ⟨b, off + k * 5 + 3, none⟩ = some (.int .i64 p.hi) ∧ w'.cell? ⟨b, off + k * 5 + 4, none⟩ = some (.int .i64 p.most) := (h.below hb).at hk
theorem long_any (i : Int) (a : Option Addr) (cap : Nat) (L : List field.Fd) (w : World) (h : field.Fds w a L) (hL : L.length ≤ 40) :
    Calls Try.prog 13 #[.agg #[.int .i64 i, .slice a L.length cap]] w (Gives (.int .i64 (size L : Int)) w) := by
  have HO := hid (fun (w' : World) hb => below_out (w := w) (d := .cells #[.int .i64 i, .slice a L.length cap] 29) (w' := w') hb)
  have HF := hid (h.below (newB w (.cells #[.int .i64 i, .slice a L.length cap] 29)))
  obtain ⟨S, hS⟩ : ∃ S : Nat, Hid (size L = S) := ⟨_, rfl⟩
  rw [hS.out]
  unfold Gives
  clear h
  go_enter Try.func13, Try.ntmps13
  go_wp2
  go_loopw [3, 9] (fun s n wr => ∃ k : Nat, k ≤ L.length ∧ s = .int .i64 (size (L.take k) : Int) ∧ n = .int .i64 (k : Int) ∧ Hid (Below (w.alloc (.cells #[.int .i64 i, .slice a L.length cap] 29)).heap.size (w.alloc (.cells #[.int .i64 i, .slice a L.length cap] 29)) wr)) (fun _ n _ => L.length - (intOf n).toNat)
  case atStart => exact ⟨0, Nat.zero_le _, rfl, rfl, hid (Below.refl _ _)⟩
  case round =>
    obtain ⟨k, hk, rfl, rfl, HB⟩ := hrel
    by_cases hlt : k < L.length
    · obtain ⟨b, off, p, rfl, hbl, hp, c0, c1, c2, c3, c4⟩ := field_at HF.out HB.out hlt
      have i1 : (k : Int) < L.length := by omega
      have HP := hid hp
      have HSZ := hid (size_succ hp)
      have hst := size_take L k
      have hst2 := field.wide_le
      have cs := fun w' => size_any p w'
      have hps := fd_size_le p
      clear hp hst2
      generalize size (L.take k) = s at *
      go_wp2_with (go_at_call 31; ((with_reducible refine (cs _).mono ?_); rintro e w2 ⟨rfl, hb2⟩))
      exact ⟨⟨k + 1, by omega, by rw [HSZ.out]; go_num, by go_num, hid (HB.out.trans ((below_out hb2).mono HB.out.size))⟩, by simp [intOf]; omega⟩
    · obtain rfl : k = L.length := by omega
      go_wp2
      go_ret
      exact ⟨ret_int (by rw [← hS.out, List.take_of_length_le (Nat.le_refl _)]), HO.out _ HB.out⟩
end Go.Proofs.Ytacigmnnekphmaa.schema
