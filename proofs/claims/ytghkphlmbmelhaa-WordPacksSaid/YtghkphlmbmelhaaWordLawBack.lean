/- WordBack: for every slice of bytes, its words go back to the same bytes. No condition. -/
import Derived.Test.YtghkphlmbmelhaaWordAwake
import Derived.Test.YtghkphlmbmelhaaWordBytes
namespace Go.Proofs.Ytghkphlmbmelhaa.word
open Go.RowKit
theorem byteOf_packed (xs : List Nat) (N i : Nat) (hx : ∀ x ∈ xs, x < 256) (hi : i < 4 * N) : byteOf (packed xs N) i = xs.getD i 0 := by
  have h0 := getD_lt xs hx (4 * (i / 4))
  have h1 := getD_lt xs hx (4 * (i / 4) + 1)
  have h2 := getD_lt xs hx (4 * (i / 4) + 2)
  have h3 := getD_lt xs hx (4 * (i / 4) + 3)
  have e : (packed xs N).getD (i / 4) 0 = wordOf xs (i / 4) := by
    unfold packed
    rw [List.getD_eq_getElem?_getD, List.getElem?_map, List.getElem?_range (by omega)]
    rfl
  unfold byteOf
  rw [e]
  unfold wordOf
  have hc : i = 4 * (i / 4) ∨ i = 4 * (i / 4) + 1 ∨ i = 4 * (i / 4) + 2 ∨ i = 4 * (i / 4) + 3 := by omega
  generalize i / 4 = q at *
  rcases hc with rfl | rfl | rfl | rfl
  · rw [show 8 * (3 - 4 * q % 4) = 24 from by omega]; omega
  · rw [show 8 * (3 - (4 * q + 1) % 4) = 16 from by omega]; omega
  · rw [show 8 * (3 - (4 * q + 2) % 4) = 8 from by omega]; omega
  · rw [show 8 * (3 - (4 * q + 3) % 4) = 0 from by omega]; omega
theorem bytesOf_packed (xs : List Nat) (len N : Nat) (hl : xs.length = len) (hx : ∀ x ∈ xs, x < 256) (h1 : (len : Int) ≤ 4 * N) (h2 : 4 * (N : Int) ≤ len + 3) : bytesOf (packed xs N) len = (0, xs) := by
  have hp : (packed xs N).length = N := by simp [packed]
  have hn : need len = N := by rw [need_nat]; omega
  unfold bytesOf
  rw [if_neg (by omega), hp, hn, if_neg (by omega), if_neg (by omega), if_neg]
  · rw [Int.toNat_natCast]
    congr 1
    apply List.ext_getElem?
    intro i
    by_cases hi : i < len
    · rw [List.getElem?_map, List.getElem?_range hi]
      simp only [Option.map_some]
      rw [byteOf_packed xs N i hx (by omega), List.getD_eq_getElem?_getD, List.getElem?_eq_getElem (by omega)]
      rfl
    · rw [List.getElem?_eq_none (by simp; omega), List.getElem?_eq_none (by omega)]
  · rw [Int.toNat_natCast]
    rw [Bool.not_eq_false]
    apply blank_true
    intro i hi
    rw [hp] at hi
    rw [byteOf_packed xs N (len + i) hx (by omega), List.getD_eq_getElem?_getD, List.getElem?_eq_none (by omega)]
    rfl
theorem packed_lt (xs : List Nat) (N : Nat) (hx : ∀ x ∈ xs, x < 256) : ∀ y ∈ packed xs N, y < 4294967296 := by
  intro y hy
  obtain ⟨j, _, rfl⟩ := List.mem_map.1 hy
  exact wordOf_lt xs hx j
end Go.Proofs.Ytghkphlmbmelhaa.word
namespace Go.Proofs.Ytghkphlmbmelhaa.wordBack
open Go.RowKit Go.Proofs.Ytghkphlmbmelhaa.word
set_option linter.unusedVariables false

theorem walk (a : Option Addr) (len cap : Nat) (xs : List Nat) (w : World) (hr : Reads .u8 w a len xs) (hx : ∀ x ∈ xs, x < 256) (hlc : len ≤ cap) (hcap : cap * 1 ≤ 140737488351232) :
    Calls Try.prog 5 #[.slice a len cap] w (Yes w) := by
  obtain ⟨N, hN1, hN2⟩ : ∃ N : Nat, (len : Int) ≤ 4 * N ∧ 4 * (N : Int) ≤ len + 3 := ⟨(len + 3) / 4, by omega, by omega⟩
  have hpk := packed_lt xs N hx
  have hbo := bytesOf_packed xs len N hr.1 hx hN1 hN2
  have hbp : (packed xs N).length = N := by simp [packed]
  have cn : ∀ w', Calls Try.prog 12 #[.int .i64 len] w' (Quiet (.int .i64 (N : Int)) w') := fun w' => by
    have := need_any len (by omega) (by omega) w'
    rwa [need_nat, show (len + 3) / 4 = N from by omega] at this
  go_enter Try.func5, Try.ntmps5
  go_wp2_with fail
  refine (pack_n a len cap N xs _ hr hx (by omega) hN1 hN2).mono ?_
  rintro e w1 ⟨v, rfl, hown, hb⟩
  obtain ⟨av, capv, rfl, hcv⟩ := ownsRow_slice hown
  have rv := Reads.own hown
  go_wp2_with fail
  refine (bytes_any av N capv (packed xs N) _ rv hpk (by omega) len (by omega) (by omega)).mono ?_
  rintro e w2 ⟨v2, rfl, hown2, hb2⟩
  rw [hbo] at hown2
  rw [hbo]
  obtain ⟨a2, cap2, rfl, hc2⟩ := ownsRow_slice hown2
  have r2 := Reads.own hown2
  have r0 := (hr.below hb).below hb2
  have s1 := r2.str (P := Try.prog) 22 5 Try.underlying22 Try.underlying5 cap2 9 Try.underlying9
  have s2 := r0.str (P := Try.prog) 22 5 Try.underlying22 Try.underlying5 cap 9 Try.underlying9
  go_wp2_with (first
    | (go_at_call 12; refine (cn _).mono ?_; rintro e w' ⟨rfl, m2, rfl⟩)
    | (go_at_call 14; refine (awake_any _).mono ?_; rintro e w' ⟨rfl, hbe⟩))
  go_ret
  exact ⟨rfl, ((hb.trans (hb2.mono hb.size)).trans (below_drewN (Below.refl _ _) _)).trans (hbe.mono (Nat.le_trans hb.size hb2.size))⟩
end Go.Proofs.Ytghkphlmbmelhaa.wordBack
