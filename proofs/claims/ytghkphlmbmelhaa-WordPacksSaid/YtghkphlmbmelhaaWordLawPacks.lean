/- WordPacks: for every slice of bytes, every slice of words and every number, Pack, Bytes and Need answer as the reference does. No condition. -/
import Derived.Test.YtghkphlmbmelhaaWordAwake
import Derived.Test.YtghkphlmbmelhaaWordRefBytes
import Derived.Test.YtghkphlmbmelhaaWordRefPack
import Derived.Test.YtghkphlmbmelhaaWordLawBack
namespace Go.Proofs.Ytghkphlmbmelhaa.wordPacks
open Go.RowKit Go.Proofs.Ytghkphlmbmelhaa.word
set_option linter.unusedVariables false

theorem walk (a0 : Option Addr) (len0 cap0 : Nat) (bs : List Nat) (a1 : Option Addr) (len1 cap1 : Nat) (ws : List Nat) (n : Int) (w : World)
    (hr0 : Reads .u8 w a0 len0 bs) (hb0 : ∀ x ∈ bs, x < 256) (hl0 : len0 ≤ cap0) (hc0 : cap0 * 1 ≤ 140737488351232)
    (hr1 : Reads .u32 w a1 len1 ws) (hb1 : ∀ x ∈ ws, x < 4294967296) (hl1 : len1 ≤ cap1) (hc1 : cap1 * 4 ≤ 140737488351232)
    (h1 : -9223372036854775808 ≤ n) (h2 : n ≤ 9223372036854775807) :
    Calls Try.prog 3 #[.slice a0 len0 cap0, .slice a1 len1 cap1, .int .i64 n] w (Yes w) := by
  obtain ⟨N, hN1, hN2⟩ : ∃ N : Nat, (len0 : Int) ≤ 4 * N ∧ 4 * (N : Int) ≤ len0 + 3 := ⟨(len0 + 3) / 4, by omega, by omega⟩
  have n1 := fun w' => need_any n h1 h2 w'
  have n2 := fun w' => refNeed_any n h1 h2 w'
  have hpl : (packed bs N).length = N := by simp [packed]
  have HB0 := hid hb0
  have HB1 := hid hb1
  clear hb0 hb1
  go_enter Try.func3, Try.ntmps3
  go_wp2_with fail
  refine (bytes_any a1 len1 cap1 ws _ hr1 HB1.out (by omega) n h1 h2).mono ?_
  rintro e w1 ⟨v1, rfl, ho1, hb1⟩
  obtain ⟨x1, k1, rfl, hk1⟩ := ownsRow_slice ho1
  have hr1b := hr1.below hb1
  go_wp2_with fail
  refine (refBytes_any a1 len1 cap1 ws _ hr1b HB1.out (by omega) n h1 h2).mono ?_
  rintro e w2 ⟨v2, rfl, ho2, hb2⟩
  obtain ⟨x2, k2, rfl, hk2⟩ := ownsRow_slice ho2
  have rv1 := (Reads.own ho1).below hb2
  have rv2 := Reads.own ho2
  have hr0b := (hr0.below hb1).below hb2
  go_wp2_with fail
  refine (pack_n a0 len0 cap0 N bs _ hr0b HB0.out (by omega) hN1 hN2).mono ?_
  rintro e w3 ⟨v3, rfl, ho3, hb3⟩
  obtain ⟨x3, k3, rfl, hk3⟩ := ownsRow_slice ho3
  have hr0c := hr0b.below hb3
  go_wp2_with fail
  refine (refPack_n a0 len0 cap0 N bs _ hr0c HB0.out (by omega) hN1 hN2).mono ?_
  rintro e w4 ⟨v4, rfl, ho4, hb4⟩
  obtain ⟨x4, k4, rfl, hk4⟩ := ownsRow_slice ho4
  have rv3 := (Reads.own ho3).below hb4
  have rv4 := Reads.own ho4
  go_wp2_with fail
  refine (same_any x3 x4 N k3 k4 _ _ rv3 rv4 (by omega)).mono ?_
  rintro e w5 ⟨rfl, m5, rfl⟩
  have r1 := ((rv1.below hb3).below hb4).drewN m5
  have r2 := ((rv2.below hb3).below hb4).drewN m5
  have s1 := r1.str (P := Try.prog) 22 5 Try.underlying22 Try.underlying5 k1 9 Try.underlying9
  have s2 := r2.str (P := Try.prog) 22 5 Try.underlying22 Try.underlying5 k2 9 Try.underlying9
  go_wp2_with (first
    | (go_at_call 12; refine (n1 _).mono ?_; rintro e w' ⟨rfl, m6, rfl⟩)
    | (go_at_call 13; refine (n2 _).mono ?_; rintro e w' ⟨rfl, m7, rfl⟩)
    | (go_at_call 14; refine (awake_any _).mono ?_; rintro e w' ⟨rfl, hbe⟩))
  go_ret
  have z1 := hb1.size
  have z2 := hb2.size
  have z3 := hb3.size
  have z4 := hb4.size
  exact ⟨rfl, (below_drewN (((hb1.trans (hb2.mono z1)).trans (hb3.mono (Nat.le_trans z1 z2))).trans (hb4.mono (Nat.le_trans z1 (Nat.le_trans z2 z3)))) _).trans (hbe.mono (Nat.le_trans z1 (Nat.le_trans z2 (Nat.le_trans z3 z4))))⟩
end Go.Proofs.Ytghkphlmbmelhaa.wordPacks
