/- Contract of the reference's Same of layer 1 at two slices that read alike. -/
import Derived.Test.YtdpddcmbilipfaaOpen
namespace Go.Proofs.Ytdpddcmbilipfaa.word
open Go.RowKit
set_option linter.unusedVariables false

set_option maxHeartbeats 1600000 in
theorem same_any (a b : Option Addr) (len ca cb : Nat) (xs : List Nat) (w : World) (ha : Reads .u32 w a len xs) (hb : Reads .u32 w b len xs) (hl : len * 4 ≤ 140737488355328) :
    Calls Try.prog 18 #[.slice a len ca, .slice b len cb] w (Quiet (.bool true) w) := by
  have hq : ((len : Int) != len) = false := by simp
  go_enter Try.func18, Try.ntmps18
  go_wp2
  go_loopw [5] (fun i wr => ∃ k : Nat, k ≤ len ∧ i = .int .i64 k ∧ ∃ m, wr = w.drewN m) (fun i _ => len - (intOf i).toNat)
  case atStart => exact ⟨0, Nat.zero_le _, rfl, 0, rfl⟩
  case round =>
    obtain ⟨k, hk, rfl, m, rfl⟩ := hrel
    by_cases hlt : k < len
    · obtain ⟨b1, o1, rfl, _, hc1⟩ := ha.at hlt
      obtain ⟨b2, o2, rfl, _, hc2⟩ := hb.at hlt
      have c1 := hc1 k hlt
      have c2 := hc2 k hlt
      have i1 : (k : Int) < len := by omega
      clear hc1 hc2
      generalize xs.getD k 0 = x1 at *
      have hn : ((x1 : Int) != x1) = false := by simp
      have c1' : (w.drewN m).cell? ⟨b1, o1 + k, none⟩ = some (.int .u32 (x1 : Int)) := c1
      have c2' : (w.drewN m).cell? ⟨b2, o2 + k, none⟩ = some (.int .u32 (x1 : Int)) := c2
      go_wp2
      go_quiet (fail)
      go_wp2
      exact ⟨⟨k + 1, by omega, by go_num, ⟨_, rfl⟩⟩, by simp [intOf]; omega⟩
    · go_wp2
      go_ret
      exact ⟨rfl, _, rfl⟩
end Go.Proofs.Ytdpddcmbilipfaa.word
