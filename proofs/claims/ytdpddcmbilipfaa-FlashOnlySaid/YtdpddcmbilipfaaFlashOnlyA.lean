/- FlashOnly, where the list or the masks are too long; and the flash behind a list of acts. No condition. -/
import Derived.Test.YtdpddcmbilipfaaFlashAwake
import Derived.Test.YtdpddcmbilipfaaFlashGreat
import Derived.Test.YtdpddcmbilipfaaFlashStep
import Derived.Test.YtdpddcmbilipfaaWordRefBits
namespace Go.Proofs.Ytdpddcmbilipfaa.flashOnly
open Go.RowKit Go.Proofs.Ytdpddcmbilipfaa.flash Go.Proofs.Ytdpddcmbilipfaa.word
set_option linter.unusedVariables false

/-- a flash of four sectors of five words behind acts -/
def runF (l : List FAct) : Fl := l.foldl (fun F q => (flash.step F q.k q.A q.X q.M).2) (Fl.fresh 4 5)
theorem runF_step {l : List FAct} {k : Nat} {q : FAct} (h : l[k]? = some q) : runF (l.take (k + 1)) = (flash.step (runF (l.take k)) q.k q.A q.X q.M).2 := by
  unfold runF
  rw [List.take_add_one, h, List.foldl_append]
  rfl
theorem runF_good {w : World} {l : List FAct} (fp : ∀ q ∈ l, q.Good w) (hl : ∀ q ∈ l, q.len ≤ 100) : ∀ k, k ≤ l.length → (runF (l.take k)).Ok ∧ (runF (l.take k)).count ≤ k ∧ Shape (Fl.fresh 4 5) (runF (l.take k))
  | 0, _ => ⟨Fl.Ok.fresh (by decide) (by decide) (by decide) (by decide), Nat.le_refl _, rfl, rfl, rfl⟩
  | k + 1, hk => by
    obtain ⟨h1, h2, h3⟩ := runF_good fp hl k (by omega)
    have hq : l[k]? = some l[k] := List.getElem?_eq_getElem (by omega)
    have hqg := fp l[k] (List.getElem_mem _)
    have hql := hl l[k] (List.getElem_mem _)
    rw [runF_step hq]
    refine ⟨step_ok h1 hqg.a2 hqg.x (by rw [hqg.r.1]; omega) hqg.m, by have := (step_count (runF (l.take k)) l[k].k l[k].A l[k].X l[k].M).2; omega, ?_⟩
    have h4 := step_shape (runF (l.take k)) l[k].k l[k].A l[k].X l[k].M
    exact ⟨h4.1.trans h3.1, h4.2.1.trans h3.2.1, h4.2.2.trans h3.2.2⟩
set_option maxHeartbeats 16000000 in
set_option maxRecDepth 20000 in
theorem walk_long (a0 : Option Addr) (cap : Nat) (l : List FAct) (p : FAct) (w : World) (ac : FActs w a0 l) (hcap : l.length ≤ maxLen) (h : bigL l = true ∨ (bigL l = false ∧ 100 < p.len)) : Calls Try.prog 4 #[.slice a0 l.length cap, p.val] w (Yes w) := by
  have hal : Below w.heap.size w (w.alloc (.cells #[.int .i64 p.k, .int .i64 p.A, .int .u32 p.X, .slice p.a p.len p.cap] 35)) := (Below.refl _ _).alloc (Nat.le_refl _) _
  have hB := Block.new w 35 [.int .i64 p.k, .int .i64 p.A, .int .u32 p.X, .slice p.a p.len p.cap]
  have hgr := great_any a0 cap l _ (ac.below hal) hcap
  have HAL := hid hal
  unfold FAct.val actV
  rcases h with h | ⟨h, hpl⟩
  · rw [h] at hgr
    clear hB h hal ac
    go_enter Try.func4, Try.ntmps4
    go_wp2_with (first
      | (go_at_call 6; (with_reducible refine hgr.mono ?_); rintro e w1 ⟨rfl, m, rfl⟩)
      | (go_at_call 7; (with_reducible refine (awake_any _).mono ?_); rintro e w2 ⟨rfl, hb2⟩))
    go_ret
    exact ⟨rfl, (below_drewN HAL.out m).trans (hb2.mono HAL.out.size)⟩
  · rw [h] at hgr
    have e3 := hB.cell 3
    have hq : (100 : Int) < p.len := by omega
    clear h hal ac hB
    go_enter Try.func4, Try.ntmps4
    go_wp2_with (first
      | (go_at_call 6; (with_reducible refine hgr.mono ?_); rintro e w1 ⟨rfl, m, rfl⟩)
      | (go_at_call 7; (with_reducible refine (awake_any _).mono ?_); rintro e w2 ⟨rfl, hb2⟩))
    go_ret
    exact ⟨rfl, (below_drewN HAL.out m).trans (hb2.mono HAL.out.size)⟩
end Go.Proofs.Ytdpddcmbilipfaa.flashOnly
