/- FlashOnly: behind whatever acts a Program sets no bit, an Erase takes none, neither touches anything else, and what is refused changes nothing. No condition. -/
import Derived.Test.YtdpddcmbilipfaaFlashOnlyLt
import Derived.Test.YtdpddcmbilipfaaFlashOnlyEq
import Derived.Test.YtdpddcmbilipfaaFlashOnlyGt
import Derived.Test.YtdpddcmbilipfaaFlashOnlyWord0
import Derived.Test.YtdpddcmbilipfaaFlashOnlyWord10
import Derived.Test.YtdpddcmbilipfaaFlashOnlySector0
import Derived.Test.YtdpddcmbilipfaaFlashOnlySector10
namespace Go.Proofs.Ytdpddcmbilipfaa.flashOnly
open Go.RowKit Go.Proofs.Ytdpddcmbilipfaa.flash Go.Proofs.Ytdpddcmbilipfaa.word
set_option linter.unusedVariables false

theorem walk (a0 : Option Addr) (cap : Nat) (l : List FAct) (p : FAct) (w : World) (ac : FActs w a0 l) (fp : ∀ q ∈ l, q.Good w) (lc : l.length ≤ cap) (cm : cap ≤ maxLen) (hp : p.Good w) : Calls Try.prog 4 #[.slice a0 l.length cap, p.val] w (Yes w) := by
  by_cases hbig : bigL l = true
  · exact walk_long a0 cap l p w ac (by omega) (.inl hbig)
  have hb : bigL l = false := by simpa using hbig
  by_cases hpl : 100 < p.len
  · exact walk_long a0 cap l p w ac (by omega) (.inr ⟨hb, hpl⟩)
  have hg := runF_good fp (not_big hb).2 l.length (Nat.le_refl _)
  rw [List.take_length] at hg
  cases step_does hg.1 p.k p.A p.X p.M hp.x with
  | none hc' hw' =>
    rcases Int.lt_trichotomy p.k 2 with hkk | hkk | hkk
    · exact none_lt a0 cap l p w ac fp lc cm hp hb hpl _ _ _ rfl ⟨rfl, rfl⟩ (hid hc') (hid hw') (hid hkk)
    · exact none_eq a0 cap l p w ac fp lc cm hp hb hpl _ _ _ rfl ⟨rfl, rfl⟩ (hid hc') (hid hw') (hid hkk)
    · exact none_gt a0 cap l p w ac fp lc cm hp hb hpl _ _ _ rfl ⟨rfl, rfl⟩ (hid hc') (hid hw') (hid hkk)
  | word a v hc' hd hz hk hA ha hw hv hcl hx =>
    rcases hz with hz | hz
    · exact word_0 a0 cap l p w ac fp lc cm hp hb hpl _ _ _ rfl ⟨rfl, rfl⟩ a v (hid hc') (hid hd) (hid hk) (hid hA) (hid ha) (hid hw) (hid hcl) (hid hx) (hid hz)
    · exact word_10 a0 cap l p w ac fp lc cm hp hb hpl _ _ _ rfl ⟨rfl, rfl⟩ a v (hid hc') (hid hd) (hid hk) (hid hA) (hid ha) (hid hw) (hid hcl) (hid hx) (hid hz)
  | sector s f hc' hd hz hk hA hs hw hcl hx =>
    rcases hz with hz | hz
    · exact sector_0 a0 cap l p w ac fp lc cm hp hb hpl _ _ _ rfl ⟨rfl, rfl⟩ s f (hid hc') (hid hd) (hid hk) (hid hA) (hid hs) (hid hw) (hid hcl) (hid hx) (hid hz)
    · exact sector_10 a0 cap l p w ac fp lc cm hp hb hpl _ _ _ rfl ⟨rfl, rfl⟩ s f (hid hc') (hid hd) (hid hk) (hid hA) (hid hs) (hid hw) (hid hcl) (hid hx) (hid hz)
end Go.Proofs.Ytdpddcmbilipfaa.flashOnly
