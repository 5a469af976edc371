/- Contracts and lemmas that the claims of this seat share: TypingRefOnAny. Each says its own conditions. -/
import Derived.Test.YtiajpjkkopdmgaaCmY
import Derived.Test.YtiajpjkkopdmgaaCmZ
import Derived.Test.YtiajpjkkopdmgaaCmAA
import Derived.Test.YtiajpjkkopdmgaaCmAB
import Derived.Test.YtiajpjkkopdmgaaCmAC

namespace Go.Proofs.Ytiajpjkkopdmgaa.typing
open Go.RowKit Go.Proofs.Ytiajpjkkopdmgaa.schema
open Go.Proofs.Ytiajpjkkopdmgaa.step (Lists)
set_option linter.unusedVariables false
theorem refOn_any (v : Int) (a : Option Addr) (cap : Nat) (F : List Fm) (s : step.Sp) (ta : Option Addr) (tc : Nat) (la : Option Addr) (lc : Nat) (w : World) (h : FmL w a F) (hF : Small w F) (hl : Lists w s ta la) (hL : s.l.length ≤ 40) :
    Calls Try.prog 9 #[.agg #[.int .i64 v, .slice a F.length cap], .agg #[.int .i64 s.op, .int .i64 s.fm, .int .i64 s.fd, .int .i64 s.pl, .int .i64 s.tt, .int .i64 s.a, .int .i64 s.b, .int .i64 s.f.id, .int .i64 s.f.kind, .int .i64 s.f.lo, .int .i64 s.f.hi, .int .i64 s.f.most, .int .i64 s.v.n, .string s.v.s, .slice ta s.t.length tc, .slice la s.l.length lc]] w (OnR (on v (forms F) s) w) := by
  rw [← refOn_eq]
  unfold refOn
  by_cases hf : Fit v (forms F) s
  · rw [if_pos hf]
    by_cases h0 : names (forms F) s = 0
    · rw [if_pos h0]
      by_cases h9 : s.op = 9
      · have e : fieldsR (forms F) s = (s.l, 0) := by unfold fieldsR; rw [if_pos h9]
        rw [e]
        rw [if_pos rfl]
        exact refOn_9 v a cap F s ta tc la lc w h hF hl hL hf h0 h9 _ (fun hR => if_pos hR) (fun hR => if_neg hR)
      · obtain ⟨p, hn, hp1, hp7, hpf⟩ := names_zero hf h0 h9
        by_cases h1 : s.op = 1
        · have e : fieldsR (forms F) s = (putL p.2 s.pl.toNat s.f, 0) := by unfold fieldsR; rw [if_neg h9, hn]; simp [h1]
          rw [e]
          rw [if_pos rfl]
          exact refOn_1 v a cap F s ta tc la lc w h hF hl hL hf h0 h1 p hn _ (fun hR => if_pos hR) (fun hR => if_neg hR)
        · by_cases h10 : s.op = 10
          · have e : fieldsR (forms F) s = ([], 0) := by unfold fieldsR; rw [if_neg h9, hn]; simp [h10]
            rw [e]
            rw [if_pos rfl]
            exact refOn_10 v a cap F s ta tc la lc w h hF hl hL hf h0 h10 _ (fun hR => if_pos hR) (fun hR => if_neg hR)
          · obtain ⟨ML, tb, hT⟩ : ∃ ML tb, types (oldAt p.2 (firstAt (ids p.2) s.fd)) s = (ML, tb) := ⟨_, _, rfl⟩
            obtain ⟨FIN, hFIN⟩ : ∃ FIN, puts (cutL p.2 (firstAt (ids p.2) s.fd).toNat) (if s.op = 7 then s.pl.toNat else (firstAt (ids p.2) s.fd).toNat) ML = FIN := ⟨_, rfl⟩
            have e : fieldsR (forms F) s = if tb = false then ([], 17) else if FIN = [] then ([], 7) else (FIN, 0) := by
              unfold fieldsR
              rw [if_neg h9, hn]
              simp only [h1, h10, if_false, hT, hFIN]
            cases tb with
            | false =>
              rw [show fieldsR (forms F) s = ([], 17) by rw [e]; rfl, if_neg (by decide)]
              exact refOn_bad v a cap F s ta tc la lc w h hF hl hL hf h0 h9 h1 h10 p hn ML hT FIN hFIN
            | true =>
              have eE : FIN = [] → fieldsR (forms F) s = ([], 7) := fun hE => by rw [e, if_neg (by decide), if_pos hE]
              have eN : FIN ≠ [] → fieldsR (forms F) s = (FIN, 0) := fun hE => by rw [e, if_neg (by decide), if_neg hE]
              have k1 : FIN = [] → (if (fieldsR (forms F) s).2 = 0 then (if Right v (formsR (forms F) s.fm (fieldsR (forms F) s).1) then (v, formsR (forms F) s.fm (fieldsR (forms F) s).1, 0) else (0, [], 7)) else (0, [], (fieldsR (forms F) s).2)) = (0, [], 7) := fun hE => by rw [eE hE]; rfl
              have k2 : FIN ≠ [] → Right v (formsR (forms F) s.fm FIN) → (if (fieldsR (forms F) s).2 = 0 then (if Right v (formsR (forms F) s.fm (fieldsR (forms F) s).1) then (v, formsR (forms F) s.fm (fieldsR (forms F) s).1, 0) else (0, [], 7)) else (0, [], (fieldsR (forms F) s).2)) = (v, formsR (forms F) s.fm FIN, 0) := fun hE hR => by rw [eN hE, if_pos rfl, if_pos hR]
              have k3 : FIN ≠ [] → ¬ Right v (formsR (forms F) s.fm FIN) → (if (fieldsR (forms F) s).2 = 0 then (if Right v (formsR (forms F) s.fm (fieldsR (forms F) s).1) then (v, formsR (forms F) s.fm (fieldsR (forms F) s).1, 0) else (0, [], 7)) else (0, [], (fieldsR (forms F) s).2)) = (0, [], 7) := fun hE hR => by rw [eN hE, if_pos rfl, if_neg hR]
              by_cases h7 : s.op = 7
              · exact refOn_7 v a cap F s ta tc la lc w h hF hl hL hf h0 h9 h1 h10 p hn ML hT FIN hFIN h7 _ k1 k2 k3
              · exact refOn_x v a cap F s ta tc la lc w h hF hl hL hf h0 h9 h1 h10 p hn ML hT FIN hFIN h7 _ k1 k2 k3
    · rw [if_neg h0]
      exact refOn_names v a cap F s ta tc la lc w h hF hl hL hf h0
  · rw [if_neg hf]
    exact refOn_no v a cap F s ta tc la lc w h hF hl hL hf
end Go.Proofs.Ytiajpjkkopdmgaa.typing
