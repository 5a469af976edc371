/- Contracts and lemmas that the claims of this seat share: SchemaBig, StepGreat, TypingGreat, TypingAwake, TypingKeep, TypingLawKit, SchemaSameW, SchemaRefSame. Each says its own conditions. -/
import Derived.Test.YtiajpjkkopdmgaaCmE
import Derived.Test.YtiajpjkkopdmgaaCmQ
import Derived.Test.YtiajpjkkopdmgaaCmX
import Derived.Test.YtiajpjkkopdmgaaCmAE
import Derived.Laws.Strings
import Derived.Test.YtiajpjkkopdmgaaCmF
import Derived.Test.YtiajpjkkopdmgaaCmK
import Derived.Test.YtiajpjkkopdmgaaCmO
import Derived.Laws.StructEq
import Derived.Deep.RegionHeld3

namespace Go.Proofs.Ytiajpjkkopdmgaa.schema
open Go.RowKit
open Go.Proofs.Ytiajpjkkopdmgaa.field (Gives newB)
set_option linter.unusedVariables false

def big (p : Form) : Bool := decide (40 < p.2.length)
def greatB (P : List Form) : Bool := (P.take 41).any big || decide (40 < P.length)
theorem greatB_no {P : List Form} (h : greatB P = false) : P.length ≤ 40 ∧ ∀ p ∈ P, p.2.length ≤ 40 := by
  unfold greatB at h
  rw [Bool.or_eq_false_iff] at h
  have h1 : P.length ≤ 40 := by have := h.2; simp at this; omega
  refine ⟨h1, fun p hp => ?_⟩
  have h2 := h.1
  rw [List.take_of_length_le (by omega), List.any_eq_false] at h2
  have := h2 p hp
  unfold big at this
  simp at this
  omega
end Go.Proofs.Ytiajpjkkopdmgaa.schema

namespace Go.Proofs.Ytiajpjkkopdmgaa.step
open Go.RowKit
open Go.Proofs.Ytiajpjkkopdmgaa.field (Gives newB gives_from)
open Go.Proofs.Ytiajpjkkopdmgaa.schema (below_out take_succ_at)
set_option linter.unusedVariables false

/-- a list of steps in memory, each with its two lists -/
structure StL (w : World) (a : Option Addr) (L : List St) : Prop where
  row : Sts w a L
  each : ∀ p ∈ L, Lists w p.s p.ta p.la
theorem StL.below {w w' : World} {a : Option Addr} {L : List St} (h : StL w a L) (hb : Below w.heap.size w w') : StL w' a L := ⟨h.row.below hb, fun p hp => (h.each p hp).below hb⟩
theorem StL.nil (w : World) : StL w none [] := ⟨.inl rfl, by simp⟩
def sps (L : List St) : List Sp := L.map St.s
theorem sps_length (L : List St) : (sps L).length = L.length := List.length_map _
theorem sps_at {L : List St} {k : Nat} {p : St} (h : L[k]? = some p) : (sps L)[k]? = some p.s := by simp [sps, h]
/-- the step k in a later world -/
theorem step_at {w w' : World} {a : Option Addr} {L : List St} (h : StL w a L) (hb : Below w.heap.size w w') {k : Nat} (hk : k < L.length) :
    ∃ b off p, a = some ⟨b, off, none⟩ ∧ b < w'.heap.size ∧ L[k]? = some p ∧ Lists w' p.s p.ta p.la ∧ (w'.cell? ⟨b, off + k * 16, none⟩ = some (.int .i64 p.s.op) ∧ w'.cell? ⟨b, off + k * 16 + 1, none⟩ = some (.int .i64 p.s.fm) ∧ w'.cell? ⟨b, off + k * 16 + 2, none⟩ = some (.int .i64 p.s.fd) ∧ w'.cell? ⟨b, off + k * 16 + 3, none⟩ = some (.int .i64 p.s.pl) ∧ w'.cell? ⟨b, off + k * 16 + 4, none⟩ = some (.int .i64 p.s.tt) ∧ w'.cell? ⟨b, off + k * 16 + 5, none⟩ = some (.int .i64 p.s.a) ∧ w'.cell? ⟨b, off + k * 16 + 6, none⟩ = some (.int .i64 p.s.b) ∧ w'.cell? ⟨b, off + k * 16 + 7, none⟩ = some (.int .i64 p.s.f.id) ∧ w'.cell? ⟨b, off + k * 16 + 8, none⟩ = some (.int .i64 p.s.f.kind) ∧ w'.cell? ⟨b, off + k * 16 + 9, none⟩ = some (.int .i64 p.s.f.lo) ∧ w'.cell? ⟨b, off + k * 16 + 10, none⟩ = some (.int .i64 p.s.f.hi) ∧ w'.cell? ⟨b, off + k * 16 + 11, none⟩ = some (.int .i64 p.s.f.most) ∧ w'.cell? ⟨b, off + k * 16 + 12, none⟩ = some (.int .i64 p.s.v.n) ∧ w'.cell? ⟨b, off + k * 16 + 13, none⟩ = some (.string p.s.v.s) ∧ w'.cell? ⟨b, off + k * 16 + 14, none⟩ = some (.slice p.ta p.s.t.length p.tc) ∧ w'.cell? ⟨b, off + k * 16 + 15, none⟩ = some (.slice p.la p.s.l.length p.lc)) := by
  have h' := h.below hb
  rcases h'.row with rfl | ⟨b, off, ha, hlt, hc⟩
  · simp at hk
  · have hp := List.getElem?_eq_getElem hk
    have hx := hc k _ hp
    exact ⟨b, off, _, ha, hlt, hp, h'.each _ (List.mem_of_getElem? hp), hx 0 _ rfl, hx 1 _ rfl, hx 2 _ rfl, hx 3 _ rfl, hx 4 _ rfl, hx 5 _ rfl, hx 6 _ rfl, hx 7 _ rfl, hx 8 _ rfl, hx 9 _ rfl, hx 10 _ rfl, hx 11 _ rfl, hx 12 _ rfl, hx 13 _ rfl, hx 14 _ rfl, hx 15 _ rfl⟩
/-- too much to be looked at -/
def Wide (s : Sp) : Prop := 100 < s.t.length ∨ 40 < s.l.length
instance (s : Sp) : Decidable (Wide s) := by unfold Wide; infer_instance
def GreatL (L : List Sp) : Prop := (∃ s ∈ L.take 61, Wide s) ∨ 60 < L.length
instance (L : List Sp) : Decidable (GreatL L) := by unfold GreatL; infer_instance
theorem great_not {L : List Sp} (h : ¬ GreatL L) : L.length ≤ 60 ∧ ∀ s ∈ L, s.t.length ≤ 100 ∧ s.l.length ≤ 40 := by
  have h1 : L.length ≤ 60 := by
    have : ¬ 60 < L.length := fun e => h (.inr e)
    omega
  refine ⟨h1, fun s hs => ?_⟩
  have : ¬ Wide s := fun e => h (.inl ⟨s, by rw [List.take_of_length_le (by omega)]; exact hs, e⟩)
  unfold Wide at this
  omega
theorem wide_succ {L : List Sp} {k : Nat} {s : Sp} (h : L[k]? = some s) (hn : ∀ q ∈ L.take k, ¬ Wide q) (hs : ¬ Wide s) : ∀ q ∈ L.take (k + 1), ¬ Wide q := by
  rw [take_succ_at h]
  intro q hq
  rcases List.mem_append.1 hq with h | h
  · exact hn q h
  · rw [List.mem_singleton.1 h]; exact hs
theorem wide_yes {L : List Sp} {k : Nat} {s : Sp} (h : L[k]? = some s) (hk : k < 61) (hs : Wide s) : GreatL L :=
  .inl ⟨s, List.mem_of_getElem? ((List.getElem?_take_of_lt hk).trans h), hs⟩
set_option maxRecDepth 20000 in
theorem great_any (a : Option Addr) (c : Nat) (L : List St) (w : World) (h : StL w a L) (hL : L.length ≤ maxLen) : Calls Try.prog 17 #[.slice a L.length c] w (Gives (.bool (decide (GreatL (sps L)))) w) := by
  have hml : (L.length : Int) ≤ 9223372036854775807 := by unfold maxLen at hL; omega
  obtain ⟨r, hr⟩ : ∃ r : Bool, Hid (decide (GreatL (sps L)) = r) := ⟨_, rfl⟩
  rw [hr.out]
  unfold Gives
  have HF := hid h
  have HLN := hid (sps_length L)
  clear h hL
  go_enter Try.func17, Try.ntmps17
  go_wp2
  go_loopw [3] (fun n wr => ∃ k : Nat, k ≤ L.length ∧ k ≤ 61 ∧ n = .int .i64 (k : Int) ∧ Hid (∀ q ∈ (sps L).take k, ¬ Wide q) ∧ Hid (Below w.heap.size w wr)) (fun n _ => L.length - (intOf n).toNat)
  case atStart => exact ⟨0, Nat.zero_le _, by omega, rfl, hid (by simp), hid (Below.refl _ _)⟩
  case round =>
    obtain ⟨k, hk, hk61, rfl, HOK, HB⟩ := hrel
    by_cases hlt : k < L.length
    · have i1 : (k : Int) < L.length := by omega
      by_cases h61 : k < 61
      · have i2 : (k : Int) < 61 := by omega
        obtain ⟨b, off, p, rfl, hbl, hp, hls, z0, z1, z2, z3, z4, z5, z6, z7, z8, z9, z10, z11, z12, z13, z14, z15⟩ := step_at HF.out HB.out hlt
        have HSUC := hid (wide_succ (sps_at hp) HOK.out)
        have HYES := hid (wide_yes (sps_at hp) h61)
        obtain ⟨s, ta, tc, la, lc⟩ := p
        simp only at z14 z15 hls HSUC HYES
        have m1 : (s.t.length : Int) ≤ 9223372036854775807 := by have := hls.mt; unfold maxLen at this; omega
        have m2 : (s.l.length : Int) ≤ 9223372036854775807 := by have := hls.ml; unfold maxLen at this; omega
        clear hp hls z0 z1 z2 z3 z4 z5 z6 z7 z8 z9 z10 z11 z12 z13
        by_cases h1 : 100 < s.t.length
        · have hd : decide ((s.t.length : Int) > 100) = true := decide_eq_true (by omega)
          obtain rfl : true = r := by rw [← hr.out]; exact (decide_eq_true (HYES.out (.inl h1))).symm
          clear h1
          go_wp2
          go_ret
          exact ⟨rfl, HB.out⟩
        · have hd : decide ((s.t.length : Int) > 100) = false := decide_eq_false (by omega)
          by_cases h2 : 40 < s.l.length
          · have hd2 : decide ((s.l.length : Int) > 40) = true := decide_eq_true (by omega)
            obtain rfl : true = r := by rw [← hr.out]; exact (decide_eq_true (HYES.out (.inr h2))).symm
            clear h1 h2
            go_wp2
            go_ret
            exact ⟨rfl, HB.out⟩
          · have hd2 : decide ((s.l.length : Int) > 40) = false := decide_eq_false (by omega)
            have HW : Hid (¬ Wide s) := hid (by unfold Wide; omega)
            clear h1 h2
            go_wp2
            exact ⟨⟨k + 1, by omega, by omega, by go_num, hid (HSUC.out HW.out), HB⟩, by simp [intOf]; omega⟩
      · obtain rfl : k = 61 := by omega
        obtain rfl : true = r := by rw [← hr.out]; exact (decide_eq_true (.inr (by rw [HLN.out]; omega))).symm
        have hd : decide ((L.length : Int) > 60) = true := decide_eq_true (by omega)
        have j1 : (60 : Int) < L.length := by omega
        go_wp2
        go_ret
        exact ⟨rfl, HB.out⟩
    · obtain rfl : k = L.length := by omega
      have HQ : Hid (GreatL (sps L) ↔ 60 < L.length) := hid ⟨fun h => by
          rcases h with ⟨s, hs, hw⟩ | h
          · exfalso
            have := HOK.out
            rw [List.take_of_length_le (by rw [HLN.out]; exact Nat.le_refl _)] at this
            exact this s (List.mem_of_mem_take hs) hw
          · rw [HLN.out] at h; exact h, fun h => .inr (by rw [HLN.out]; exact h)⟩
      by_cases h60 : 60 < L.length
      · obtain rfl : true = r := by rw [← hr.out]; exact (decide_eq_true (HQ.out.2 h60)).symm
        have hd : decide ((L.length : Int) > 60) = true := decide_eq_true (by omega)
        have j1 : (60 : Int) < L.length := by omega
        clear h60
        go_wp2
        go_ret
        exact ⟨rfl, HB.out⟩
      · obtain rfl : false = r := by rw [← hr.out]; exact (decide_eq_false (fun e => h60 (HQ.out.1 e))).symm
        have hd : decide ((L.length : Int) > 60) = false := decide_eq_false (by omega)
        have j1 : ¬ (60 : Int) < L.length := by omega
        clear h60
        go_wp2
        go_ret
        exact ⟨rfl, HB.out⟩
end Go.Proofs.Ytiajpjkkopdmgaa.step

namespace Go.Proofs.Ytiajpjkkopdmgaa.typing
open Go.RowKit Go.Proofs.Ytiajpjkkopdmgaa.schema
open Go.Proofs.Ytiajpjkkopdmgaa.field (Gives newB)
set_option linter.unusedVariables false

theorem great_any (v : Int) (a : Option Addr) (cap : Nat) (F : List Fm) (la : Option Addr) (lc : Nat) (L : List step.St) (w : World) (h : FmL w a F) (hF : F.length ≤ maxLen) (hl : step.StL w la L) (hL : L.length ≤ maxLen) : Calls Try.prog 6 #[.agg #[.int .i64 v, .slice a F.length cap], .slice la L.length lc] w (Gives (.bool (greatB (forms F) || decide (step.GreatL (step.sps L)))) w) := by
  have hml : (F.length : Int) ≤ 9223372036854775807 := by unfold maxLen at hF; omega
  have HX := hid (boxS v a F cap w)
  have HF := hid (h.below (newB w (.cells #[.int .i64 v, .slice a F.length cap] 24)))
  have HL := hid (forms_length F)
  have cG := fun (w' : World) (hb : Below (w.alloc (.cells #[.int .i64 v, .slice a F.length cap] 24)).heap.size (w.alloc (.cells #[.int .i64 v, .slice a F.length cap] 24)) w') => step.great_any la lc L w' ((hl.below (newB w _)).below hb) hL
  obtain ⟨g, hg⟩ : ∃ g : Bool, Hid (decide (step.GreatL (step.sps L)) = g) := ⟨_, hid rfl⟩
  rw [hg.out] at cG ⊢
  obtain ⟨r, hr⟩ : ∃ r : Bool, Hid ((greatB (forms F) || g) = r) := ⟨_, hid rfl⟩
  rw [hr.out]
  unfold Gives at cG ⊢
  clear h hF hl hL
  go_enter Try.func6, Try.ntmps6
  go_wp2
  generalize (w.alloc (.cells #[.int .i64 v, .slice a F.length cap] 24)) = W0 at *
  go_loopw [5] (fun n wr => ∃ k : Nat, k ≤ F.length ∧ k ≤ 41 ∧ n = .int .i64 (k : Int) ∧ W0 = wr ∧ Hid (((forms F).take k).any big = false)) (fun n _ => 41 - (intOf n).toNat)
  case atStart => exact ⟨0, Nat.zero_le _, Nat.zero_le _, rfl, rfl, hid (by simp)⟩
  case round =>
    obtain ⟨k, hk, hk2, rfl, rfl, hno⟩ := hrel
    obtain ⟨z0, z1, hbo⟩ := HX.out _ (Below.refl _ _)
    have HBO := hid hbo
    clear hbo
    by_cases h1 : k < F.length
    · by_cases h2 : k < 41
      · obtain ⟨b, off, p, rfl, hbl, hp, c0, c1, _, hfl⟩ := form_at HF.out (Below.refl _ _) h1
        have i1 : (k : Int) < F.length := by omega
        have i2 : (k : Int) < 41 := by omega
        have hpl : (p.fL.length : Int) ≤ 9223372036854775807 := by unfold maxLen at hfl; omega
        have hstep : ((forms F).take (k + 1)).any big = (((forms F).take k).any big || big p.p) := by
          rw [take_succ_at (forms_at hp)]; simp
        rw [hno.out, Bool.false_or] at hstep
        have HST := hid hstep
        have HBG : Hid (big p.p = true → greatB (forms F) = true) := hid fun hb => by
          unfold greatB
          rw [show ((forms F).take 41).any big = true from ?_, Bool.true_or]
          rw [List.any_eq_true]
          exact ⟨p.p, List.mem_of_getElem? (i := k) (by rw [List.getElem?_take, if_pos h2]; exact forms_at hp), hb⟩
        clear hstep hp c0
        by_cases h3 : 40 < p.fL.length
        · obtain rfl : true = r := by rw [← hr.out, HBG.out (by unfold big; exact decide_eq_true h3)]; rfl
          have hd : decide ((p.fL.length : Int) > 40) = true := decide_eq_true (by omega)
          go_wp2
          go_ret
          exact ⟨rfl, HBO.out⟩
        · have HNO := hid (show big p.p = false by unfold big; exact decide_eq_false h3)
          have hd : decide ((p.fL.length : Int) > 40) = false := decide_eq_false (by omega)
          clear h3
          go_wp2
          exact ⟨⟨k + 1, by omega, by omega, by go_num, trivial, hid (by rw [HST.out]; exact HNO.out)⟩, by simp [intOf]; omega⟩
      · obtain rfl : k = 41 := by omega
        obtain rfl : true = r := by rw [← hr.out]; unfold greatB; rw [show decide (40 < (forms F).length) = true from decide_eq_true (by rw [forms_length]; omega), Bool.or_true]; rfl
        have hd : decide ((F.length : Int) > 40) = true := decide_eq_true (by omega)
        have i1 : (41 : Int) < F.length := by omega
        go_wp2
        go_ret
        exact ⟨rfl, HBO.out⟩
    · obtain rfl : k = F.length := by omega
      have hgb : greatB (forms F) = decide (40 < F.length) := by
        unfold greatB
        have := hno.out
        rw [List.take_of_length_le (by rw [forms_length]; exact Nat.le_refl _)] at this
        rw [List.take_of_length_le (by rw [forms_length]; exact hk2), this, Bool.false_or, forms_length]
      by_cases h4 : 40 < F.length
      · obtain rfl : true = r := by rw [← hr.out, hgb, decide_eq_true h4]; rfl
        have hd : decide ((F.length : Int) > 40) = true := decide_eq_true (by omega)
        have i3 : (40 : Int) < F.length := by omega
        clear h4 hgb
        go_wp2
        go_ret
        exact ⟨rfl, HBO.out⟩
      · obtain rfl : g = r := by rw [← hr.out, hgb, decide_eq_false h4]; rfl
        have hd : decide ((F.length : Int) > 40) = false := decide_eq_false (by omega)
        have i3 : ¬ (40 : Int) < F.length := by omega
        have cG2 := cG _ (Below.refl _ _)
        clear h4 hgb cG
        go_wp2_with (go_at_call 17; ((with_reducible refine cG2.mono ?_); rintro e w2 ⟨rfl, hb2⟩))
        go_ret
        exact ⟨rfl, HBO.out.trans (hb2.mono HBO.out.size)⟩
end Go.Proofs.Ytiajpjkkopdmgaa.typing

namespace Go.Proofs.Ytiajpjkkopdmgaa.typing
open Go.RowKit Go.Proofs.Ytiajpjkkopdmgaa.schema
open Go.Proofs.Ytiajpjkkopdmgaa.field (Gives newB gives_from)
open Go.Proofs.Ytiajpjkkopdmgaa.step (Lists)
set_option linter.unusedVariables false

theorem on_any (v : Int) (a : Option Addr) (cc : Nat) (F : List Fm) (s : step.Sp) (ta : Option Addr) (tc : Nat) (la : Option Addr) (lc : Nat) (w : World) (h : FmL w a F) (hF : Small w F) (hl : Lists w s ta la) (hL : s.l.length ≤ 40) :
    Calls Try.prog 8 #[.agg #[.int .i64 v, .slice a F.length cc], .agg #[.int .i64 s.op, .int .i64 s.fm, .int .i64 s.fd, .int .i64 s.pl, .int .i64 s.tt, .int .i64 s.a, .int .i64 s.b, .int .i64 s.f.id, .int .i64 s.f.kind, .int .i64 s.f.lo, .int .i64 s.f.hi, .int .i64 s.f.most, .int .i64 s.v.n, .string s.v.s, .slice ta s.t.length tc, .slice la s.l.length lc]] w (OnAs (on v (forms F) s) w) := by
  obtain ⟨c, hc⟩ : ∃ c, c = begin_ (forms F) s := ⟨_, rfl⟩
  have hs : s = c.s := by rw [hc, begin_s]
  subst hs
  unfold on
  rw [← hc]
  by_cases hf : Fit v (forms F) c.s
  · rw [if_pos hf]
    by_cases h0 : err c = 0
    · rw [if_pos h0]
      by_cases h1 : Right v (applied (forms F) c)
      · rw [if_pos h1]
        exact on_yes v a cc F c hc ta tc la lc w h hF hl hL hf h0 h1
      · rw [if_neg h1]
        exact on_many v a cc F c hc ta tc la lc w h hF hl hL hf h0 h1
    · rw [if_neg h0]
      exact on_err v a cc F c hc ta tc la lc w h hF hl hL hf h0
  · rw [if_neg hf]
    exact on_no v a cc F c hc ta tc la lc w h hF hl hL hf
def fA : field.Fd := ⟨0, 1, 0, 100, 0⟩
def sA : step.Sp := ⟨6, 0, 0, 0, 1, 7, 0, step.fd0, step.va0, [], []⟩
theorem on_awake : on 1 [(0, [fA])] sA = (1, [(0, [⟨0, 1, 0, 14, 0⟩, ⟨1, 1, 0, 6, 0⟩])], 0) := by decide +kernel
set_option maxRecDepth 20000 in
set_option maxHeartbeats 1600000 in
theorem awake_any (w : World) : Calls Try.prog 7 #[] w (Yes w) := by
  obtain ⟨q, hq⟩ : ∃ q : Fm, Hid (q = ⟨0, some ⟨w.heap.size, 0, none⟩, 1, [fA]⟩) := ⟨_, hid rfl⟩
  obtain ⟨W, hW⟩ : ∃ W, W = ((w.alloc (.cells #[.int .i64 0, .int .i64 1, .int .i64 0, .int .i64 100, .int .i64 0] 26)).alloc (.cells #[.int .i64 0, .slice (some ⟨w.heap.size, 0, none⟩) 1 1] 52)).alloc (.cells #[.int .i64 1, .slice (some ⟨w.heap.size + 1, 0, none⟩) 1 1] 24) := ⟨_, rfl⟩
  have kF : Block W w.heap.size 26 [.int .i64 0, .int .i64 1, .int .i64 0, .int .i64 100, .int .i64 0] := by rw [hW]; exact ((Block.new w _ _).alloc _).alloc _
  have kM : Block W (w.heap.size + 1) 52 [.int .i64 0, .slice (some ⟨w.heap.size, 0, none⟩) 1 1] := by
    rw [hW]
    have := (Block.new (w.alloc (.cells #[.int .i64 0, .int .i64 1, .int .i64 0, .int .i64 100, .int .i64 0] 26)) 52 [.int .i64 0, .slice (some ⟨w.heap.size, 0, none⟩) 1 1]).alloc (.cells #[.int .i64 1, .slice (some ⟨w.heap.size + 1, 0, none⟩) 1 1] 24)
    simpa using this
  have hb : Below w.heap.size w W := by
    rw [hW]
    have h1 := newB w (.cells #[.int .i64 0, .int .i64 1, .int .i64 0, .int .i64 100, .int .i64 0] 26)
    have h2 := h1.alloc h1.size (.cells #[.int .i64 0, .slice (some ⟨w.heap.size, 0, none⟩) 1 1] 52)
    exact h2.alloc h2.size _
  have hfd : field.Fds W (some ⟨w.heap.size, 0, none⟩) [fA] := by
    refine .inr ⟨w.heap.size, 0, rfl, kF.lt, fun i p hp => ?_⟩
    cases i with
    | zero => simp at hp; subst hp; exact ⟨kF.cell 0, kF.cell 1, kF.cell 2, kF.cell 3, kF.cell 4⟩
    | succ i => simp at hp
  have hfm : FmL W (some ⟨w.heap.size + 1, 0, none⟩) [q] := by
    refine ⟨.inr ⟨w.heap.size + 1, 0, rfl, kM.lt, fun i p hp => ?_⟩, fun p hp => ?_⟩
    · cases i with
      | zero => simp at hp; subst hp; rw [hq.out]; exact ⟨kM.cell 0, kM.cell 1⟩
      | succ i => simp at hp
    · rw [List.mem_singleton.1 hp, hq.out]; exact ⟨hfd, Nat.le_refl 1, by show (1 : Nat) ≤ maxLen; unfold maxLen; omega⟩
  have hsm : Small W [q] := ⟨by simp, fun p hp => by rw [List.mem_singleton.1 hp, hq.out]; exact ⟨hfd, by simp⟩⟩
  have cO := on_any 1 (some ⟨w.heap.size + 1, 0, none⟩) 1 [q] sA none 0 none 0 W hfm hsm ⟨.inl rfl, .inl rfl, Nat.zero_le _, Nat.zero_le _⟩ (by simp [sA])
  rw [show forms [q] = [(0, [fA])] by rw [hq.out]; rfl, on_awake] at cO
  unfold OnAs at cO
  replace cO : Calls Try.prog 8 #[.agg #[.int .i64 1, .slice (some ⟨w.heap.size + 1, 0, none⟩) 1 1], .agg #[.int .i64 6, .int .i64 0, .int .i64 0, .int .i64 0, .int .i64 1, .int .i64 7, .int .i64 0, .int .i64 0, .int .i64 0, .int .i64 0, .int .i64 0, .int .i64 0, .int .i64 0, .string ⟨#[]⟩, .slice none 0 0, .slice none 0 0]] W (fun e w' => ∃ x xc G, e = .returned (.tuple #[.agg #[.int .i64 1, .slice x (List.length (α := Fm) G) xc], .int .i64 0]) ∧ FmL w' x G ∧ forms G = [(0, [⟨0, 1, 0, 14, 0⟩, ⟨1, 1, 0, 6, 0⟩])] ∧ Far W.heap.size x G ∧ Below W.heap.size W w') := cO
  have HB := hid hb
  clear kF kM hb hfd hfm hsm hq
  subst hW
  go_enter Try.func7, Try.ntmps7
  go_wp2_with (go_at_call 8; ((with_reducible refine cO.mono ?_); rintro e w1 ⟨x, xc, G, rfl, hG, hfo, _, hb1⟩; have hG1 : G.length = 1 := (by have := congrArg List.length hfo; rwa [forms_length] at this); obtain ⟨b, off, p, rfl, hbl, hp, c0, c1, hfd, _⟩ := form_at hG (Below.refl _ _) (k := 0) (by omega); have hpL : p.fL = [⟨0, 1, 0, 14, 0⟩, ⟨1, 1, 0, 6, 0⟩] := (by have := forms_at hp; rw [hfo] at this; have h2 := Option.some.inj this; exact (congrArg Prod.snd h2).symm); rw [hpL] at c1 hfd; obtain ⟨b2, off2, p2, hpf, hbl2, hp2, _, _, _, e3, _⟩ := hfd.at (i := 0) (by simp); obtain ⟨b3, off3, p3, hpf3, _, hp3, _, _, _, g3, _⟩ := hfd.at (i := 1) (by simp); rw [hpf] at hpf3 c1; obtain ⟨rfl, rfl⟩ : b2 = b3 ∧ off2 = off3 := (by cases hpf3; exact ⟨rfl, rfl⟩); simp at hp2 hp3; subst hp2 hp3; simp at c1 e3 g3; rw [hG1]; have HB1 := hid hb1; clear hG hfo hb1 hp c0 hfd hpL hpf hpf3 hG1 cO))
  go_ret
  have h9 := HB.out.trans (HB1.out.mono HB.out.size)
  exact ⟨rfl, h9.alloc h9.size _⟩
end Go.Proofs.Ytiajpjkkopdmgaa.typing

namespace Go.Proofs.Ytiajpjkkopdmgaa.typing
open Go.RowKit Go.Proofs.Ytiajpjkkopdmgaa.schema
set_option linter.unusedVariables false

theorem begin_s' (F : List schema.Form) (s : step.Sp) : (begin_ F s).s = s := by unfold begin_; split <;> rfl
theorem err_found {c : Ch} (h : err c = 0) : found c = true := by
  unfold err at h
  by_cases hf : found c = false
  · rw [if_pos hf] at h; cases h
  · simpa using hf
theorem found_named {F : List schema.Form} {s : step.Sp} (h : found (begin_ F s) = true) (h9 : s.op ≠ 9) : ∃ p, named F s.fm = some p := by
  unfold found at h
  rw [begin_s', if_neg h9] at h
  cases hq : named F s.fm with
  | some p => exact ⟨p, rfl⟩
  | none =>
    unfold begin_ at h
    rw [hq] at h
    by_cases h1 : s.op = 1 ∨ s.op = 10
    · rw [if_pos h1] at h; cases h
    · rw [if_neg h1] at h; exact absurd h (by simp)
theorem mem_at {α : Type} {F : List α} {p : α} (h : p ∈ F) : ∃ j : Nat, F[j]? = some p := List.mem_iff_getElem?.1 h
theorem applied_mem {F : List schema.Form} {s : step.Sp} (hs : Sorted F) (h : err (begin_ F s) = 0) {p : schema.Form} (hp : p ∈ F) (hn : p.1 ≠ s.fm) : p ∈ applied F (begin_ F s) := by
  unfold applied
  rw [begin_s']
  by_cases h9 : s.op = 9
  · rw [if_pos h9]
    have : p ∈ F.take (pos F s.fm) ++ F.drop (pos F s.fm) := by rw [List.take_append_drop]; exact hp
    rcases List.mem_append.1 this with h1 | h1
    · exact List.mem_append.2 (.inl h1)
    · exact List.mem_append.2 (.inr (List.mem_append.2 (.inr h1)))
  rw [if_neg h9]
  obtain ⟨q, hq⟩ := found_named (err_found h) h9
  obtain ⟨hqm, hqf⟩ := named_some hq
  have hat := pos_at hs hqm
  rw [hqf] at hat
  obtain ⟨j, hj⟩ := mem_at hp
  have hjn : j ≠ pos F s.fm := fun e => by rw [e, hat] at hj; cases hj; exact hn hqf
  by_cases h10 : s.op = 10
  · rw [if_pos h10]
    by_cases hl : j < pos F s.fm
    · refine List.mem_append.2 (.inl (List.mem_iff_getElem?.2 ⟨j, ?_⟩))
      rw [List.getElem?_take_of_lt hl]; exact hj
    · refine List.mem_append.2 (.inr (List.mem_iff_getElem?.2 ⟨j - (pos F s.fm + 1), ?_⟩))
      rw [List.getElem?_drop, show pos F s.fm + 1 + (j - (pos F s.fm + 1)) = j by omega]; exact hj
  rw [if_neg h10]
  unfold setF
  rw [hat]
  refine List.mem_iff_getElem?.2 ⟨j, ?_⟩
  simp only
  rw [List.getElem?_set_ne (Ne.symm hjn)]
  exact hj
theorem on_ok {v : Int} {F : List schema.Form} {s : step.Sp} (h : (on v F s).2.2 = 0) : Fit v F s ∧ (on v F s).1 = v ∧ Right v (on v F s).2.1 ∧ ∀ p ∈ F, p.1 ≠ s.fm → p ∈ (on v F s).2.1 := by
  unfold on at h ⊢
  by_cases hf : Fit v F s
  · rw [if_pos hf] at h ⊢
    by_cases he : err (begin_ F s) = 0
    · rw [if_pos he] at h ⊢
      by_cases hr : Right v (applied F (begin_ F s))
      · rw [if_pos hr]
        exact ⟨hf, rfl, hr, fun p hp hn => applied_mem (right_sorted hf.1) he hp hn⟩
      · rw [if_neg hr] at h; cases h
    · rw [if_neg he] at h; exact absurd h he
  · rw [if_neg hf] at h; cases h
theorem on_bad {v : Int} {F : List schema.Form} {s : step.Sp} (h : (on v F s).2.2 ≠ 0) : (on v F s).1 = 0 ∧ (on v F s).2.1 = [] := by
  unfold on at h ⊢
  by_cases hf : Fit v F s
  · rw [if_pos hf] at h ⊢
    by_cases he : err (begin_ F s) = 0
    · rw [if_pos he] at h ⊢
      by_cases hr : Right v (applied F (begin_ F s))
      · rw [if_pos hr] at h; exact absurd rfl h
      · rw [if_neg hr]; exact ⟨rfl, rfl⟩
    · rw [if_neg he]; exact ⟨rfl, rfl⟩
  · rw [if_neg hf]; exact ⟨rfl, rfl⟩
end Go.Proofs.Ytiajpjkkopdmgaa.typing

namespace Go.Proofs.Ytiajpjkkopdmgaa.typing
open Go.RowKit Go.Proofs.Ytiajpjkkopdmgaa.schema
open Go.Proofs.Ytiajpjkkopdmgaa.step (St Sts StL sps GreatL great_not)
set_option linter.unusedVariables false

/-- a step in a row -/
theorem one_list (p : St) (W : World) (t : TypeId) : Sts (W.alloc (.cells p.C.toArray t)) (some ⟨W.heap.size, 0, none⟩) [p] := by
  have hB := Block.new W t p.C
  refine .inr ⟨_, 0, rfl, hB.lt, fun i x hx j v hv => ?_⟩
  have hj : j < 16 := (List.getElem?_eq_some_iff.1 hv).1
  rw [Nat.zero_add, hB.cell]
  match i, hx with
  | 0, hx =>
    simp only [List.getElem?_cons_zero, Option.some.injEq] at hx
    subst hx
    rw [show 0 * 16 + j = j by omega]
    exact hv
  | n + 1, hx => simp at hx
theorem small_of {w : World} {a : Option Addr} {F : List Fm} {L : List St} (h : FmL w a F) (hg : (greatB (forms F) || decide (GreatL (sps L))) = false) : Small w F ∧ ∀ p ∈ L, p.s.l.length ≤ 40 := by
  simp only [Bool.or_eq_false_iff, decide_eq_false_iff_not] at hg
  obtain ⟨h1, h2⟩ := greatB_no hg.1
  have h3 := (great_not hg.2).2
  rw [forms_length] at h1
  exact ⟨⟨h1, fun p hp => ⟨(h.2 p hp).rf, h2 p.p (List.mem_map_of_mem hp)⟩⟩, fun p hp => (h3 p.s (List.mem_map_of_mem hp)).2⟩
end Go.Proofs.Ytiajpjkkopdmgaa.typing

namespace Go.Proofs.Ytiajpjkkopdmgaa.schema
open Go.RowKit
open Go.Proofs.Ytiajpjkkopdmgaa.field (Gives newB gives_from)
set_option linter.unusedVariables false

/-- the world in which two forms have been boxed -/
def WM2 (i : Int) (a : Option Addr) (L : List field.Fd) (c : Nat) (j : Int) (b : Option Addr) (M : List field.Fd) (d : Nat) (w : World) : World := (w.alloc (.cells #[.int .i64 i, .slice a L.length c] 52)).alloc (.cells #[.int .i64 j, .slice b M.length d] 52)
theorem WM2.all (i : Int) (a : Option Addr) (L : List field.Fd) (c : Nat) (j : Int) (b : Option Addr) (M : List field.Fd) (d : Nat) (w w' : World) (hb : Below (WM2 i a L c j b M d w).heap.size (WM2 i a L c j b M d w) w') :
    w'.cell? ⟨w.heap.size, 0, none⟩ = some (.int .i64 i) ∧ w'.cell? ⟨w.heap.size, 1, none⟩ = some (.slice a L.length c) ∧ w'.cell? ⟨w.heap.size + 1, 0, none⟩ = some (.int .i64 j) ∧ w'.cell? ⟨w.heap.size + 1, 1, none⟩ = some (.slice b M.length d) ∧ Below w.heap.size w w' := by
  obtain ⟨h1, h2, h3⟩ := boxM i a L c w w' (below_out hb)
  obtain ⟨h4, h5, _⟩ := boxM j b M d (w.alloc (.cells #[.int .i64 i, .slice a L.length c] 52)) w' hb
  exact ⟨h1, h2, by simpa using h4, by simpa using h5, h3⟩
/-- the world in which two schemas have been boxed -/
def WS2 (i : Int) (a : Option Addr) (L : List Fm) (c : Nat) (j : Int) (b : Option Addr) (M : List Fm) (d : Nat) (w : World) : World := (w.alloc (.cells #[.int .i64 i, .slice a L.length c] 24)).alloc (.cells #[.int .i64 j, .slice b M.length d] 24)
theorem WS2.all (i : Int) (a : Option Addr) (L : List Fm) (c : Nat) (j : Int) (b : Option Addr) (M : List Fm) (d : Nat) (w w' : World) (hb : Below (WS2 i a L c j b M d w).heap.size (WS2 i a L c j b M d w) w') :
    w'.cell? ⟨w.heap.size, 0, none⟩ = some (.int .i64 i) ∧ w'.cell? ⟨w.heap.size, 1, none⟩ = some (.slice a L.length c) ∧ w'.cell? ⟨w.heap.size + 1, 0, none⟩ = some (.int .i64 j) ∧ w'.cell? ⟨w.heap.size + 1, 1, none⟩ = some (.slice b M.length d) ∧ Below w.heap.size w w' := by
  obtain ⟨h1, h2, h3⟩ := boxS i a L c w w' (below_out hb)
  obtain ⟨h4, h5, _⟩ := boxS j b M d (w.alloc (.cells #[.int .i64 i, .slice a L.length c] 24)) w' hb
  exact ⟨h1, h2, by simpa using h4, by simpa using h5, h3⟩
end Go.Proofs.Ytiajpjkkopdmgaa.schema

namespace Go.Proofs.Ytiajpjkkopdmgaa.schema
open Go.RowKit
open Go.Proofs.Ytiajpjkkopdmgaa.field (Gives newB gives_from)
set_option linter.unusedVariables false

theorem refSameForm_any (i : Int) (a : Option Addr) (c : Nat) (L : List field.Fd) (j : Int) (b : Option Addr) (d : Nat) (M : List field.Fd) (w : World) (h : field.Fds w a L) (h' : field.Fds w b M) (hL : L.length ≤ maxLen) (hM : M.length ≤ maxLen) :
    Calls Try.prog 16 #[.agg #[.int .i64 i, .slice a L.length c], .agg #[.int .i64 j, .slice b M.length d]] w (Gives (.bool (decide ((i, L) = (j, M)))) w) := by
  have hml : (L.length : Int) ≤ 9223372036854775807 := by unfold maxLen at hL; omega
  have hmm : (M.length : Int) ≤ 9223372036854775807 := by unfold maxLen at hM; omega
  have HX := hid (WM2.all i a L c j b M d w)
  have hw := (WM2.all i a L c j b M d w _ (Below.refl _ _)).2.2.2.2
  have HF := hid (h.below hw)
  have HG := hid (h'.below hw)
  have HW := hid hw
  obtain ⟨r, hr⟩ : ∃ r : Bool, Hid (decide ((i, L) = (j, M)) = r) := ⟨_, rfl⟩
  rw [hr.out]
  unfold Gives
  clear h h' hL hM hw
  unfold WM2 at HX HF HG HW
  by_cases hij : i = j
  · subst hij
    by_cases hlen : L.length = M.length
    · have HLEN := hid hlen
      rw [← hlen] at HX HF HG HW ⊢
      clear hlen hmm
      go_enter Try.func16, Try.ntmps16
      go_wp2
      generalize ((w.alloc (.cells #[.int .i64 i, .slice a L.length c] 52))).alloc (.cells #[.int .i64 i, .slice b L.length d] 52) = W0 at *
      go_loopw [5] (fun n wr => ∃ k : Nat, k ≤ L.length ∧ n = .int .i64 (k : Int) ∧ Hid (L.take k = M.take k) ∧ Hid (Below W0.heap.size W0 wr)) (fun n _ => L.length - (intOf n).toNat)
      case atStart => exact ⟨0, Nat.zero_le _, rfl, hid rfl, hid (Below.refl _ _)⟩
      case round =>
        obtain ⟨k, hk, rfl, HEQ, HB⟩ := hrel
        obtain ⟨z0, z1, z2, z3, hbo⟩ := HX.out _ HB.out
        by_cases hlt : k < L.length
        · obtain ⟨g, off, p, rfl, hbl, hp, c0, c1, c2, c3, c4⟩ := field_at HF.out HB.out hlt
          obtain ⟨g', off', q, rfl, hbl', hq, d0, d1, d2, d3, d4⟩ := field_at HG.out HB.out (k := k) (by rw [← HLEN.out]; exact hlt)
          have i1 : (k : Int) < L.length := by omega
          have HS := hid (eq_take_succ hp hq)
          have hne := fun W => neq_fd p q W
          have HNE := hid (fun (hpq : ¬ p = q) => show ¬ L = M from fun e => by rw [e] at hp; exact hpq (Option.some.inj (hp.symm.trans hq)))
          clear hp hq
          by_cases hpq : p = q
          · rw [decide_eq_true hpq] at hne
            have HPQ := hid hpq
            clear hpq
            go_wp2
            go_quiet (fail)
            go_wp2
            exact ⟨⟨k + 1, by omega, by go_num, hid (HS.out.2 ⟨HEQ.out, HPQ.out⟩), hid (below_drewN HB.out _)⟩, by simp [intOf]; omega⟩
          · rw [decide_eq_false hpq] at hne
            obtain rfl : false = r := by rw [← hr.out]; exact (decide_eq_false (fun e => HNE.out hpq (Prod.mk.inj e).2)).symm
            clear hpq
            go_wp2
            go_quiet (fail)
            go_wp2
            go_ret
            exact ⟨rfl, below_drewN hbo _⟩
        · obtain rfl : k = L.length := by omega
          obtain rfl : true = r := by
            rw [← hr.out]
            have := HEQ.out
            rw [List.take_of_length_le (Nat.le_refl _), List.take_of_length_le (by rw [HLEN.out]; exact Nat.le_refl _)] at this
            exact (decide_eq_true (by rw [this])).symm
          go_wp2
          go_ret
          exact ⟨rfl, hbo⟩
    · obtain rfl : false = r := by rw [← hr.out]; exact (decide_eq_false (fun e => hlen (by rw [(Prod.mk.inj e).2]))).symm
      have hd : ((L.length : Int) == (M.length : Int)) = false := by rw [beq_eq_false_iff_ne]; omega
      clear hlen
      go_enter Try.func16, Try.ntmps16
      go_wp2
      go_ret
      exact ⟨rfl, HW.out⟩
  · obtain rfl : false = r := by rw [← hr.out]; exact (decide_eq_false (fun e => hij (Prod.mk.inj e).1)).symm
    have hd : (i == j) = false := by rw [beq_eq_false_iff_ne]; exact hij
    clear hij
    go_enter Try.func16, Try.ntmps16
    go_wp2
    go_ret
    exact ⟨rfl, HW.out⟩
theorem refSame_any (i : Int) (a : Option Addr) (c : Nat) (L : List Fm) (j : Int) (b : Option Addr) (d : Nat) (M : List Fm) (w : World) (h : FmL w a L) (h' : FmL w b M) (hL : L.length ≤ maxLen) (hM : M.length ≤ maxLen) :
    Calls Try.prog 10 #[.agg #[.int .i64 i, .slice a L.length c], .agg #[.int .i64 j, .slice b M.length d]] w (Gives (.bool (decide (i = j ∧ forms L = forms M))) w) := by
  have hml : (L.length : Int) ≤ 9223372036854775807 := by unfold maxLen at hL; omega
  have hmm : (M.length : Int) ≤ 9223372036854775807 := by unfold maxLen at hM; omega
  have HX := hid (WS2.all i a L c j b M d w)
  have hw := (WS2.all i a L c j b M d w _ (Below.refl _ _)).2.2.2.2
  have HF := hid (h.below hw)
  have HG := hid (h'.below hw)
  have HW := hid hw
  obtain ⟨r, hr⟩ : ∃ r : Bool, Hid (decide (i = j ∧ forms L = forms M) = r) := ⟨_, rfl⟩
  rw [hr.out]
  unfold Gives
  clear h h' hL hM hw
  unfold WS2 at HX HF HG HW
  by_cases hij : i = j
  · subst hij
    by_cases hlen : L.length = M.length
    · have HLEN := hid hlen
      rw [← hlen] at HX HF HG HW ⊢
      clear hlen hmm
      go_enter Try.func10, Try.ntmps10
      go_wp2
      generalize ((w.alloc (.cells #[.int .i64 i, .slice a L.length c] 24))).alloc (.cells #[.int .i64 i, .slice b L.length d] 24) = W0 at *
      go_loopw [5] (fun n wr => ∃ k : Nat, k ≤ L.length ∧ n = .int .i64 (k : Int) ∧ Hid ((forms L).take k = (forms M).take k) ∧ Hid (Below W0.heap.size W0 wr)) (fun n _ => L.length - (intOf n).toNat)
      case atStart => exact ⟨0, Nat.zero_le _, rfl, hid rfl, hid (Below.refl _ _)⟩
      case round =>
        obtain ⟨k, hk, rfl, HEQ, HB⟩ := hrel
        by_cases hlt : k < L.length
        · obtain ⟨g, off, p, rfl, hbl, hp, c0, c1, hfp, hlp⟩ := form_at HF.out (below_drew HB.out) hlt
          obtain ⟨g', off', q, rfl, hbl', hq, d0, d1, hfq, hlq⟩ := form_at HG.out (below_drew HB.out) (k := k) (by rw [← HLEN.out]; exact hlt)
          obtain ⟨z0, z1, z2, z3, hbo⟩ := HX.out _ (below_drew HB.out)
          obtain ⟨y0, y1, y2, y3, _⟩ := HX.out _ HB.out
          have i1 : (k : Int) < L.length := by omega
          have HS := hid (eq_take_succ (forms_at hp) (forms_at hq))
          have HNE := hid (fun (hpq : ¬ p.p = q.p) => show ¬ forms L = forms M from fun e => by have h1 := forms_at hp; rw [e] at h1; exact hpq (Option.some.inj (h1.symm.trans (forms_at hq))))
          obtain ⟨i', x, xc, P⟩ := p
          obtain ⟨j', y, yc, R⟩ := q
          simp only [Fm.p] at HS HNE c0 c1 d0 d1 hfp hfq hlp hlq
          have cS := refSameForm_any i' x xc P j' y yc R wr.drew hfp hfq hlp hlq
          have HD := hid (fun w' (hb : Below wr.drew.heap.size wr.drew w') => (⟨(hb.cell (p := ⟨g, off + k * 2, none⟩) hbl).trans c0, (hb.cell (p := ⟨g, off + k * 2 + 1, none⟩) hbl).trans c1, (hb.cell (p := ⟨g', off' + k * 2, none⟩) hbl').trans d0, (hb.cell (p := ⟨g', off' + k * 2 + 1, none⟩) hbl').trans d1⟩ : w'.cell? ⟨g, off + k * 2, none⟩ = some (.int .i64 i') ∧ w'.cell? ⟨g, off + k * 2 + 1, none⟩ = some (.slice x P.length xc) ∧ w'.cell? ⟨g', off' + k * 2, none⟩ = some (.int .i64 j') ∧ w'.cell? ⟨g', off' + k * 2 + 1, none⟩ = some (.slice y R.length yc)))
          clear hp hq hfp hfq hlp hlq
          by_cases hpq : (i', P) = (j', R)
          · rw [decide_eq_true hpq] at cS
            have HPQ := hid hpq
            clear hpq
            go_wp2
            go_region_held3 (fun w' => w'.cell? ⟨w.heap.size, 1, none⟩ = some (.slice (some ⟨g, off, none⟩) L.length c) ∧ w'.cell? ⟨w.heap.size + 1, 1, none⟩ = some (.slice (some ⟨g', off', none⟩) L.length d) ∧ w'.cell? ⟨g, off + k * 2, none⟩ = some (.int .i64 i') ∧ w'.cell? ⟨g, off + k * 2 + 1, none⟩ = some (.slice x P.length xc) ∧ w'.cell? ⟨g', off' + k * 2, none⟩ = some (.int .i64 j') ∧ w'.cell? ⟨g', off' + k * 2 + 1, none⟩ = some (.slice y R.length yc)) (first | assumption | go_keep) (first
              | (go_at_call 16; (with_reducible refine cS.mono ?_); rintro e w3 ⟨rfl, hb3⟩; obtain ⟨e0, e1, e2, e3⟩ := HD.out w3 hb3; have hbw := (below_drew HB.out).trans (hb3.mono (below_drew HB.out).size); obtain ⟨y0, y1, y2, y3, hbo2⟩ := HX.out w3 hbw))
            go_wp2
            exact ⟨⟨k + 1, by omega, by go_num, hid (HS.out.2 ⟨HEQ.out, HPQ.out⟩), hid hbw⟩, by simp [intOf]; omega⟩
          · rw [decide_eq_false hpq] at cS
            obtain rfl : false = r := by rw [← hr.out]; exact (decide_eq_false (fun e => HNE.out hpq e.2)).symm
            clear hpq
            go_wp2
            go_region_held3 (fun w' => w'.cell? ⟨w.heap.size, 1, none⟩ = some (.slice (some ⟨g, off, none⟩) L.length c) ∧ w'.cell? ⟨w.heap.size + 1, 1, none⟩ = some (.slice (some ⟨g', off', none⟩) L.length d) ∧ w'.cell? ⟨g, off + k * 2, none⟩ = some (.int .i64 i') ∧ w'.cell? ⟨g, off + k * 2 + 1, none⟩ = some (.slice x P.length xc) ∧ w'.cell? ⟨g', off' + k * 2, none⟩ = some (.int .i64 j') ∧ w'.cell? ⟨g', off' + k * 2 + 1, none⟩ = some (.slice y R.length yc)) (first | assumption | go_keep) (first
              | (go_at_call 16; (with_reducible refine cS.mono ?_); rintro e w3 ⟨rfl, hb3⟩; obtain ⟨e0, e1, e2, e3⟩ := HD.out w3 hb3; have hbw := (below_drew HB.out).trans (hb3.mono (below_drew HB.out).size); obtain ⟨y0, y1, y2, y3, hbo2⟩ := HX.out w3 hbw))
            go_wp2
            go_ret
            exact ⟨rfl, hbo2⟩
        · obtain rfl : k = L.length := by omega
          obtain ⟨z0, z1, z2, z3, hbo⟩ := HX.out _ HB.out
          obtain rfl : true = r := by
            rw [← hr.out]
            have := HEQ.out
            rw [List.take_of_length_le (by rw [forms_length]; exact Nat.le_refl _), List.take_of_length_le (by rw [forms_length, HLEN.out]; exact Nat.le_refl _)] at this
            exact (decide_eq_true (by first | exact ⟨rfl, this⟩ | exact ⟨trivial, this⟩)).symm
          go_wp2
          go_ret
          exact ⟨rfl, hbo⟩
    · obtain rfl : false = r := by rw [← hr.out]; exact (decide_eq_false (fun e => hlen (by rw [← forms_length, e.2, forms_length]))).symm
      have hd : ((L.length : Int) == (M.length : Int)) = false := by rw [beq_eq_false_iff_ne]; omega
      clear hlen
      go_enter Try.func10, Try.ntmps10
      go_wp2
      go_ret
      exact ⟨rfl, HW.out⟩
  · obtain rfl : false = r := by rw [← hr.out]; exact (decide_eq_false (fun e => hij e.1)).symm
    have hd : (i == j) = false := by rw [beq_eq_false_iff_ne]; exact hij
    clear hij
    go_enter Try.func10, Try.ntmps10
    go_wp2
    go_ret
    exact ⟨rfl, HW.out⟩
end Go.Proofs.Ytiajpjkkopdmgaa.schema
