/- Lemmas of the claim HTypingRight. Each says its own conditions. -/
import Derived.Test.YtiajpjkkopdmgaaClHTypingRightR
import Derived.Test.YtiajpjkkopdmgaaClHTypingRightT
import Derived.Laws.Strings
import Derived.Test.YtiajpjkkopdmgaaClHTypingRightG
import Derived.Test.YtiajpjkkopdmgaaClHTypingRightK
import Derived.Test.YtiajpjkkopdmgaaClHTypingRightN
import Derived.Test.YtiajpjkkopdmgaaClHTypingRightM
import Derived.Lib.ConvBytes
import Derived.Lib.Zigzag
import Derived.Laws.Cover3
import Derived.Test.YtiajpjkkopdmgaaClHTypingRightA
import Derived.Test.YtiajpjkkopdmgaaClHTypingRightF
import Derived.Test.YtiajpjkkopdmgaaClHTypingRightO
import Derived.Laws.StructEq
import Derived.Deep.RegionHeld3
/- Contract of the law file's great of layer 16. No condition. -/
namespace Go.Proofs.Ytiajpjkkopdmgaa.typing
open Go.RowKit Go.Proofs.Ytiajpjkkopdmgaa.schema
open Go.Proofs.Ytiajpjkkopdmgaa.field (Gives newB)
set_option linter.unusedVariables false

theorem great_any (v : Int) (a : Option Addr) (cap : Nat) (F : List Fm) (la : Option Addr) (lc : Nat) (L : List step.St) (w : World) (h : FmL w a F) (hF : F.length ≤ maxLen) (hl : step.StL w la L) (hL : L.length ≤ maxLen) : Calls Try.prog 6 #[.agg #[.int .i64 v, .slice a F.length cap], .slice la L.length lc] w (Gives (.bool (greatB (forms F) || decide (step.GreatL (step.sps L)))) w) := by
  have hml : (F.length : Int) ≤ 9223372036854775807 := by unfold maxLen at hF; omega
  have HX := hid (boxS v a F cap w)
  have HF := hid (h.below (newB w (.cells #[.int .i64 v, .slice a F.length cap] 24)))
  have HL := hid (forms_length F)
  have cG := fun (w' : World) (hb : Below (w.alloc (.cells #[.int .i64 v, .slice a F.length cap] 24)).heap.size (w.alloc (.cells #[.int .i64 v, .slice a F.length cap] 24)) w') => step.great_any la lc L w' ((hl.below (newB w _)).below hb) hL
  obtain ⟨g, hg⟩ : ∃ g : Bool, Hid (decide (step.GreatL (step.sps L)) = g) := ⟨_, hid rfl⟩
  rw [hg.out] at cG ⊢
  obtain ⟨r, hr⟩ : ∃ r : Bool, Hid ((greatB (forms F) || g) = r) := ⟨_, hid rfl⟩
  rw [hr.out]
  unfold Gives at cG ⊢
  clear h hF hl hL
  go_enter Try.func6, Try.ntmps6
  go_wp2
  generalize (w.alloc (.cells #[.int .i64 v, .slice a F.length cap] 24)) = W0 at *
  go_loopw [5] (fun n wr => ∃ k : Nat, k ≤ F.length ∧ k ≤ 41 ∧ n = .int .i64 (k : Int) ∧ W0 = wr ∧ Hid (((forms F).take k).any big = false)) (fun n _ => 41 - (intOf n).toNat)
  case atStart => exact ⟨0, Nat.zero_le _, Nat.zero_le _, rfl, rfl, hid (by simp)⟩
  case round =>
    obtain ⟨k, hk, hk2, rfl, rfl, hno⟩ := hrel
    obtain ⟨z0, z1, hbo⟩ := HX.out _ (Below.refl _ _)
    have HBO := hid hbo
    clear hbo
    by_cases h1 : k < F.length
    · by_cases h2 : k < 41
      · obtain ⟨b, off, p, rfl, hbl, hp, c0, c1, _, hfl⟩ := form_at HF.out (Below.refl _ _) h1
        have i1 : (k : Int) < F.length := by omega
        have i2 : (k : Int) < 41 := by omega
        have hpl : (p.fL.length : Int) ≤ 9223372036854775807 := by unfold maxLen at hfl; omega
        have hstep : ((forms F).take (k + 1)).any big = (((forms F).take k).any big || big p.p) := by
          rw [take_succ_at (forms_at hp)]; simp
        rw [hno.out, Bool.false_or] at hstep
        have HST := hid hstep
        have HBG : Hid (big p.p = true → greatB (forms F) = true) := hid fun hb => by
          unfold greatB
          rw [show ((forms F).take 41).any big = true from ?_, Bool.true_or]
          rw [List.any_eq_true]
          exact ⟨p.p, List.mem_of_getElem? (i := k) (by rw [List.getElem?_take, if_pos h2]; exact forms_at hp), hb⟩
        clear hstep hp c0
        by_cases h3 : 40 < p.fL.length
        · obtain rfl : true = r := by rw [← hr.out, HBG.out (by unfold big; exact decide_eq_true h3)]; rfl
          have hd : decide ((p.fL.length : Int) > 40) = true := decide_eq_true (by omega)
          go_wp2
          go_ret
          exact ⟨rfl, HBO.out⟩
        · have HNO := hid (show big p.p = false by unfold big; exact decide_eq_false h3)
          have hd : decide ((p.fL.length : Int) > 40) = false := decide_eq_false (by omega)
          clear h3
          go_wp2
          exact ⟨⟨k + 1, by omega, by omega, by go_num, trivial, hid (by rw [HST.out]; exact HNO.out)⟩, by simp [intOf]; omega⟩
      · obtain rfl : k = 41 := by omega
        obtain rfl : true = r := by rw [← hr.out]; unfold greatB; rw [show decide (40 < (forms F).length) = true from decide_eq_true (by rw [forms_length]; omega), Bool.or_true]; rfl
        have hd : decide ((F.length : Int) > 40) = true := decide_eq_true (by omega)
        have i1 : (41 : Int) < F.length := by omega
        go_wp2
        go_ret
        exact ⟨rfl, HBO.out⟩
    · obtain rfl : k = F.length := by omega
      have hgb : greatB (forms F) = decide (40 < F.length) := by
        unfold greatB
        have := hno.out
        rw [List.take_of_length_le (by rw [forms_length]; exact Nat.le_refl _)] at this
        rw [List.take_of_length_le (by rw [forms_length]; exact hk2), this, Bool.false_or, forms_length]
      by_cases h4 : 40 < F.length
      · obtain rfl : true = r := by rw [← hr.out, hgb, decide_eq_true h4]; rfl
        have hd : decide ((F.length : Int) > 40) = true := decide_eq_true (by omega)
        have i3 : (40 : Int) < F.length := by omega
        clear h4 hgb
        go_wp2
        go_ret
        exact ⟨rfl, HBO.out⟩
      · obtain rfl : g = r := by rw [← hr.out, hgb, decide_eq_false h4]; rfl
        have hd : decide ((F.length : Int) > 40) = false := decide_eq_false (by omega)
        have i3 : ¬ (40 : Int) < F.length := by omega
        have cG2 := cG _ (Below.refl _ _)
        clear h4 hgb cG
        go_wp2_with (go_at_call 17; ((with_reducible refine cG2.mono ?_); rintro e w2 ⟨rfl, hb2⟩))
        go_ret
        exact ⟨rfl, HBO.out.trans (hb2.mono HBO.out.size)⟩
end Go.Proofs.Ytiajpjkkopdmgaa.typing
/- Contract of layer 16 (typing): On whole; of the law file: awake. No condition but schemas and steps that are not too great. -/
namespace Go.Proofs.Ytiajpjkkopdmgaa.typing
open Go.RowKit Go.Proofs.Ytiajpjkkopdmgaa.schema
open Go.Proofs.Ytiajpjkkopdmgaa.field (Gives newB gives_from)
open Go.Proofs.Ytiajpjkkopdmgaa.step (Lists)
set_option linter.unusedVariables false

theorem on_any (v : Int) (a : Option Addr) (cc : Nat) (F : List Fm) (s : step.Sp) (ta : Option Addr) (tc : Nat) (la : Option Addr) (lc : Nat) (w : World) (h : FmL w a F) (hF : Small w F) (hl : Lists w s ta la) (hL : s.l.length ≤ 40) :
    Calls Try.prog 8 #[.agg #[.int .i64 v, .slice a F.length cc], .agg #[.int .i64 s.op, .int .i64 s.fm, .int .i64 s.fd, .int .i64 s.pl, .int .i64 s.tt, .int .i64 s.a, .int .i64 s.b, .int .i64 s.f.id, .int .i64 s.f.kind, .int .i64 s.f.lo, .int .i64 s.f.hi, .int .i64 s.f.most, .int .i64 s.v.n, .string s.v.s, .slice ta s.t.length tc, .slice la s.l.length lc]] w (OnAs (on v (forms F) s) w) := by
  obtain ⟨c, hc⟩ : ∃ c, c = begin_ (forms F) s := ⟨_, rfl⟩
  have hs : s = c.s := by rw [hc, begin_s]
  subst hs
  unfold on
  rw [← hc]
  by_cases hf : Fit v (forms F) c.s
  · rw [if_pos hf]
    by_cases h0 : err c = 0
    · rw [if_pos h0]
      by_cases h1 : Right v (applied (forms F) c)
      · rw [if_pos h1]
        exact on_yes v a cc F c hc ta tc la lc w h hF hl hL hf h0 h1
      · rw [if_neg h1]
        exact on_many v a cc F c hc ta tc la lc w h hF hl hL hf h0 h1
    · rw [if_neg h0]
      exact on_err v a cc F c hc ta tc la lc w h hF hl hL hf h0
  · rw [if_neg hf]
    exact on_no v a cc F c hc ta tc la lc w h hF hl hL hf
def fA : field.Fd := ⟨0, 1, 0, 100, 0⟩
def sA : step.Sp := ⟨6, 0, 0, 0, 1, 7, 0, step.fd0, step.va0, [], []⟩
theorem on_awake : on 1 [(0, [fA])] sA = (1, [(0, [⟨0, 1, 0, 14, 0⟩, ⟨1, 1, 0, 6, 0⟩])], 0) := by decide +kernel
set_option maxRecDepth 20000 in
set_option maxHeartbeats 1600000 in
theorem awake_any (w : World) : Calls Try.prog 7 #[] w (Yes w) := by
  obtain ⟨q, hq⟩ : ∃ q : Fm, Hid (q = ⟨0, some ⟨w.heap.size, 0, none⟩, 1, [fA]⟩) := ⟨_, hid rfl⟩
  obtain ⟨W, hW⟩ : ∃ W, W = ((w.alloc (.cells #[.int .i64 0, .int .i64 1, .int .i64 0, .int .i64 100, .int .i64 0] 26)).alloc (.cells #[.int .i64 0, .slice (some ⟨w.heap.size, 0, none⟩) 1 1] 52)).alloc (.cells #[.int .i64 1, .slice (some ⟨w.heap.size + 1, 0, none⟩) 1 1] 24) := ⟨_, rfl⟩
  have kF : Block W w.heap.size 26 [.int .i64 0, .int .i64 1, .int .i64 0, .int .i64 100, .int .i64 0] := by rw [hW]; exact ((Block.new w _ _).alloc _).alloc _
  have kM : Block W (w.heap.size + 1) 52 [.int .i64 0, .slice (some ⟨w.heap.size, 0, none⟩) 1 1] := by
    rw [hW]
    have := (Block.new (w.alloc (.cells #[.int .i64 0, .int .i64 1, .int .i64 0, .int .i64 100, .int .i64 0] 26)) 52 [.int .i64 0, .slice (some ⟨w.heap.size, 0, none⟩) 1 1]).alloc (.cells #[.int .i64 1, .slice (some ⟨w.heap.size + 1, 0, none⟩) 1 1] 24)
    simpa using this
  have hb : Below w.heap.size w W := by
    rw [hW]
    have h1 := newB w (.cells #[.int .i64 0, .int .i64 1, .int .i64 0, .int .i64 100, .int .i64 0] 26)
    have h2 := h1.alloc h1.size (.cells #[.int .i64 0, .slice (some ⟨w.heap.size, 0, none⟩) 1 1] 52)
    exact h2.alloc h2.size _
  have hfd : field.Fds W (some ⟨w.heap.size, 0, none⟩) [fA] := by
    refine .inr ⟨w.heap.size, 0, rfl, kF.lt, fun i p hp => ?_⟩
    cases i with
    | zero => simp at hp; subst hp; exact ⟨kF.cell 0, kF.cell 1, kF.cell 2, kF.cell 3, kF.cell 4⟩
    | succ i => simp at hp
  have hfm : FmL W (some ⟨w.heap.size + 1, 0, none⟩) [q] := by
    refine ⟨.inr ⟨w.heap.size + 1, 0, rfl, kM.lt, fun i p hp => ?_⟩, fun p hp => ?_⟩
    · cases i with
      | zero => simp at hp; subst hp; rw [hq.out]; exact ⟨kM.cell 0, kM.cell 1⟩
      | succ i => simp at hp
    · rw [List.mem_singleton.1 hp, hq.out]; exact ⟨hfd, Nat.le_refl 1, by show (1 : Nat) ≤ maxLen; unfold maxLen; omega⟩
  have hsm : Small W [q] := ⟨by simp, fun p hp => by rw [List.mem_singleton.1 hp, hq.out]; exact ⟨hfd, by simp⟩⟩
  have cO := on_any 1 (some ⟨w.heap.size + 1, 0, none⟩) 1 [q] sA none 0 none 0 W hfm hsm ⟨.inl rfl, .inl rfl, Nat.zero_le _, Nat.zero_le _⟩ (by simp [sA])
  rw [show forms [q] = [(0, [fA])] by rw [hq.out]; rfl, on_awake] at cO
  unfold OnAs at cO
  replace cO : Calls Try.prog 8 #[.agg #[.int .i64 1, .slice (some ⟨w.heap.size + 1, 0, none⟩) 1 1], .agg #[.int .i64 6, .int .i64 0, .int .i64 0, .int .i64 0, .int .i64 1, .int .i64 7, .int .i64 0, .int .i64 0, .int .i64 0, .int .i64 0, .int .i64 0, .int .i64 0, .int .i64 0, .string ⟨#[]⟩, .slice none 0 0, .slice none 0 0]] W (fun e w' => ∃ x xc G, e = .returned (.tuple #[.agg #[.int .i64 1, .slice x (List.length (α := Fm) G) xc], .int .i64 0]) ∧ FmL w' x G ∧ forms G = [(0, [⟨0, 1, 0, 14, 0⟩, ⟨1, 1, 0, 6, 0⟩])] ∧ Below W.heap.size W w') := cO
  have HB := hid hb
  clear kF kM hb hfd hfm hsm hq
  subst hW
  go_enter Try.func7, Try.ntmps7
  go_wp2_with (go_at_call 8; ((with_reducible refine cO.mono ?_); rintro e w1 ⟨x, xc, G, rfl, hG, hfo, hb1⟩; have hG1 : G.length = 1 := (by have := congrArg List.length hfo; rwa [forms_length] at this); obtain ⟨b, off, p, rfl, hbl, hp, c0, c1, hfd, _⟩ := form_at hG (Below.refl _ _) (k := 0) (by omega); have hpL : p.fL = [⟨0, 1, 0, 14, 0⟩, ⟨1, 1, 0, 6, 0⟩] := (by have := forms_at hp; rw [hfo] at this; have h2 := Option.some.inj this; exact (congrArg Prod.snd h2).symm); rw [hpL] at c1 hfd; obtain ⟨b2, off2, p2, hpf, hbl2, hp2, _, _, _, e3, _⟩ := hfd.at (i := 0) (by simp); obtain ⟨b3, off3, p3, hpf3, _, hp3, _, _, _, g3, _⟩ := hfd.at (i := 1) (by simp); rw [hpf] at hpf3 c1; obtain ⟨rfl, rfl⟩ : b2 = b3 ∧ off2 = off3 := (by cases hpf3; exact ⟨rfl, rfl⟩); simp at hp2 hp3; subst hp2 hp3; simp at c1 e3 g3; rw [hG1]; have HB1 := hid hb1; clear hG hfo hb1 hp c0 hfd hpL hpf hpf3 hG1 cO))
  go_ret
  have h9 := HB.out.trans (HB1.out.mono HB.out.size)
  exact ⟨rfl, h9.alloc h9.size _⟩
end Go.Proofs.Ytiajpjkkopdmgaa.typing
/- What a step leaves as it is, by plain values: the version, and the forms that it does not name. No condition. -/
namespace Go.Proofs.Ytiajpjkkopdmgaa.typing
open Go.RowKit Go.Proofs.Ytiajpjkkopdmgaa.schema
set_option linter.unusedVariables false

theorem begin_s' (F : List schema.Form) (s : step.Sp) : (begin_ F s).s = s := by unfold begin_; split <;> rfl
theorem err_found {c : Ch} (h : err c = 0) : found c = true := by
  unfold err at h
  by_cases hf : found c = false
  · rw [if_pos hf] at h; cases h
  · simpa using hf
theorem found_named {F : List schema.Form} {s : step.Sp} (h : found (begin_ F s) = true) (h9 : s.op ≠ 9) : ∃ p, named F s.fm = some p := by
  unfold found at h
  rw [begin_s', if_neg h9] at h
  cases hq : named F s.fm with
  | some p => exact ⟨p, rfl⟩
  | none =>
    unfold begin_ at h
    rw [hq] at h
    by_cases h1 : s.op = 1 ∨ s.op = 10
    · rw [if_pos h1] at h; cases h
    · rw [if_neg h1] at h; exact absurd h (by simp)
theorem mem_at {α : Type} {F : List α} {p : α} (h : p ∈ F) : ∃ j : Nat, F[j]? = some p := List.mem_iff_getElem?.1 h
theorem applied_mem {F : List schema.Form} {s : step.Sp} (hs : Sorted F) (h : err (begin_ F s) = 0) {p : schema.Form} (hp : p ∈ F) (hn : p.1 ≠ s.fm) : p ∈ applied F (begin_ F s) := by
  unfold applied
  rw [begin_s']
  by_cases h9 : s.op = 9
  · rw [if_pos h9]
    have : p ∈ F.take (pos F s.fm) ++ F.drop (pos F s.fm) := by rw [List.take_append_drop]; exact hp
    rcases List.mem_append.1 this with h1 | h1
    · exact List.mem_append.2 (.inl h1)
    · exact List.mem_append.2 (.inr (List.mem_append.2 (.inr h1)))
  rw [if_neg h9]
  obtain ⟨q, hq⟩ := found_named (err_found h) h9
  obtain ⟨hqm, hqf⟩ := named_some hq
  have hat := pos_at hs hqm
  rw [hqf] at hat
  obtain ⟨j, hj⟩ := mem_at hp
  have hjn : j ≠ pos F s.fm := fun e => by rw [e, hat] at hj; cases hj; exact hn hqf
  by_cases h10 : s.op = 10
  · rw [if_pos h10]
    by_cases hl : j < pos F s.fm
    · refine List.mem_append.2 (.inl (List.mem_iff_getElem?.2 ⟨j, ?_⟩))
      rw [List.getElem?_take_of_lt hl]; exact hj
    · refine List.mem_append.2 (.inr (List.mem_iff_getElem?.2 ⟨j - (pos F s.fm + 1), ?_⟩))
      rw [List.getElem?_drop, show pos F s.fm + 1 + (j - (pos F s.fm + 1)) = j by omega]; exact hj
  rw [if_neg h10]
  unfold setF
  rw [hat]
  refine List.mem_iff_getElem?.2 ⟨j, ?_⟩
  simp only
  rw [List.getElem?_set_ne (Ne.symm hjn)]
  exact hj
theorem on_ok {v : Int} {F : List schema.Form} {s : step.Sp} (h : (on v F s).2.2 = 0) : Fit v F s ∧ (on v F s).1 = v ∧ Right v (on v F s).2.1 ∧ ∀ p ∈ F, p.1 ≠ s.fm → p ∈ (on v F s).2.1 := by
  unfold on at h ⊢
  by_cases hf : Fit v F s
  · rw [if_pos hf] at h ⊢
    by_cases he : err (begin_ F s) = 0
    · rw [if_pos he] at h ⊢
      by_cases hr : Right v (applied F (begin_ F s))
      · rw [if_pos hr]
        exact ⟨hf, rfl, hr, fun p hp hn => applied_mem (right_sorted hf.1) he hp hn⟩
      · rw [if_neg hr] at h; cases h
    · rw [if_neg he] at h; exact absurd h he
  · rw [if_neg hf] at h; cases h
theorem on_bad {v : Int} {F : List schema.Form} {s : step.Sp} (h : (on v F s).2.2 ≠ 0) : (on v F s).1 = 0 ∧ (on v F s).2.1 = [] := by
  unfold on at h ⊢
  by_cases hf : Fit v F s
  · rw [if_pos hf] at h ⊢
    by_cases he : err (begin_ F s) = 0
    · rw [if_pos he] at h ⊢
      by_cases hr : Right v (applied F (begin_ F s))
      · rw [if_pos hr] at h; exact absurd rfl h
      · rw [if_neg hr]; exact ⟨rfl, rfl⟩
    · rw [if_neg he]; exact ⟨rfl, rfl⟩
  · rw [if_neg hf]; exact ⟨rfl, rfl⟩
/-- in a right schema, a form stands where its ID is found -/
theorem right_at {v : Int} {F : List schema.Form} (h : Right v F) {p : schema.Form} (hp : p ∈ F) : 0 ≤ firstAt (F.map (·.1)) p.1 ∧ F[(firstAt (F.map (·.1)) p.1).toNat]? = some p := by
  have hm : p.1 ∈ F.map (·.1) := List.mem_map_of_mem hp
  have h0 := firstAt_nonneg.2 hm
  refine ⟨h0, ?_⟩
  obtain ⟨hl, ha⟩ := firstAt_lt h0
  obtain ⟨j, hj⟩ := mem_at hp
  obtain ⟨hjl, hje⟩ := List.getElem?_eq_some_iff.1 hj
  have hs : (F.map (·.1)).Pairwise (· < ·) := right_sorted h
  have hjm : (F.map (·.1))[j]? = some p.1 := by rw [List.getElem?_map, hj]; rfl
  have : (firstAt (F.map (·.1)) p.1).toNat = j := by
    generalize (firstAt (F.map (·.1)) p.1).toNat = k at *
    rcases Nat.lt_trichotomy k j with hk | hk | hk
    · have := List.pairwise_iff_getElem.1 hs k j (by omega) (by simpa using hjl) hk
      rw [(List.getElem?_eq_some_iff.1 ha).2, (List.getElem?_eq_some_iff.1 hjm).2] at this
      omega
    · exact hk
    · have := List.pairwise_iff_getElem.1 hs j k (by simpa using hjl) (by omega) hk
      rw [(List.getElem?_eq_some_iff.1 ha).2, (List.getElem?_eq_some_iff.1 hjm).2] at this
      omega
  rw [this]
  exact hj
end Go.Proofs.Ytiajpjkkopdmgaa.typing
/- What the laws of layer 16 share: a step in a row, what great says of sizes. No condition. -/
namespace Go.Proofs.Ytiajpjkkopdmgaa.typing
open Go.RowKit Go.Proofs.Ytiajpjkkopdmgaa.schema
open Go.Proofs.Ytiajpjkkopdmgaa.step (St Sts StL sps GreatL great_not)
set_option linter.unusedVariables false

/-- a step in a row -/
theorem one_list (p : St) (W : World) (t : TypeId) : Sts (W.alloc (.cells p.C.toArray t)) (some ⟨W.heap.size, 0, none⟩) [p] := by
  have hB := Block.new W t p.C
  refine .inr ⟨_, 0, rfl, hB.lt, fun i x hx j v hv => ?_⟩
  have hj : j < 16 := (List.getElem?_eq_some_iff.1 hv).1
  rw [Nat.zero_add, hB.cell]
  match i, hx with
  | 0, hx =>
    simp only [List.getElem?_cons_zero, Option.some.injEq] at hx
    subst hx
    rw [show 0 * 16 + j = j by omega]
    exact hv
  | n + 1, hx => simp at hx
theorem small_of {w : World} {a : Option Addr} {F : List Fm} {L : List St} (h : FmL w a F) (hg : (greatB (forms F) || decide (GreatL (sps L))) = false) : Small w F ∧ ∀ p ∈ L, p.s.l.length ≤ 40 := by
  simp only [Bool.or_eq_false_iff, decide_eq_false_iff_not] at hg
  obtain ⟨h1, h2⟩ := greatB_no hg.1
  have h3 := (great_not hg.2).2
  rw [forms_length] at h1
  exact ⟨⟨h1, fun p hp => ⟨(h.2 p hp).rf, h2 p.p (List.mem_map_of_mem hp)⟩⟩, fun p hp => (h3 p.s (List.mem_map_of_mem hp)).2⟩
end Go.Proofs.Ytiajpjkkopdmgaa.typing
/- Contracts of the pen's calls that write: varint, Count, Num. No condition but that the row stays shorter than 2^47 bytes. -/
namespace Go.Proofs.Ytiajpjkkopdmgaa.pen
open Go.RowKit Go.Proofs.Ytiajpjkkopdmgaa.texts
set_option linter.unusedVariables false

theorem Wrote.more {lo b : Nat} {v v1 : Value} {xs ys zs : List Nat} {bad : Int} {w w1 w' : World} {e : Ending} (ht : Turns w b v w1 v1) (h : Wrote lo b v1 (xs ++ ys) zs bad w1 e w') : Wrote lo b v xs (ys ++ zs) bad w e w' := by
  obtain ⟨he, v', hp, h2⟩ := h
  exact ⟨he, v', by rw [← List.append_assoc]; exact hp, ht.trans h2⟩
/-- put of a row that was just built -/
theorem put_new (lo b : Nat) (v : Value) (xs : List Nat) (bad : Int) (w : World) (h : PenAt lo b v xs bad w) (hlo : lo ≤ w.heap.size) (ys : List Nat) (hn : xs.length + ys.length ≤ 140737488355328) (vals : Array Value) (hv : vals = (u8v ys).toArray) (m : Nat) (hm : m = ys.length) :
    Calls Try.prog 90 #[.pointer (some ⟨b, 0, none⟩), .slice (some ⟨w.heap.size, 0, none⟩) m m] (w.alloc (.cells vals 5)) (Wrote lo b v xs ys bad w) := by
  subst hv hm
  have hb : Below w.heap.size w (w.alloc (.cells (u8v ys).toArray 5)) := (Below.refl _ _).alloc (Nat.le_refl _) _
  refine (put_any lo b v xs bad _ (h.later hb) (Nat.le_trans hlo hb.size) _ _ _ ys (Reads.new w _ ys) hn).mono ?_
  rintro e w' ⟨he, v', hp, ht⟩
  exact ⟨he, v', hp, (turns_later hb).trans ht⟩

set_option maxRecDepth 8000 in
set_option maxHeartbeats 800000 in
theorem varint_any (lo b : Nat) (v : Value) (xs : List Nat) (bad : Int) (w : World) (h : PenAt lo b v xs bad w) (hlo : lo ≤ w.heap.size) (x : Nat) (hx : x < 18446744073709551616) (hn : xs.length + 10 ≤ 140737488355328) :
    Calls Try.prog 63 #[.pointer (some ⟨b, 0, none⟩), .int .u64 (x : Int)] w (Wrote lo b v xs (vb x) bad w) := by
  have hlen := vb_ten x hx
  obtain ⟨X, hX⟩ : ∃ X, Hid (vb x = X) := ⟨_, rfl⟩
  rw [hX.out] at hlen ⊢
  have HX : Hid (([] : List Nat) ++ vb x = X) := hX.out
  have HP := hid h
  clear h
  go_enter Try.func63, Try.ntmps63
  go_wp2
  go_loopw [1] (fun i wr => ∃ (y : Nat) (ys : List Nat) (v' : Value), i = .int .u64 (y : Int) ∧ y < 18446744073709551616 ∧ PenAt lo b v' (xs ++ ys) bad wr ∧ Turns w b v wr v' ∧ Hid (ys ++ vb y = X))
    (fun i _ => (intOf i).toNat)
  case atStart => exact ⟨x, [], v, rfl, hx, by rw [List.append_nil]; exact HP.out, Turns.refl _ _ _, HX⟩
  case round =>
    obtain ⟨y, ys, v', rfl, hy, hp, ht, he⟩ := hrel
    have hlo' := Nat.le_trans hlo ht.size
    have HT := hid ht
    have hl : ys.length + (vb y).length = X.length := by rw [← he.out, List.length_append]
    have hpos := vb_pos y
    by_cases h128 : y < 128
    · have hi : ((y : Int) < 128) := by omega
      have hE : Hid (ys ++ [y] = X) := by show _ = _; rw [← he.out, vb_small h128]
      have c1 := put_new lo b v' (xs ++ ys) bad wr hp hlo' [y] (by simp; omega) #[.int .u8 (y : Int)] rfl 1 rfl
      clear hp ht hl hpos
      go_wp2_with (go_at_call 90; (with_reducible refine c1.mono ?_); rintro e w2 ⟨rfl, v2, hp2, ht2⟩)
      exact ret0 rfl rfl ⟨rfl, v2, by rw [← hE.out, ← List.append_assoc]; exact hp2, HT.out.trans ht2⟩
    · have hi : ¬ ((y : Int) < 128) := by omega
      have hE : Hid ((ys ++ [128 + y % 128]) ++ vb (y / 128) = X) := by show _ = _; rw [← he.out, vb_big h128]; simp
      have c1 : ∀ z : Int, z = ((128 + y % 128 : Nat) : Int) → Calls Try.prog 90 #[.pointer (some ⟨b, 0, none⟩), .slice (some ⟨wr.heap.size, 0, none⟩) 1 1] (wr.alloc (.cells #[.int .u8 z] 5)) (Wrote lo b v' (xs ++ ys) [128 + y % 128] bad wr) := by
        rintro z rfl
        exact put_new lo b v' (xs ++ ys) bad wr hp hlo' [128 + y % 128] (by simp; omega) _ rfl 1 rfl
      clear hp ht hl hpos he
      go_wp2_with (go_at_call 90; (with_reducible refine (c1 _ (by omega)).mono ?_); rintro e w2 ⟨rfl, v2, hp2, ht2⟩)
      exact ⟨⟨y / 128, ys ++ [128 + y % 128], v2, by go_num, by omega, by rw [← List.append_assoc]; exact hp2, HT.out.trans ht2, hE⟩, by simp [intOf]; omega⟩

theorem i64_not (n : Int) (h1 : -9223372036854775808 ≤ n) (h2 : n ≤ 9223372036854775807) : bits .xor .i64 (-1) n = -n - 1 := by
  show IntKind.i64.wrap ((BitVec.ofInt 64 (-1) ^^^ BitVec.ofInt 64 n).toNat : Int) = _
  have e1 : (BitVec.ofInt 64 (-1)).toNat = 2 ^ 64 - 1 := by decide
  rw [BitVec.toNat_xor, e1, Lib.xor_ones64 _ (BitVec.isLt _), BitVec.toNat_ofInt, IntKind.wrap_i64]
  omega
theorem i64_low (n : Int) (j : Nat) (hj : j ≤ 32) (m : Int) (hm : (BitVec.ofInt 64 m).toNat = 2 ^ j - 1) : bits .and .i64 n m = n % (2 ^ j : Nat) := by
  show IntKind.i64.wrap ((BitVec.ofInt 64 n &&& BitVec.ofInt 64 m).toNat : Int) = _
  have hp : 2 ^ j ∣ 2 ^ 64 := Nat.pow_dvd_pow 2 (by omega)
  have hl : 2 ^ j ≤ 2 ^ 32 := Nat.pow_le_pow_right (by decide) hj
  have h0 : 0 < 2 ^ j := Nat.two_pow_pos j
  rw [BitVec.toNat_and, hm, Nat.and_two_pow_sub_one_eq_mod, BitVec.toNat_ofInt, IntKind.wrap_i64]
  have e : ((n % ((2 ^ 64 : Nat) : Int)).toNat % 2 ^ j : Nat) = (n % ((2 ^ j : Nat) : Int)) := by
    rw [Int.natCast_emod, Int.toNat_of_nonneg (Int.emod_nonneg _ (by decide)), Int.emod_emod_of_dvd _ (by exact_mod_cast hp)]
  rw [e]
  have a1 := Int.emod_nonneg n (show ((2 ^ j : Nat) : Int) ≠ 0 by omega)
  have a2 := Int.emod_lt_of_pos n (show (0 : Int) < ((2 ^ j : Nat) : Int) by omega)
  generalize n % ((2 ^ j : Nat) : Int) = q at *
  omega
theorem i64_low8 (n : Int) : bits .and .i64 n 255 = n % 256 := i64_low n 8 (by decide) 255 (by decide)
theorem i64_low32 (n : Int) : bits .and .i64 n 4294967295 = n % 4294967296 := i64_low n 32 (by decide) 4294967295 (by decide)
theorem zigzag_any (n : Int) (h1 : -9223372036854775808 ≤ n) (h2 : n ≤ 9223372036854775807) (w : World) : Calls Try.prog 91 #[.int .i64 n] w (Quiet (.int .u64 (zig n : Int)) w) := by
  have hn := i64_not n h1 h2
  have hsg : IntKind.i64.signed = true := rfl
  by_cases h0 : n < 0
  · have hz : (zig n : Int) = 2 * (-n - 1) + 1 := by unfold zig; rw [if_pos h0]; omega
    rw [hz]
    go_enter Try.func91, Try.ntmps91
    go_wp2
    go_ret
    exact ⟨rfl, 0, rfl⟩
  · have hz : (zig n : Int) = 2 * n := by unfold zig; rw [if_neg h0]; omega
    rw [hz]
    go_enter Try.func91, Try.ntmps91
    go_wp2
    go_ret
    exact ⟨rfl, 0, rfl⟩

theorem count_any (lo b : Nat) (v : Value) (xs : List Nat) (bad : Int) (w : World) (h : PenAt lo b v xs bad w) (hlo : lo ≤ w.heap.size) (n : Nat) (hn63 : n ≤ 9223372036854775807) (hn : xs.length + 10 ≤ 140737488355328) :
    Calls Try.prog 32 #[.pointer (some ⟨b, 0, none⟩), .int .i64 (n : Int)] w (Wrote lo b v xs (vb n) bad w) := by
  have c1 := varint_any lo b v xs bad w h hlo n (by omega) hn
  obtain ⟨X, hX⟩ : ∃ X, Hid (vb n = X) := ⟨_, rfl⟩
  rw [hX.out] at c1 ⊢
  clear h
  go_enter Try.func32, Try.ntmps32
  go_wp2_with (go_at_call 63; (with_reducible refine c1.mono ?_); rintro e w2 ⟨rfl, v2, hp2, ht2⟩)
  exact ret0 rfl rfl ⟨rfl, v2, hp2, ht2⟩
theorem count_neg (lo b : Nat) (v : Value) (xs : List Nat) (bad : Int) (w : World) (h : PenAt lo b v xs bad w) (n : Int) (h1 : -9223372036854775808 ≤ n) (hn : n < 0) :
    Calls Try.prog 32 #[.pointer (some ⟨b, 0, none⟩), .int .i64 n] w fun e w' => e = .returned (.tuple #[]) ∧ PenAt lo b v xs 2 w' ∧ Turns w b v w' v := by
  have c1 := h.err
  have f1 := h.1.frozen 1
  have hf := hid (h.fail 2)
  clear h
  go_enter Try.func32, Try.ntmps32
  go_wp2
  exact ret0 rfl rfl ⟨rfl, hf.out.1, hf.out.2⟩
theorem num_any (lo b : Nat) (v : Value) (xs : List Nat) (bad : Int) (w : World) (h : PenAt lo b v xs bad w) (hlo : lo ≤ w.heap.size) (n : Int) (h1 : -9223372036854775808 ≤ n) (h2 : n ≤ 9223372036854775807) (hn : xs.length + 10 ≤ 140737488355328) :
    Calls Try.prog 64 #[.pointer (some ⟨b, 0, none⟩), .int .i64 n] w (Wrote lo b v xs (vb (zig n)) bad w) := by
  have c0 := zigzag_any n h1 h2 w
  have c1 : ∀ m, Calls Try.prog 63 #[.pointer (some ⟨b, 0, none⟩), .int .u64 (zig n : Int)] (w.drewN m) (Wrote lo b v xs (vb (zig n)) bad w) := fun m =>
    (varint_any lo b v xs bad (w.drewN m) h hlo (zig n) (zig_lt n h1 h2) hn).mono fun e w' ⟨he, v', hp, ht⟩ => ⟨he, v', hp, (turns_later (below_drewN (Below.refl _ _) m)).trans ht⟩
  obtain ⟨X, hX⟩ : ∃ X, Hid (vb (zig n) = X) := ⟨_, rfl⟩
  rw [hX.out] at c1 ⊢
  clear h
  obtain ⟨Z, hZ⟩ : ∃ Z, Hid (zig n = Z) := ⟨_, rfl⟩
  rw [hZ.out] at c0 c1
  go_enter Try.func64, Try.ntmps64
  go_wp2_with (first
    | (go_at_call 91; (with_reducible refine c0.mono ?_); clear c0; rintro e w1 ⟨rfl, m, rfl⟩)
    | (go_at_call 63; (with_reducible refine (c1 _).mono ?_); rintro e w2 ⟨rfl, v2, hp2, ht2⟩))
  exact ret0 rfl rfl ⟨rfl, v2, hp2, ht2⟩
end Go.Proofs.Ytiajpjkkopdmgaa.pen
/- Contracts of New, Done and bytes.Clone, and of calls on a pen that is none. No condition but a row of at most 2^47 bytes. -/
namespace Go.Proofs.Ytiajpjkkopdmgaa.pen
open Go.RowKit Go.Proofs.Ytiajpjkkopdmgaa.texts
set_option linter.unusedVariables false

theorem bytes_nil (W : World) (a : Option Addr) (n c : Nat) : (binOp .eql 47 (.slice a n c) (.slice none 0 0)).run Try.prog W = .ok (.bool a.isNone) W := by
  have h := run_equal_slice_nil (P := Try.prog) W 47 5 a n c Try.underlying47
  simp [binOp, h, Result.andThen]
/-- the call returns a row of its own that holds the bytes xs -/
def Copies (xs : List Nat) (w : World) (e : Ending) (w' : World) : Prop :=
  ∃ v, e = .returned v ∧ w'.ownsRow w.heap.size 5 1 v xs.length (u8v xs) ∧ Below w.heap.size w w'
theorem clone_any (a : Option Addr) (m c : Nat) (xs : List Nat) (w : World) (hr : Reads .u8 w a m xs) (hn : m ≤ 140737488355328) :
    Calls Try.prog 65 #[.slice a m c] w (Copies xs w) := by
  obtain ⟨i0, hi, hz0, hz1, hz2⟩ := info_parts info5
  have HM : Hid (xs.length = m) := hr.1
  cases a with
  | none =>
    have en := bytes_nil w none m c
    simp only [Option.isNone_none] at en
    have h0 : m = 0 := by rcases hr.2 with h | ⟨_, _, h, _⟩; exact h; cases h
    have HX := hid h0
    clear hr h0
    go_enter Try.func65, Try.ntmps65
    go_wp2
    go_ret
    obtain rfl : xs = [] := List.eq_nil_of_length_eq_zero (HM.out.trans HX.out)
    exact ⟨_, rfl, World.ownsRow_nil _ _ _ _, Below.refl _ _⟩
  | some ad =>
    have en := bytes_nil w (some ad) m c
    simp only [Option.isNone_some] at en
    have hb : Below w.heap.size w (w.alloc (.cells #[] 5)) := (Below.refl _ _).alloc (Nat.le_refl _) _
    have HB := hid hb
    have HN := hid (Reads.news (hr.below hb))
    have HU := hid (u8v_length xs)
    have HN2 : Hid (0 + m ≤ maxLen) := by show _ ≤ _; unfold maxLen; omega
    have HN3 : Hid ((0 + m) * 1 ≤ 140737488355328) := by show _ ≤ _; omega
    have HO := hid (World.ownsRow_made (base := w.heap.size) (e := 5) (size := 1) w #[] 0 (Nat.le_refl _) (Nat.zero_le _) rfl)
    clear hr hb
    go_enter Try.func65, Try.ntmps65
    go_wp2_with (at_builtin; refine wpList_append_at_from rfl _ _ 47 rfl w.heap.size 5 i0 (.int .u8 0) 1 Try.underlying47 hi hz0 hz1 hz2 rfl (.slice (some ⟨w.heap.size, 0, none⟩) 0 0) 0 [] rfl HO.out (some ad) m c (u8v xs) rfl (by rw [HU.out, HM.out]) HN.out (u8v_one xs) HN2.out HN3.out HB.out.size ?_)
    intro v' w1 ho hg ha
    have hbl : Below w.heap.size w w1 := HB.out.grown hg HB.out.size (fun k hk => by cases hk; exact Nat.le_refl _)
    have ho' : w1.ownsRow w.heap.size 5 1 v' xs.length (u8v xs) := by
      rw [HM.out]; simpa using ho
    have HO2 := hid ho'
    have HB2 := hid hbl
    clear ho ho' hbl hg ha
    go_wp2
    go_ret
    exact ⟨_, rfl, HO2.out, HB2.out⟩

theorem new_any (w : World) : Calls Try.prog 31 #[] w fun e w' => e = .returned (.pointer (some ⟨w.heap.size, 0, none⟩)) ∧ PenAt w.heap.size w.heap.size (.slice none 0 0) [] 0 w' ∧ Below w.heap.size w w' := by
  go_enter Try.func31, Try.ntmps31
  go_wp2
  go_ret
  exact ⟨rfl, ⟨Block.new w 93 [.slice none 0 0, .int .i64 0], by simp [Value.ownBlock], World.ownsRow_nil _ _ _ _⟩, (Below.refl _ _).alloc (Nat.le_refl _) _⟩

/-- what Done answers -/
def Gives (xs : List Nat) (bad : Int) (w : World) (e : Ending) (w' : World) : Prop :=
  ∃ v, e = .returned (.tuple #[v, .int .i64 bad]) ∧ w'.ownsRow w.heap.size 5 1 v xs.length (u8v xs) ∧ Below w.heap.size w w'
theorem done_any (lo b : Nat) (v : Value) (xs : List Nat) (w : World) (h : PenAt lo b v xs 0 w) (hn : xs.length ≤ 140737488355328) :
    Calls Try.prog 34 #[.pointer (some ⟨b, 0, none⟩)] w (Gives xs 0 w) := by
  obtain ⟨a, c, rfl, hc⟩ := ownsRow_slice h.2.2
  have c1 := clone_any a xs.length c xs w (Reads.own h.2.2) hn
  have c0 := h.row
  have c2 := h.err
  clear h
  go_enter Try.func34, Try.ntmps34
  go_wp2_with (go_at_call 65; (with_reducible refine c1.mono ?_); clear c1; rintro e w1 ⟨u, rfl, ho, hb⟩)
  go_ret2
  exact ⟨_, rfl, ho, hb⟩
theorem done_bad (lo b : Nat) (v : Value) (xs : List Nat) (w : World) (h : PenAt lo b v xs 2 w) :
    Calls Try.prog 34 #[.pointer (some ⟨b, 0, none⟩)] w (Gives [] 2 w) := by
  have c2 := h.err
  clear h
  go_enter Try.func34, Try.ntmps34
  go_wp2_with go_region
  all_goals go_ret2
  all_goals exact ⟨_, rfl, World.ownsRow_nil _ _ _ _, by repeat (first | exact Below.refl _ _ | apply below_drewN)⟩

/-! a pen that is none -/
/-- the call returns nothing and turns nothing that was there -/
def Idle (w : World) (e : Ending) (w' : World) : Prop := e = .returned (.tuple #[]) ∧ Below w.heap.size w w'
theorem done_nil (w : World) : Calls Try.prog 34 #[.pointer none] w (Quiet (.tuple #[.slice none 0 0, .int .i64 1]) w) := by
  go_enter Try.func34, Try.ntmps34
  go_wp2
  go_ret2
  exact ⟨rfl, 0, rfl⟩
theorem put_idle (u : Value) (w : World) : Calls Try.prog 90 #[.pointer none, u] w (Idle w) := by
  go_enter Try.func90, Try.ntmps90
  go_wp2
  exact ret0 rfl rfl ⟨rfl, Below.refl _ _⟩
theorem count_idle (n : Int) (w : World) : Calls Try.prog 32 #[.pointer none, .int .i64 n] w (Idle w) := by
  go_enter Try.func32, Try.ntmps32
  go_wp2
  exact ret0 rfl rfl ⟨rfl, Below.refl _ _⟩
set_option maxRecDepth 8000 in
theorem varint_idle (x : Nat) (hx : x < 18446744073709551616) (w : World) : Calls Try.prog 63 #[.pointer none, .int .u64 (x : Int)] w (Idle w) := by
  have c1 := fun u w1 => put_idle u w1
  go_enter Try.func63, Try.ntmps63
  go_wp2
  go_loopw [1] (fun i wr => ∃ y : Nat, i = .int .u64 (y : Int) ∧ y < 18446744073709551616 ∧ Below w.heap.size w wr)
    (fun i _ => (intOf i).toNat)
  case atStart => exact ⟨x, rfl, hx, Below.refl _ _⟩
  case round =>
    obtain ⟨y, rfl, hy, hb⟩ := hrel
    have HB := hid hb
    clear hb
    by_cases h128 : y < 128
    · have hi : ((y : Int) < 128) := by omega
      go_wp2_with (go_at_call 90; (with_reducible refine (c1 _ _).mono ?_); rintro e w2 ⟨rfl, hb2⟩)
      exact ret0 rfl rfl ⟨rfl, (HB.out.alloc HB.out.size _).trans (hb2.mono (by simp; have := HB.out.size; omega))⟩
    · have hi : ¬ ((y : Int) < 128) := by omega
      go_wp2_with (go_at_call 90; (with_reducible refine (c1 _ _).mono ?_); rintro e w2 ⟨rfl, hb2⟩)
      exact ⟨⟨y / 128, by go_num, by omega, (HB.out.alloc HB.out.size _).trans (hb2.mono (by simp; have := HB.out.size; omega))⟩, by simp [intOf]; omega⟩
theorem num_idle (n : Int) (h1 : -9223372036854775808 ≤ n) (h2 : n ≤ 9223372036854775807) (w : World) : Calls Try.prog 64 #[.pointer none, .int .i64 n] w (Idle w) := by
  have c0 := zigzag_any n h1 h2 w
  have c1 := fun w1 => varint_idle (zig n) (zig_lt n h1 h2) w1
  obtain ⟨Z, hZ⟩ : ∃ Z, Hid (zig n = Z) := ⟨_, rfl⟩
  rw [hZ.out] at c0 c1
  go_enter Try.func64, Try.ntmps64
  go_wp2_with (first
    | (go_at_call 91; (with_reducible refine c0.mono ?_); clear c0; rintro e w1 ⟨rfl, m, rfl⟩)
    | (go_at_call 63; (with_reducible refine (c1 _).mono ?_); rintro e w2 ⟨rfl, hb2⟩))
  exact ret0 rfl rfl ⟨rfl, (below_drewN (Below.refl _ _) m).trans hb2⟩
end Go.Proofs.Ytiajpjkkopdmgaa.pen
/- A pen beside other blocks. No condition but a row shorter than 2^46 bytes. -/
namespace Go.Proofs.Ytiajpjkkopdmgaa.schema
open Go.RowKit Go.Proofs.Ytiajpjkkopdmgaa.pen
set_option linter.unusedVariables false

theorem count_int (lo b : Nat) (v : Value) (xs : List Nat) (w : World) (h : PenAt lo b v xs 0 w) (hlo : lo ≤ w.heap.size) (n : Int) (h0 : 0 ≤ n) (h63 : n ≤ 9223372036854775807) (hn : xs.length ≤ 1000000) :
    Calls Try.prog 32 #[.pointer (some ⟨b, 0, none⟩), .int .i64 n] w (Wrote lo b v xs (vb n.toNat) 0 w) := by
  obtain ⟨m, rfl⟩ := Int.eq_ofNat_of_zero_le h0
  exact count_any lo b v xs 0 w h hlo m (by omega) (by omega)
/-- a struct stays where a pen writes -/
theorem pen_block {lo b : Nat} {v v' : Value} {xs : List Nat} {bad : Int} {w w' : World} (hp : PenAt lo b v xs bad w) (ht : Turns w b v w' v') {k : Nat} {t : TypeId} {cs : List Value} (hB : Block w k t cs) (hT : t ≠ 5) (hk : k ≠ b) : Block w' k t cs := by
  refine (ht.block k hB.lt hk ?_).trans hB
  intro e
  rcases hp.2.2.2 with ⟨hv, _⟩ | ⟨g, cap, cur, hv, _, hg, _⟩
  · rw [hv] at e; simp [Value.ownBlock] at e
  · rw [hv] at e
    simp [Value.ownBlock] at e
    subst e
    unfold Block at hB
    rw [hg] at hB
    exact hT ((Obj.cells.inj (Option.some.inj hB)).2.1.symm)
theorem turns_alloc (w : World) (b : Nat) (v : Value) (d : Obj) : Turns w b v (w.alloc d) v := turns_later ((Below.refl _ _).alloc (Nat.le_refl _) _)

/-- the pen at g holds xs; below it all is as in w1 -/
def PS (g : Nat) (w1 : World) (xs : List Nat) (v : Value) (w : World) : Prop := PenAt g g v xs 0 w ∧ Below g w1 w ∧ g ≤ w.heap.size
theorem PS.step {g : Nat} {w1 : World} {xs ys : List Nat} {v v' : Value} {w w' : World} (h : PS g w1 xs v w) (hp : PenAt g g v' (xs ++ ys) 0 w') (ht : Turns w g v w' v') : PS g w1 (xs ++ ys) v' w' :=
  ⟨hp, h.2.1.trans (ht.below h.2.2 (Nat.le_refl _) (fun x hx => (h.1.lo x hx).1)), Nat.le_trans h.2.2 ht.size⟩
theorem PS.later {g : Nat} {w1 : World} {xs : List Nat} {v : Value} {w w' : World} (h : PS g w1 xs v w) (hb : Below w.heap.size w w') : PS g w1 xs v w' := ⟨h.1.later hb, h.2.1.trans (hb.mono h.2.2), Nat.le_trans h.2.2 hb.size⟩
theorem PS.count {g : Nat} {w1 : World} {xs : List Nat} {v : Value} {w : World} (h : PS g w1 xs v w) (n : Int) (h0 : 0 ≤ n) (h63 : n ≤ 9223372036854775807) (hn : xs.length ≤ 1000000) :
    Calls Try.prog 32 #[.pointer (some ⟨g, 0, none⟩), .int .i64 n] w fun e w' => e = .returned (.tuple #[]) ∧ ∃ v', PS g w1 (xs ++ vb n.toNat) v' w' ∧ ∀ k t cs, Block w k t cs → t ≠ 5 → k ≠ g → Block w' k t cs :=
  (count_int g g v xs w h.1 h.2.2 n h0 h63 hn).mono fun _ _ ⟨he, v', hp, ht⟩ => ⟨he, v', h.step hp ht, fun k t cs hB hT hk => pen_block h.1 ht hB hT hk⟩
end Go.Proofs.Ytiajpjkkopdmgaa.schema
/- Contract of layer 13 (schema): printField. No condition but a right field and a row shorter than 2^46 bytes. -/
namespace Go.Proofs.Ytiajpjkkopdmgaa.schema
open Go.RowKit Go.Proofs.Ytiajpjkkopdmgaa.pen
set_option linter.unusedVariables false

theorem fd_ty : (26 : TypeId) ≠ 5 := by decide
theorem fm_ty : (52 : TypeId) ≠ 5 := by decide
theorem sc_ty : (24 : TypeId) ≠ 5 := by decide
theorem printField_any (lo b : Nat) (v : Value) (xs : List Nat) (w : World) (h : PenAt lo b v xs 0 w) (hlo : lo ≤ w.heap.size) (p : field.Fd) (hr : p.Right) (hn : xs.length ≤ 100000) :
    Calls Try.prog 33 #[.pointer (some ⟨b, 0, none⟩), .agg #[.int .i64 p.id, .int .i64 p.kind, .int .i64 p.lo, .int .i64 p.hi, .int .i64 p.most]] w (Wrote lo b v xs (fieldB p) 0 w) := by
  have hs := right_span hr
  have hk : p.kind = 1 ∨ p.kind = 2 ∨ p.kind = 3 ∨ p.kind = 4 := by omega
  have hbl := Block.new w 26 [.int .i64 p.id, .int .i64 p.kind, .int .i64 p.lo, .int .i64 p.hi, .int .i64 p.most]
  have hp0 := h.later (field.newB w (.cells #[.int .i64 p.id, .int .i64 p.kind, .int .i64 p.lo, .int .i64 p.hi, .int .i64 p.most] 26))
  have ht0 := turns_alloc w b v (.cells #[.int .i64 p.id, .int .i64 p.kind, .int .i64 p.lo, .int .i64 p.hi, .int .i64 p.most] 26)
  have hne : w.heap.size ≠ b := by have := h.1.lt; omega
  have hl0 : lo ≤ (w.alloc (.cells #[.int .i64 p.id, .int .i64 p.kind, .int .i64 p.lo, .int .i64 p.hi, .int .i64 p.most] 26)).heap.size := by simp; omega
  have l1 := vb_ten p.id.toNat (by omega)
  have l2 := vb_ten p.kind.toNat (by omega)
  have l3 := vb_ten (zig p.lo) (zig_lt _ (by omega) (by omega))
  have l4 := vb_ten (zig p.hi) (zig_lt _ (by omega) (by omega))
  have hfb : fieldB p = vb p.id.toNat ++ vb p.kind.toNat ++ (if p.kind = 1 then vb (zig p.lo) ++ vb (zig p.hi) else if p.kind = 3 ∨ p.kind = 4 then vb p.most.toNat else []) := rfl
  rw [hfb]
  clear hfb h hr
  obtain ⟨i, k, lw, hi, m⟩ := p
  simp only at *
  have c1 := count_int lo b v xs _ hp0 hl0 i (by omega) (by omega) (by omega)
  have c2 := fun v1 w1 hp hl => count_int lo b v1 (xs ++ vb i.toNat) w1 hp hl k (by omega) (by omega) (by simp only [List.length_append]; omega)
  have C3 := hid (fun v1 w1 hp hl => num_any lo b v1 (xs ++ vb i.toNat ++ vb k.toNat) 0 w1 hp hl lw (by omega) (by omega) (by simp only [List.length_append]; omega))
  have C4 := hid (fun v1 w1 hp hl => num_any lo b v1 (xs ++ vb i.toNat ++ vb k.toNat ++ vb (zig lw)) 0 w1 hp hl hi (by omega) (by omega) (by simp only [List.length_append]; omega))
  have C5 := hid (fun v1 w1 hp hl => count_int lo b v1 (xs ++ vb i.toNat ++ vb k.toNat) w1 hp hl m (by omega) (by omega) (by simp only [List.length_append]; omega))
  have HBL := hid hbl
  have HT0 := hid ht0
  clear hs l1 l2 l3 l4 ht0 hbl hlo hn
  rcases hk with rfl | rfl | rfl | rfl
  · have c3 := C3.out
    have c4 := C4.out
    clear C3 C4 C5
    rw [if_pos rfl]
    go_enter Try.func33, Try.ntmps33
    go_wp2_with (first
      | (go_at_call 32; ((with_reducible refine c1.mono ?_); rintro e w1 ⟨rfl, v1, hp1, ht1⟩; have hB1 := pen_block hp0 ht1 HBL.out fd_ty hne; have z0 := hB1.cell 0; have z1 := hB1.cell 1; have hl1 := Nat.le_trans hl0 ht1.size))
      | (go_at_call 32; ((with_reducible refine (c2 _ _ hp1 hl1).mono ?_); rintro e w2 ⟨rfl, v2, hp2, ht2⟩; have hB2 := pen_block hp1 ht2 hB1 fd_ty hne; have z1 := hB2.cell 1; have z2 := hB2.cell 2; have z4 := hB2.cell 4; have hl2 := Nat.le_trans hl1 ht2.size))
      | (go_at_call 64; ((with_reducible refine (c3 _ _ hp2 hl2).mono ?_); rintro e w3 ⟨rfl, v3, hp3, ht3⟩; have hB3 := pen_block hp2 ht3 hB2 fd_ty hne; have z3 := hB3.cell 3; have hl3 := Nat.le_trans hl2 ht3.size))
      | (go_at_call 64; ((with_reducible refine (c4 _ _ hp3 hl3).mono ?_); rintro e w4 ⟨rfl, v4, hp4, ht4⟩))
      | (go_at_call 32; ((with_reducible refine (c5 _ _ hp2 hl2).mono ?_); rintro e w3 ⟨rfl, v3, hp3, ht3⟩)))
    exact ret0 rfl rfl ⟨rfl, v4, by simpa only [List.append_assoc] using hp4, HT0.out.trans (ht1.trans (ht2.trans (ht3.trans ht4)))⟩
  · clear C3 C4 C5
    rw [if_neg (by decide), if_neg (by decide), List.append_nil]
    go_enter Try.func33, Try.ntmps33
    go_wp2_with (first
      | (go_at_call 32; ((with_reducible refine c1.mono ?_); rintro e w1 ⟨rfl, v1, hp1, ht1⟩; have hB1 := pen_block hp0 ht1 HBL.out fd_ty hne; have z0 := hB1.cell 0; have z1 := hB1.cell 1; have hl1 := Nat.le_trans hl0 ht1.size))
      | (go_at_call 32; ((with_reducible refine (c2 _ _ hp1 hl1).mono ?_); rintro e w2 ⟨rfl, v2, hp2, ht2⟩; have hB2 := pen_block hp1 ht2 hB1 fd_ty hne; have z1 := hB2.cell 1; have z2 := hB2.cell 2; have z4 := hB2.cell 4; have hl2 := Nat.le_trans hl1 ht2.size))
      | (go_at_call 64; ((with_reducible refine (c3 _ _ hp2 hl2).mono ?_); rintro e w3 ⟨rfl, v3, hp3, ht3⟩; have hB3 := pen_block hp2 ht3 hB2 fd_ty hne; have z3 := hB3.cell 3; have hl3 := Nat.le_trans hl2 ht3.size))
      | (go_at_call 64; ((with_reducible refine (c4 _ _ hp3 hl3).mono ?_); rintro e w4 ⟨rfl, v4, hp4, ht4⟩))
      | (go_at_call 32; ((with_reducible refine (c5 _ _ hp2 hl2).mono ?_); rintro e w3 ⟨rfl, v3, hp3, ht3⟩)))
    exact ret0 rfl rfl ⟨rfl, v2, by simpa only [List.append_assoc] using hp2, HT0.out.trans (ht1.trans ht2)⟩
  · have c5 := C5.out
    clear C3 C4 C5
    rw [if_neg (by decide), if_pos (by decide)]
    go_enter Try.func33, Try.ntmps33
    go_wp2_with (first
      | (go_at_call 32; ((with_reducible refine c1.mono ?_); rintro e w1 ⟨rfl, v1, hp1, ht1⟩; have hB1 := pen_block hp0 ht1 HBL.out fd_ty hne; have z0 := hB1.cell 0; have z1 := hB1.cell 1; have hl1 := Nat.le_trans hl0 ht1.size))
      | (go_at_call 32; ((with_reducible refine (c2 _ _ hp1 hl1).mono ?_); rintro e w2 ⟨rfl, v2, hp2, ht2⟩; have hB2 := pen_block hp1 ht2 hB1 fd_ty hne; have z1 := hB2.cell 1; have z2 := hB2.cell 2; have z4 := hB2.cell 4; have hl2 := Nat.le_trans hl1 ht2.size))
      | (go_at_call 64; ((with_reducible refine (c3 _ _ hp2 hl2).mono ?_); rintro e w3 ⟨rfl, v3, hp3, ht3⟩; have hB3 := pen_block hp2 ht3 hB2 fd_ty hne; have z3 := hB3.cell 3; have hl3 := Nat.le_trans hl2 ht3.size))
      | (go_at_call 64; ((with_reducible refine (c4 _ _ hp3 hl3).mono ?_); rintro e w4 ⟨rfl, v4, hp4, ht4⟩))
      | (go_at_call 32; ((with_reducible refine (c5 _ _ hp2 hl2).mono ?_); rintro e w3 ⟨rfl, v3, hp3, ht3⟩)))
    exact ret0 rfl rfl ⟨rfl, v3, by simpa only [List.append_assoc] using hp3, HT0.out.trans (ht1.trans (ht2.trans ht3))⟩
  · have c5 := C5.out
    clear C3 C4 C5
    rw [if_neg (by decide), if_pos (by decide)]
    go_enter Try.func33, Try.ntmps33
    go_wp2_with (first
      | (go_at_call 32; ((with_reducible refine c1.mono ?_); rintro e w1 ⟨rfl, v1, hp1, ht1⟩; have hB1 := pen_block hp0 ht1 HBL.out fd_ty hne; have z0 := hB1.cell 0; have z1 := hB1.cell 1; have hl1 := Nat.le_trans hl0 ht1.size))
      | (go_at_call 32; ((with_reducible refine (c2 _ _ hp1 hl1).mono ?_); rintro e w2 ⟨rfl, v2, hp2, ht2⟩; have hB2 := pen_block hp1 ht2 hB1 fd_ty hne; have z1 := hB2.cell 1; have z2 := hB2.cell 2; have z4 := hB2.cell 4; have hl2 := Nat.le_trans hl1 ht2.size))
      | (go_at_call 64; ((with_reducible refine (c3 _ _ hp2 hl2).mono ?_); rintro e w3 ⟨rfl, v3, hp3, ht3⟩; have hB3 := pen_block hp2 ht3 hB2 fd_ty hne; have z3 := hB3.cell 3; have hl3 := Nat.le_trans hl2 ht3.size))
      | (go_at_call 64; ((with_reducible refine (c4 _ _ hp3 hl3).mono ?_); rintro e w4 ⟨rfl, v4, hp4, ht4⟩))
      | (go_at_call 32; ((with_reducible refine (c5 _ _ hp2 hl2).mono ?_); rintro e w3 ⟨rfl, v3, hp3, ht3⟩)))
    exact ret0 rfl rfl ⟨rfl, v3, by simpa only [List.append_assoc] using hp3, HT0.out.trans (ht1.trans (ht2.trans ht3))⟩
end Go.Proofs.Ytiajpjkkopdmgaa.schema
/- Contract of layer 13 (schema): Print. No condition. -/
namespace Go.Proofs.Ytiajpjkkopdmgaa.schema
open Go.RowKit Go.Proofs.Ytiajpjkkopdmgaa.pen
set_option linter.unusedVariables false

theorem PS.field {g : Nat} {w1 : World} {xs : List Nat} {v : Value} {w : World} (h : PS g w1 xs v w) (p : field.Fd) (hr : p.Right) (hn : xs.length ≤ 100000) :
    Calls Try.prog 33 #[.pointer (some ⟨g, 0, none⟩), .agg #[.int .i64 p.id, .int .i64 p.kind, .int .i64 p.lo, .int .i64 p.hi, .int .i64 p.most]] w fun e w' => e = .returned (.tuple #[]) ∧ ∃ v', PS g w1 (xs ++ fieldB p) v' w' :=
  (printField_any g g v xs w h.1 h.2.2 p hr hn).mono fun _ _ ⟨he, v', hp, ht⟩ => ⟨he, v', h.step hp ht⟩
theorem formsB_take_len {F : List Form} {v : Int} (h : Right v F) (k : Nat) : (formsB (F.take k)).length ≤ 3000 := by
  have h1 := formsB_len (F := F.take k) (fun p hp => h.2.2.1 p (List.mem_of_mem_take hp))
  have h2 := h.2.1
  have h3 : (F.take k).length ≤ F.length := by simp; omega
  omega
theorem fieldsB_take_len {p : Form} (h : Fine p) (k : Nat) : (fieldsB (p.2.take k)).length ≤ 320 := by
  have h1 := fieldsB_len (L := p.2.take k) (fun f hf => h.2.2.1.1 f (List.mem_of_mem_take hf))
  have h2 := h.2.1
  have h3 : (p.2.take k).length ≤ p.2.length := by simp; omega
  omega
def PrintPost (v : Int) (F : List Form) (w : World) (e : Ending) (w' : World) : Prop :=
  if Right v F then pen.Gives (schemaB v F) 0 w e w' else e = .returned (.tuple #[.slice none 0 0, .int .i64 2]) ∧ Below w.heap.size w w'

theorem print_no (v : Int) (a : Option Addr) (cap : Nat) (F : List Fm) (w : World) (h : FmL w a F) (hF : F.length ≤ maxLen) (hr : ¬ Right v (forms F)) :
    Calls Try.prog 13 #[.agg #[.int .i64 v, .slice a F.length cap]] w fun e w' => e = .returned (.tuple #[.slice none 0 0, .int .i64 2]) ∧ Below w.heap.size w w' := by
  have HX := hid (boxS v a F cap w)
  have cR := right_any v a cap F (w.alloc (.cells #[.int .i64 v, .slice a F.length cap] 24)) (h.below (field.newB _ _)) hF
  rw [decide_eq_false hr] at cR
  clear h hr
  go_enter Try.func13, Try.ntmps13
  go_wp2_with (go_at_call 18; ((with_reducible refine cR.mono ?_); rintro e w1 ⟨rfl, hb1⟩; obtain ⟨z0, z1, hbo⟩ := HX.out _ hb1))
  go_ret2
  exact ⟨rfl, hbo⟩
theorem print_yes (v : Int) (a : Option Addr) (cap : Nat) (F : List Fm) (w : World) (h : FmL w a F) (hr : Right v (forms F)) :
    Calls Try.prog 13 #[.agg #[.int .i64 v, .slice a F.length cap]] w (pen.Gives (schemaB v (forms F)) 0 w) := by
  have h8 : F.length ≤ 8 := by have := hr.2.1; rw [forms_length] at this; exact this
  have hv := hr.1
  have HX := hid (boxS v a F cap w)
  have hb0 := field.newB w (.cells #[.int .i64 v, .slice a F.length cap] 24)
  have cR := right_any v a cap F (w.alloc (.cells #[.int .i64 v, .slice a F.length cap] 24)) (h.below hb0) (by unfold maxLen; omega)
  rw [decide_eq_true hr] at cR
  have HF := hid (h.below hb0)
  have HR := hid hr
  have HSB : Hid (schemaB v (forms F) = [] ++ vb v.toNat ++ vb (F.length : Int).toNat ++ formsB (forms F)) := hid (by unfold schemaB; rw [forms_length]; simp)
  have lv := vb_ten v.toNat (by omega)
  have ln := vb_ten (F.length : Int).toNat (by omega)
  obtain ⟨X, hX⟩ : ∃ X : List Nat, Hid ([] ++ vb v.toNat ++ vb (F.length : Int).toNat = X) := ⟨_, hid rfl⟩
  have HXL : Hid (X.length ≤ 20) := hid (by rw [← hX.out]; simp only [List.length_append, List.length_nil]; omega)
  rw [hX.out] at HSB
  rw [HSB.out]
  clear h hr hb0
  go_enter Try.func13, Try.ntmps13
  go_wp2_with (first
    | (go_at_call 18; ((with_reducible refine cR.mono ?_); rintro e w1 ⟨rfl, hb1⟩; obtain ⟨z0, z1, hbo⟩ := HX.out _ hb1; have hF1 := HF.out.below hb1))
    | (go_at_call 31; ((with_reducible refine (new_any w1).mono ?_); rintro e w2 ⟨rfl, hp2, hb2⟩; have hS2 : PS w1.heap.size w1 [] (.slice none 0 0) w2 := ⟨hp2, hb2, hb2.size⟩; obtain ⟨z0, z1, _⟩ := HX.out _ (hb1.trans (hb2.mono hb1.size))))
    | (go_at_call 32; ((with_reducible refine (hS2.count v (by omega) (by omega) (by simp)).mono ?_); rintro e w3 ⟨rfl, v3, hS3, _⟩; obtain ⟨z0, z1, _⟩ := HX.out _ (hb1.trans (hS3.2.1.mono hb1.size))))
    | (go_at_call 32; ((with_reducible refine (hS3.count (F.length : Int) (by omega) (by omega) (by simp only [List.length_append, List.length_nil]; omega)).mono ?_); rintro e w4 ⟨rfl, v4, hS4, _⟩; obtain ⟨z0, z1, _⟩ := HX.out _ (hb1.trans (hS4.2.1.mono hb1.size)))))
  have hbX := hbo
  generalize hg : w1.heap.size = g at *
  rw [hX.out] at hS4
  go_loopw [25] (fun n wr => ∃ k : Nat, k ≤ F.length ∧ n = .int .i64 (k : Int) ∧ Hid (∃ vP, PS g w1 (X ++ formsB ((forms F).take k)) vP wr)) (fun n _ => F.length - (intOf n).toNat)
  case atStart => exact ⟨0, Nat.zero_le _, rfl, hid ⟨v4, by simpa [formsB] using hS4⟩⟩
  case round =>
    obtain ⟨k, hk, rfl, HS⟩ := hrel
    obtain ⟨vP, hS⟩ := HS.out
    by_cases hlt : k < F.length
    · obtain ⟨b, off, p, rfl, hbl, hp, c0, c1, hfd, hfl⟩ := form_at hF1 (by rw [hg]; exact hS.2.1) hlt
      have i1 : (k : Int) < F.length := by omega
      have HTK := hid (formsB_succ (forms_at hp))
      have hgd := (hF1.2 p (List.mem_of_getElem? hp)).rf
      have hfi : Fine p.p := HR.out.2.2.1 _ (List.mem_of_getElem? (forms_at hp))
      obtain ⟨i, q, qc, L⟩ := p
      simp only [Fm.p] at HTK c0 c1 hfd hfl hfi hgd
      have HF6 := hid hgd
      clear hgd
      have HFI := hid hfi
      have hi := hfi.1
      have hl := hfi.2.1
      simp only at hi hl
      have lf := formsB_take_len HR.out k
      have li := vb_ten i.toNat (by omega)
      have ll := vb_ten (L.length : Int).toNat (by omega)
      have hXl := HXL.out
      have hS0 := hS.later (field.newB wr (.cells #[.int .i64 i, .slice q L.length qc] 52))
      have hbk := Block.new wr 52 [.int .i64 i, .slice q L.length qc]
      have hne : wr.heap.size ≠ g := by have := hS.1.1.lt; omega
      have HBK := hid hbk
      have hFq : field.Fds (wr.alloc (.cells #[.int .i64 i, .slice q L.length qc] 52)) q L := hfd.below (field.newB _ _)
      clear hp hfi hbk hfd hS HS
      have hXl2 : (X ++ formsB ((forms F).take k)).length ≤ 3020 := by simp only [List.length_append]; omega
      obtain ⟨Y, hY⟩ : ∃ Y : List Nat, Hid (X ++ formsB ((forms F).take k) = Y) := ⟨_, hid rfl⟩
      rw [hY.out] at hS0 hXl2
      go_wp2_with (first
        | (go_at_call 32; ((with_reducible refine (hS0.count i (by omega) (by omega) (by omega)).mono ?_); rintro e w5 ⟨rfl, v5, hS5, hK5⟩; have hB5 := hK5 _ _ _ HBK.out fm_ty hne; have y0 := hB5.cell 0; have y1 := hB5.cell 1))
        | (go_at_call 32; ((with_reducible refine (hS5.count (L.length : Int) (by omega) (by omega) (by simp only [List.length_append]; omega)).mono ?_); rintro e w6 ⟨rfl, v6, hS6, hK6⟩; have hB6 := hK6 _ _ _ hB5 fm_ty hne; have y0 := hB6.cell 0; have y1 := hB6.cell 1)))
      go_loopw [41] (fun m wq => ∃ j : Nat, j ≤ L.length ∧ m = .int .i64 (j : Int) ∧ Hid (∃ vP, PS g w1 (Y ++ vb i.toNat ++ vb (L.length : Int).toNat ++ fieldsB (L.take j)) vP wq)) (fun m _ => L.length - (intOf m).toNat)
      case atStart => exact ⟨0, Nat.zero_le _, rfl, hid ⟨v6, by simpa [fieldsB] using hS6⟩⟩
      case round =>
        obtain ⟨j, hj, rfl, HS⟩ := hrel
        obtain ⟨vQ, hQ⟩ := HS.out
        by_cases hjt : j < L.length
        · obtain ⟨b2, off2, x, rfl, hbl2, hx, e0, e1, e2, e3, e4⟩ := field_at HF6.out (by rw [hg]; exact hQ.2.1) hjt
          have i2 : (j : Int) < L.length := by omega
          have HXX := hid (fieldsB_succ hx)
          have lg := fieldsB_take_len HFI.out j
          have cP := (hQ.later (field.newB wr (.cells #[.int .i64 x.id, .int .i64 x.kind, .int .i64 x.lo, .int .i64 x.hi, .int .i64 x.most] 26))).field x (HFI.out.2.2.1.1 x (List.mem_of_getElem? hx)) (by simp only [List.length_append] at lg ⊢; omega)
          clear hx
          go_wp2_with (go_at_call 33; ((with_reducible refine cP.mono ?_); rintro e w7 ⟨rfl, v7, hS7⟩))
          exact ⟨⟨j + 1, by omega, by go_num, hid ⟨v7, by rw [HXX.out]; simpa only [List.append_assoc] using hS7⟩⟩, by simp [intOf]; omega⟩
        · obtain rfl : j = L.length := by omega
          rw [List.take_of_length_le (Nat.le_refl _)] at hQ
          have HEND : Hid (PS g w1 (X ++ formsB ((forms F).take (k + 1))) vQ wr) := hid (by
            rw [HTK.out]
            have h1 := hQ
            rw [← hY.out] at h1
            simpa only [formB, List.append_assoc, Int.toNat_natCast] using h1)
          clear hQ HS
          go_wp2
          exact ⟨⟨k + 1, by omega, by go_num, hid ⟨vQ, HEND.out⟩⟩, by simp [intOf]; omega⟩
    · obtain rfl : k = F.length := by omega
      rw [List.take_of_length_le (by rw [forms_length]; exact Nat.le_refl _)] at hS
      have cD := done_any g g vP (X ++ formsB (forms F)) wr hS.1 (by have h1 := formsB_take_len HR.out F.length; rw [List.take_of_length_le (by rw [forms_length]; exact Nat.le_refl _)] at h1; have := HXL.out; simp only [List.length_append]; omega)
      go_wp2_with (go_at_call 34; ((with_reducible refine cD.mono ?_); rintro e w5 ⟨u, rfl, ho, hb5⟩))
      go_ret2
      have hbw : Below g w1 w5 := hS.2.1.trans (hb5.mono hS.2.2)
      have hlow : w.heap.size ≤ wr.heap.size := Nat.le_trans hbX.size (by have := hS.2.2; omega)
      exact ⟨u, rfl, own_low ho hlow, hbX.trans ((by rw [hg]; exact hbw : Below w1.heap.size w1 w5).mono hbX.size)⟩
end Go.Proofs.Ytiajpjkkopdmgaa.schema
/- Worlds in which two forms, two schemas have been boxed. No condition. -/
namespace Go.Proofs.Ytiajpjkkopdmgaa.schema
open Go.RowKit
open Go.Proofs.Ytiajpjkkopdmgaa.field (Gives newB gives_from)
set_option linter.unusedVariables false

/-- the world in which two forms have been boxed -/
def WM2 (i : Int) (a : Option Addr) (L : List field.Fd) (c : Nat) (j : Int) (b : Option Addr) (M : List field.Fd) (d : Nat) (w : World) : World := (w.alloc (.cells #[.int .i64 i, .slice a L.length c] 52)).alloc (.cells #[.int .i64 j, .slice b M.length d] 52)
theorem WM2.all (i : Int) (a : Option Addr) (L : List field.Fd) (c : Nat) (j : Int) (b : Option Addr) (M : List field.Fd) (d : Nat) (w w' : World) (hb : Below (WM2 i a L c j b M d w).heap.size (WM2 i a L c j b M d w) w') :
    w'.cell? ⟨w.heap.size, 0, none⟩ = some (.int .i64 i) ∧ w'.cell? ⟨w.heap.size, 1, none⟩ = some (.slice a L.length c) ∧ w'.cell? ⟨w.heap.size + 1, 0, none⟩ = some (.int .i64 j) ∧ w'.cell? ⟨w.heap.size + 1, 1, none⟩ = some (.slice b M.length d) ∧ Below w.heap.size w w' := by
  obtain ⟨h1, h2, h3⟩ := boxM i a L c w w' (below_out hb)
  obtain ⟨h4, h5, _⟩ := boxM j b M d (w.alloc (.cells #[.int .i64 i, .slice a L.length c] 52)) w' hb
  exact ⟨h1, h2, by simpa using h4, by simpa using h5, h3⟩
theorem forms_take (F : List Fm) (k : Nat) : (forms F).take k = forms (F.take k) := by unfold forms; rw [List.map_take]
/-- the world in which two schemas have been boxed -/
def WS2 (i : Int) (a : Option Addr) (L : List Fm) (c : Nat) (j : Int) (b : Option Addr) (M : List Fm) (d : Nat) (w : World) : World := (w.alloc (.cells #[.int .i64 i, .slice a L.length c] 24)).alloc (.cells #[.int .i64 j, .slice b M.length d] 24)
theorem WS2.all (i : Int) (a : Option Addr) (L : List Fm) (c : Nat) (j : Int) (b : Option Addr) (M : List Fm) (d : Nat) (w w' : World) (hb : Below (WS2 i a L c j b M d w).heap.size (WS2 i a L c j b M d w) w') :
    w'.cell? ⟨w.heap.size, 0, none⟩ = some (.int .i64 i) ∧ w'.cell? ⟨w.heap.size, 1, none⟩ = some (.slice a L.length c) ∧ w'.cell? ⟨w.heap.size + 1, 0, none⟩ = some (.int .i64 j) ∧ w'.cell? ⟨w.heap.size + 1, 1, none⟩ = some (.slice b M.length d) ∧ Below w.heap.size w w' := by
  obtain ⟨h1, h2, h3⟩ := boxS i a L c w w' (below_out hb)
  obtain ⟨h4, h5, _⟩ := boxS j b M d (w.alloc (.cells #[.int .i64 i, .slice a L.length c] 24)) w' hb
  exact ⟨h1, h2, by simpa using h4, by simpa using h5, h3⟩
end Go.Proofs.Ytiajpjkkopdmgaa.schema
/- Contracts of the reference of layer 13 (schema): SameForm, Same. No condition. -/
namespace Go.Proofs.Ytiajpjkkopdmgaa.schema
open Go.RowKit
open Go.Proofs.Ytiajpjkkopdmgaa.field (Gives newB gives_from)
set_option linter.unusedVariables false

theorem refSameForm_any (i : Int) (a : Option Addr) (c : Nat) (L : List field.Fd) (j : Int) (b : Option Addr) (d : Nat) (M : List field.Fd) (w : World) (h : field.Fds w a L) (h' : field.Fds w b M) (hL : L.length ≤ maxLen) (hM : M.length ≤ maxLen) :
    Calls Try.prog 16 #[.agg #[.int .i64 i, .slice a L.length c], .agg #[.int .i64 j, .slice b M.length d]] w (Gives (.bool (decide ((i, L) = (j, M)))) w) := by
  have hml : (L.length : Int) ≤ 9223372036854775807 := by unfold maxLen at hL; omega
  have hmm : (M.length : Int) ≤ 9223372036854775807 := by unfold maxLen at hM; omega
  have HX := hid (WM2.all i a L c j b M d w)
  have hw := (WM2.all i a L c j b M d w _ (Below.refl _ _)).2.2.2.2
  have HF := hid (h.below hw)
  have HG := hid (h'.below hw)
  have HW := hid hw
  obtain ⟨r, hr⟩ : ∃ r : Bool, Hid (decide ((i, L) = (j, M)) = r) := ⟨_, rfl⟩
  rw [hr.out]
  unfold Gives
  clear h h' hL hM hw
  unfold WM2 at HX HF HG HW
  by_cases hij : i = j
  · subst hij
    by_cases hlen : L.length = M.length
    · have HLEN := hid hlen
      rw [← hlen] at HX HF HG HW ⊢
      clear hlen hmm
      go_enter Try.func16, Try.ntmps16
      go_wp2
      generalize ((w.alloc (.cells #[.int .i64 i, .slice a L.length c] 52))).alloc (.cells #[.int .i64 i, .slice b L.length d] 52) = W0 at *
      go_loopw [5] (fun n wr => ∃ k : Nat, k ≤ L.length ∧ n = .int .i64 (k : Int) ∧ Hid (L.take k = M.take k) ∧ Hid (Below W0.heap.size W0 wr)) (fun n _ => L.length - (intOf n).toNat)
      case atStart => exact ⟨0, Nat.zero_le _, rfl, hid rfl, hid (Below.refl _ _)⟩
      case round =>
        obtain ⟨k, hk, rfl, HEQ, HB⟩ := hrel
        obtain ⟨z0, z1, z2, z3, hbo⟩ := HX.out _ HB.out
        by_cases hlt : k < L.length
        · obtain ⟨g, off, p, rfl, hbl, hp, c0, c1, c2, c3, c4⟩ := field_at HF.out HB.out hlt
          obtain ⟨g', off', q, rfl, hbl', hq, d0, d1, d2, d3, d4⟩ := field_at HG.out HB.out (k := k) (by rw [← HLEN.out]; exact hlt)
          have i1 : (k : Int) < L.length := by omega
          have HS := hid (eq_take_succ hp hq)
          have hne := fun W => neq_fd p q W
          have HNE := hid (fun (hpq : ¬ p = q) => show ¬ L = M from fun e => by rw [e] at hp; exact hpq (Option.some.inj (hp.symm.trans hq)))
          clear hp hq
          by_cases hpq : p = q
          · rw [decide_eq_true hpq] at hne
            have HPQ := hid hpq
            clear hpq
            go_wp2
            go_quiet (fail)
            go_wp2
            exact ⟨⟨k + 1, by omega, by go_num, hid (HS.out.2 ⟨HEQ.out, HPQ.out⟩), hid (below_drewN HB.out _)⟩, by simp [intOf]; omega⟩
          · rw [decide_eq_false hpq] at hne
            obtain rfl : false = r := by rw [← hr.out]; exact (decide_eq_false (fun e => HNE.out hpq (Prod.mk.inj e).2)).symm
            clear hpq
            go_wp2
            go_quiet (fail)
            go_wp2
            go_ret
            exact ⟨rfl, below_drewN hbo _⟩
        · obtain rfl : k = L.length := by omega
          obtain rfl : true = r := by
            rw [← hr.out]
            have := HEQ.out
            rw [List.take_of_length_le (Nat.le_refl _), List.take_of_length_le (by rw [HLEN.out]; exact Nat.le_refl _)] at this
            exact (decide_eq_true (by rw [this])).symm
          go_wp2
          go_ret
          exact ⟨rfl, hbo⟩
    · obtain rfl : false = r := by rw [← hr.out]; exact (decide_eq_false (fun e => hlen (by rw [(Prod.mk.inj e).2]))).symm
      have hd : ((L.length : Int) == (M.length : Int)) = false := by rw [beq_eq_false_iff_ne]; omega
      clear hlen
      go_enter Try.func16, Try.ntmps16
      go_wp2
      go_ret
      exact ⟨rfl, HW.out⟩
  · obtain rfl : false = r := by rw [← hr.out]; exact (decide_eq_false (fun e => hij (Prod.mk.inj e).1)).symm
    have hd : (i == j) = false := by rw [beq_eq_false_iff_ne]; exact hij
    clear hij
    go_enter Try.func16, Try.ntmps16
    go_wp2
    go_ret
    exact ⟨rfl, HW.out⟩
theorem refSame_any (i : Int) (a : Option Addr) (c : Nat) (L : List Fm) (j : Int) (b : Option Addr) (d : Nat) (M : List Fm) (w : World) (h : FmL w a L) (h' : FmL w b M) (hL : L.length ≤ maxLen) (hM : M.length ≤ maxLen) :
    Calls Try.prog 10 #[.agg #[.int .i64 i, .slice a L.length c], .agg #[.int .i64 j, .slice b M.length d]] w (Gives (.bool (decide (i = j ∧ forms L = forms M))) w) := by
  have hml : (L.length : Int) ≤ 9223372036854775807 := by unfold maxLen at hL; omega
  have hmm : (M.length : Int) ≤ 9223372036854775807 := by unfold maxLen at hM; omega
  have HX := hid (WS2.all i a L c j b M d w)
  have hw := (WS2.all i a L c j b M d w _ (Below.refl _ _)).2.2.2.2
  have HF := hid (h.below hw)
  have HG := hid (h'.below hw)
  have HW := hid hw
  obtain ⟨r, hr⟩ : ∃ r : Bool, Hid (decide (i = j ∧ forms L = forms M) = r) := ⟨_, rfl⟩
  rw [hr.out]
  unfold Gives
  clear h h' hL hM hw
  unfold WS2 at HX HF HG HW
  by_cases hij : i = j
  · subst hij
    by_cases hlen : L.length = M.length
    · have HLEN := hid hlen
      rw [← hlen] at HX HF HG HW ⊢
      clear hlen hmm
      go_enter Try.func10, Try.ntmps10
      go_wp2
      generalize ((w.alloc (.cells #[.int .i64 i, .slice a L.length c] 24))).alloc (.cells #[.int .i64 i, .slice b L.length d] 24) = W0 at *
      go_loopw [5] (fun n wr => ∃ k : Nat, k ≤ L.length ∧ n = .int .i64 (k : Int) ∧ Hid ((forms L).take k = (forms M).take k) ∧ Hid (Below W0.heap.size W0 wr)) (fun n _ => L.length - (intOf n).toNat)
      case atStart => exact ⟨0, Nat.zero_le _, rfl, hid rfl, hid (Below.refl _ _)⟩
      case round =>
        obtain ⟨k, hk, rfl, HEQ, HB⟩ := hrel
        by_cases hlt : k < L.length
        · obtain ⟨g, off, p, rfl, hbl, hp, c0, c1, hfp, hlp⟩ := form_at HF.out (below_drew HB.out) hlt
          obtain ⟨g', off', q, rfl, hbl', hq, d0, d1, hfq, hlq⟩ := form_at HG.out (below_drew HB.out) (k := k) (by rw [← HLEN.out]; exact hlt)
          obtain ⟨z0, z1, z2, z3, hbo⟩ := HX.out _ (below_drew HB.out)
          obtain ⟨y0, y1, y2, y3, _⟩ := HX.out _ HB.out
          have i1 : (k : Int) < L.length := by omega
          have HS := hid (eq_take_succ (forms_at hp) (forms_at hq))
          have HNE := hid (fun (hpq : ¬ p.p = q.p) => show ¬ forms L = forms M from fun e => by have h1 := forms_at hp; rw [e] at h1; exact hpq (Option.some.inj (h1.symm.trans (forms_at hq))))
          obtain ⟨i', x, xc, P⟩ := p
          obtain ⟨j', y, yc, R⟩ := q
          simp only [Fm.p] at HS HNE c0 c1 d0 d1 hfp hfq hlp hlq
          have cS := refSameForm_any i' x xc P j' y yc R wr.drew hfp hfq hlp hlq
          have HD := hid (fun w' (hb : Below wr.drew.heap.size wr.drew w') => (⟨(hb.cell (p := ⟨g, off + k * 2, none⟩) hbl).trans c0, (hb.cell (p := ⟨g, off + k * 2 + 1, none⟩) hbl).trans c1, (hb.cell (p := ⟨g', off' + k * 2, none⟩) hbl').trans d0, (hb.cell (p := ⟨g', off' + k * 2 + 1, none⟩) hbl').trans d1⟩ : w'.cell? ⟨g, off + k * 2, none⟩ = some (.int .i64 i') ∧ w'.cell? ⟨g, off + k * 2 + 1, none⟩ = some (.slice x P.length xc) ∧ w'.cell? ⟨g', off' + k * 2, none⟩ = some (.int .i64 j') ∧ w'.cell? ⟨g', off' + k * 2 + 1, none⟩ = some (.slice y R.length yc)))
          clear hp hq hfp hfq hlp hlq
          by_cases hpq : (i', P) = (j', R)
          · rw [decide_eq_true hpq] at cS
            have HPQ := hid hpq
            clear hpq
            go_wp2
            go_region_held3 (fun w' => w'.cell? ⟨w.heap.size, 1, none⟩ = some (.slice (some ⟨g, off, none⟩) L.length c) ∧ w'.cell? ⟨w.heap.size + 1, 1, none⟩ = some (.slice (some ⟨g', off', none⟩) L.length d) ∧ w'.cell? ⟨g, off + k * 2, none⟩ = some (.int .i64 i') ∧ w'.cell? ⟨g, off + k * 2 + 1, none⟩ = some (.slice x P.length xc) ∧ w'.cell? ⟨g', off' + k * 2, none⟩ = some (.int .i64 j') ∧ w'.cell? ⟨g', off' + k * 2 + 1, none⟩ = some (.slice y R.length yc)) (first | assumption | go_keep) (first
              | (go_at_call 16; (with_reducible refine cS.mono ?_); rintro e w3 ⟨rfl, hb3⟩; obtain ⟨e0, e1, e2, e3⟩ := HD.out w3 hb3; have hbw := (below_drew HB.out).trans (hb3.mono (below_drew HB.out).size); obtain ⟨y0, y1, y2, y3, hbo2⟩ := HX.out w3 hbw))
            go_wp2
            exact ⟨⟨k + 1, by omega, by go_num, hid (HS.out.2 ⟨HEQ.out, HPQ.out⟩), hid hbw⟩, by simp [intOf]; omega⟩
          · rw [decide_eq_false hpq] at cS
            obtain rfl : false = r := by rw [← hr.out]; exact (decide_eq_false (fun e => HNE.out hpq e.2)).symm
            clear hpq
            go_wp2
            go_region_held3 (fun w' => w'.cell? ⟨w.heap.size, 1, none⟩ = some (.slice (some ⟨g, off, none⟩) L.length c) ∧ w'.cell? ⟨w.heap.size + 1, 1, none⟩ = some (.slice (some ⟨g', off', none⟩) L.length d) ∧ w'.cell? ⟨g, off + k * 2, none⟩ = some (.int .i64 i') ∧ w'.cell? ⟨g, off + k * 2 + 1, none⟩ = some (.slice x P.length xc) ∧ w'.cell? ⟨g', off' + k * 2, none⟩ = some (.int .i64 j') ∧ w'.cell? ⟨g', off' + k * 2 + 1, none⟩ = some (.slice y R.length yc)) (first | assumption | go_keep) (first
              | (go_at_call 16; (with_reducible refine cS.mono ?_); rintro e w3 ⟨rfl, hb3⟩; obtain ⟨e0, e1, e2, e3⟩ := HD.out w3 hb3; have hbw := (below_drew HB.out).trans (hb3.mono (below_drew HB.out).size); obtain ⟨y0, y1, y2, y3, hbo2⟩ := HX.out w3 hbw))
            go_wp2
            go_ret
            exact ⟨rfl, hbo2⟩
        · obtain rfl : k = L.length := by omega
          obtain ⟨z0, z1, z2, z3, hbo⟩ := HX.out _ HB.out
          obtain rfl : true = r := by
            rw [← hr.out]
            have := HEQ.out
            rw [List.take_of_length_le (by rw [forms_length]; exact Nat.le_refl _), List.take_of_length_le (by rw [forms_length, HLEN.out]; exact Nat.le_refl _)] at this
            exact (decide_eq_true (by first | exact ⟨rfl, this⟩ | exact ⟨trivial, this⟩)).symm
          go_wp2
          go_ret
          exact ⟨rfl, hbo⟩
    · obtain rfl : false = r := by rw [← hr.out]; exact (decide_eq_false (fun e => hlen (by rw [← forms_length, e.2, forms_length]))).symm
      have hd : ((L.length : Int) == (M.length : Int)) = false := by rw [beq_eq_false_iff_ne]; omega
      clear hlen
      go_enter Try.func10, Try.ntmps10
      go_wp2
      go_ret
      exact ⟨rfl, HW.out⟩
  · obtain rfl : false = r := by rw [← hr.out]; exact (decide_eq_false (fun e => hij e.1)).symm
    have hd : (i == j) = false := by rw [beq_eq_false_iff_ne]; exact hij
    clear hij
    go_enter Try.func10, Try.ntmps10
    go_wp2
    go_ret
    exact ⟨rfl, HW.out⟩
end Go.Proofs.Ytiajpjkkopdmgaa.schema
