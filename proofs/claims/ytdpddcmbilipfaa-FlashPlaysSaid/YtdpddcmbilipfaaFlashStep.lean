/- What an act can do to the words of a flash: a Program sets no bit, an Erase takes none, and neither touches anything else. No condition. -/
import Derived.Test.YtdpddcmbilipfaaFlashDo
namespace Go.Proofs.Ytdpddcmbilipfaa.flash
open Go.RowKit Go.Proofs.Ytdpddcmbilipfaa.word
set_option linter.unusedVariables false

/-- a quiet call behind a region that drew -/
theorem quietAt2 {P : Program} {f : FuncId} {args : Array Value} {w : World} {n m : Nat} {v : Value} (h : Calls P f args (w.drewN (n + m)) (Quiet v (w.drewN (n + m)))) : Calls P f args (w.drewN (n + m)) fun e w'' => e = .returned v ∧ ∃ k, w'' = w.drewN (n + k) :=
  h.mono fun _ _ ⟨he, k, hk⟩ => ⟨he, m + k, by rw [hk, World.drewN_drewN, Nat.add_assoc]⟩
theorem clr_none {a b : Nat} (ha : a < 4294967296) (hb : b < 4294967296) (h : ∀ i, a.testBit i = true → b.testBit i = true) : clr a b = 0 := by
  apply Nat.eq_of_testBit_eq
  intro i
  rw [bit_clr a b i ha hb, Nat.zero_testBit]
  cases h1 : a.testBit i
  · rfl
  · rw [h i h1]; rfl
theorem clr_self {a : Nat} (ha : a < 4294967296) : clr a a = 0 := clr_none ha ha fun _ h => h
theorem clr_clr {a b : Nat} (ha : a < 4294967296) (hb : b < 4294967296) : clr (clr a b) a = 0 := by
  refine clr_none (clr_lt a b ha) ha fun i h => ?_
  rw [bit_clr a b i ha hb] at h
  revert h
  cases a.testBit i <;> simp
theorem clr_or {a b : Nat} (ha : a < 4294967296) (hb : b < 4294967296) : clr a (a ||| b) = 0 := by
  refine clr_none ha (Nat.or_lt_two_pow (n := 32) ha hb) fun i h => ?_
  rw [Nat.testBit_or, h]; rfl
theorem clr_blank (a : Nat) : clr a 4294967295 = 0 := by simp [clr]
/-- what an act has done to the words -/
inductive Does (F : Fl) (k A : Int) (X : Nat) (G : Fl) (z : Int) : Prop where
  | none (hc : G.count = F.count) (hw : G.ws = F.ws)
  | word (a v : Nat) (hc : G.count = F.count + 1) (hd : F.dark = false) (hz : z = 0 ∨ z = 10) (hk : k = 0 ∨ k = 1) (hA : A = (a : Int)) (ha : a < F.ws.length) (hw : G.ws = F.ws.set a v) (hv : v < 4294967296) (hcl : clr v (F.ws.getD a 0) = 0) (hx : z = 0 → v = X)
  | sector (s : Nat) (f : Nat → Nat → Nat) (hc : G.count = F.count + 1) (hd : F.dark = false) (hz : z = 0 ∨ z = 10) (hk : k = 2) (hA : A = (s : Int)) (hs : s < F.worn.length) (hw : G.ws = run f (s * F.long) F.long F.ws) (hcl : ∀ i x, x < 4294967296 → clr x (f i x) = 0) (hx : z = 0 → f = blank)
theorem program_does {F : Fl} (ok : F.Ok) (A : Int) (X : Nat) (hX : X < 4294967296) {k : Int} (hk : k = 0 ∨ k = 1) : Does F k A X (F.program A X).2 (F.program A X).1 := by
  by_cases hd : F.dark = true
  · rw [Fl.program, if_pos hd]; exact .none rfl rfl
  by_cases h0 : A < 0 ∨ (F.ws.length : Int) ≤ A
  · rw [Fl.program, if_neg hd, if_pos h0]; exact .none rfl rfl
  obtain ⟨a, rfl⟩ := Int.eq_ofNat_of_zero_le (show 0 ≤ A by omega)
  by_cases hcl : clr X (F.ws.getD a 0) ≠ 0
  · rw [Fl.program, if_neg hd, if_neg h0, Int.toNat_natCast, if_pos hcl]; exact .none rfl rfl
  have hu := getD_lt ok.w (by decide) a
  have hd' : F.dark = false := by simpa using hd
  cases ht : tears F.fuse with
  | some M =>
    rw [Fl.program, if_neg hd, if_neg h0, Int.toNat_natCast, if_neg hcl, ht]
    have hm := maskAt_lt M 0 (F.tears_m ok ht).2
    exact .word a _ rfl hd' (.inr rfl) hk rfl (by omega) rfl (clr_lt _ _ hu) (clr_clr hu (clr_lt _ _ hm)) (fun h => by cases h)
  | none =>
    rw [Fl.program, if_neg hd, if_neg h0, Int.toNat_natCast, if_neg hcl, ht]
    exact .word a X rfl hd' (.inl rfl) hk rfl (by omega) rfl hX (by simpa using hcl) (fun _ => rfl)
theorem erase_does {F : Fl} (ok : F.Ok) (A : Int) (X : Nat) : Does F 2 A X (F.erase A).2 (F.erase A).1 := by
  by_cases hd : F.dark = true
  · rw [Fl.erase, if_pos hd]; exact .none rfl rfl
  by_cases h0 : A < 0 ∨ (F.worn.length : Int) ≤ A
  · rw [Fl.erase, if_neg hd, if_pos h0]; exact .none rfl rfl
  obtain ⟨s, rfl⟩ := Int.eq_ofNat_of_zero_le (show 0 ≤ A by omega)
  have hd' : F.dark = false := by simpa using hd
  cases ht : tears F.fuse with
  | some M =>
    rw [Fl.erase, if_neg hd, if_neg h0, ht]
    have hm := (F.tears_m ok ht).2
    exact .sector s _ rfl hd' (.inr rfl) rfl rfl (by omega) rfl (fun i x hx => clr_or hx (maskAt_lt M i hm)) (fun h => by cases h)
  | none =>
    rw [Fl.erase, if_neg hd, if_neg h0, ht]
    exact .sector s _ rfl hd' (.inl rfl) rfl rfl (by omega) rfl (fun i x hx => clr_blank x) (fun _ => rfl)
theorem step_does {F : Fl} (ok : F.Ok) (k A : Int) (X : Nat) (M : List Nat) (hX : X < 4294967296) : Does F k A X (step F k A X M).2 (step F k A X M).1.2 := by
  unfold step
  by_cases k2 : k = 2
  · subst k2; rw [if_pos rfl]; exact erase_does ok A X
  rw [if_neg k2]
  by_cases k3 : k = 3
  · rw [if_pos k3]; exact .none rfl rfl
  rw [if_neg k3]
  by_cases k4 : k = 4
  · rw [if_pos k4]; exact .none rfl rfl
  rw [if_neg k4]
  by_cases k5 : k = 5
  · rw [if_pos k5]; exact .none rfl rfl
  rw [if_neg k5]
  by_cases k0 : k = 0 ∨ k = 1
  · rw [if_pos k0]; exact program_does ok A X hX k0
  · rw [if_neg k0]; exact .none rfl rfl
/-- the shape stands -/
def Shape (F G : Fl) : Prop := G.long = F.long ∧ G.ws.length = F.ws.length ∧ G.worn.length = F.worn.length
theorem step_shape (F : Fl) (k A : Int) (X : Nat) (M : List Nat) : Shape F (step F k A X M).2 := by
  have h1 : Shape F (F.erase A).2 := by
    unfold Fl.erase
    split
    · exact ⟨rfl, rfl, rfl⟩
    · split
      · exact ⟨rfl, rfl, rfl⟩
      · split
        · exact ⟨rfl, run_length _ _ _ _, Fl.worn1_length F _⟩
        · exact ⟨rfl, run_length _ _ _ _, Fl.worn1_length F _⟩
  have h2 : Shape F (F.program A X).2 := by
    unfold Fl.program
    split
    · exact ⟨rfl, rfl, rfl⟩
    · split
      · exact ⟨rfl, rfl, rfl⟩
      · split
        · exact ⟨rfl, rfl, rfl⟩
        · split
          · exact ⟨rfl, List.length_set, rfl⟩
          · exact ⟨rfl, List.length_set, rfl⟩
  unfold step
  split
  · exact h1
  · split
    · exact ⟨rfl, rfl, rfl⟩
    · split
      · exact ⟨rfl, rfl, rfl⟩
      · split
        · exact ⟨rfl, rfl, rfl⟩
        · split
          · exact h2
          · exact ⟨rfl, rfl, rfl⟩
end Go.Proofs.Ytdpddcmbilipfaa.flash
