/- Contract of the law file's function awake of layer 7 (flash): it returns true. No condition. -/
import Derived.Test.YtdpddcmbilipfaaFlashDo
import Derived.Test.YtdpddcmbilipfaaFlashNew
namespace Go.Proofs.Ytdpddcmbilipfaa.flash
open Go.RowKit Go.Proofs.Ytdpddcmbilipfaa.word
set_option linter.unusedVariables false

/-- a flash of the call's own -/
def Live (w0 : World) (b : Nat) (F : Fl) (w : World) : Prop := ∃ S, FlashAt S b F w ∧ (∀ x, S x → w0.heap.size ≤ x ∧ x < w.heap.size) ∧ Below w0.heap.size w0 w
section
variable {w0 w w' : World} {b : Nat} {F G : Fl}
theorem Live.later (h : Live w0 b F w) (k : Below w.heap.size w w') : Live w0 b F w' := by
  obtain ⟨S, h1, h2, h3⟩ := h
  exact ⟨S, h1.later k, fun x hx => ⟨(h2 x hx).1, Nat.lt_of_lt_of_le (h2 x hx).2 k.size⟩, h3.trans (k.mono h3.size)⟩
theorem Live.did {S : Nat → Prop} {v : Value} {e : Ending} (h2 : ∀ x, S x → w0.heap.size ≤ x ∧ x < w.heap.size) (h3 : Below w0.heap.size w0 w) (k : Did S b G v w e w') : e = .returned v ∧ Live w0 b G w' := by
  obtain ⟨he, S', k1, k2, k3⟩ := k
  refine ⟨he, S', k1, fun x hx => ⟨?_, (k2 x hx).1⟩, h3.trans (k3.below h3.size fun x hx => (h2 x hx).1)⟩
  rcases (k2 x hx).2 with h | h
  · exact (h2 x h).1
  · have := h3.size; omega
theorem Live.program (h : Live w0 b F w) (ok : F.Ok) (hc : F.count < 4611686018427387904) (a : Int) (x : Nat) (hx : x < 4294967296) :
    Calls Try.prog 25 #[.pointer (some ⟨b, 0, none⟩), .int .i64 a, .int .u32 x] w fun e w' => e = .returned (.int .i64 (F.program a x).1) ∧ Live w0 b (F.program a x).2 w' := by
  obtain ⟨S, h1, h2, h3⟩ := h
  exact (program_did h1 ok hc a x hx).mono fun e w' k => Live.did h2 h3 k
theorem Live.erase (h : Live w0 b F w) (ok : F.Ok) (hc : F.count < 4611686018427387904) (s : Int) :
    Calls Try.prog 11 #[.pointer (some ⟨b, 0, none⟩), .int .i64 s] w fun e w' => e = .returned (.int .i64 (F.erase s).1) ∧ Live w0 b (F.erase s).2 w' := by
  obtain ⟨S, h1, h2, h3⟩ := h
  exact (erase_did h1 ok hc s).mono fun e w' k => Live.did h2 h3 k
theorem Live.arm (h : Live w0 b F w) (ok : F.Ok) (n : Int) (hn : n ≤ 9223372036854775807) (a : Option Addr) (len cap : Nat) (M : List Nat) (hr : Reads .u32 w a len M) (hlc : len ≤ cap) (hlen : len ≤ 140737488355328) (hcap : cap ≤ maxLen) (hsep : len = 0 ∨ ∃ x, a = some x ∧ (x.block < w0.heap.size ∨ w.heap.size ≤ x.block)) :
    Calls Try.prog 23 #[.pointer (some ⟨b, 0, none⟩), .int .i64 n, .slice a len cap] w fun e w' => e = .returned (.tuple #[]) ∧ Live w0 b (F.arm n M) w' := by
  obtain ⟨S, h1, h2, h3⟩ := h
  refine (arm_did h1 ok n hn a len cap M hr hlc hlen hcap (hsep.imp id fun ⟨x, hx, ho⟩ => ⟨x, hx, fun hs => ?_⟩)).mono fun e w' k => Live.did h2 h3 k
  have := h2 _ hs
  omega
theorem Live.do (h : Live w0 b F w) (ok : F.Ok) (hc : F.count < 4611686018427387904) (k A : Int) (X : Nat) (a : Option Addr) (len cap : Nat) (M : List Nat) (hA : A ≤ 9223372036854775807) (hX : X < 4294967296)
    (hr : Reads .u32 w a len M) (hlc : len ≤ cap) (hlen : len ≤ 140737488355328) (hcap : cap ≤ maxLen) (hsep : len = 0 ∨ ∃ x, a = some x ∧ x.block < w0.heap.size) :
    Calls Try.prog 12 #[.pointer (some ⟨b, 0, none⟩), actV k A X a len cap] w fun e w' => e = .returned (.tuple #[.int .u32 ((step F k A X M).1.1 : Nat), .int .i64 (step F k A X M).1.2]) ∧ Live w0 b (step F k A X M).2 w' := by
  obtain ⟨S, h1, h2, h3⟩ := h
  refine (do_any h1 ok hc k A X a len cap M hA hX hr hlc hlen hcap (hsep.imp id fun ⟨x, hx, ho⟩ => ⟨x, hx, fun hs => ?_⟩)).mono fun e w' k => Live.did h2 h3 k
  have := h2 _ hs
  omega
theorem Live.words (h : Live w0 b F w) (ok : F.Ok) : Calls Try.prog 19 #[.pointer (some ⟨b, 0, none⟩)] w fun e w' => ∃ g cap, e = .returned (.slice (some ⟨g, 0, none⟩) F.ws.length cap) ∧ w.heap.size ≤ g ∧ Row w' 32 .u32 g cap F.ws ∧ Below w.heap.size w w' ∧ Live w0 b F w' := by
  obtain ⟨S, ⟨ca, cb, cm, bw, cw, bv, cv, h1⟩, h2, h3⟩ := h
  refine (words_any h1 ok).mono ?_
  rintro e w' ⟨g, cap, he, hg, hr, hb⟩
  exact ⟨g, cap, he, hg, hr, hb, Live.later ⟨S, ⟨_, _, _, _, _, _, _, h1⟩, h2, h3⟩ hb⟩
theorem Live.gone (h : Live w0 b F w) : Calls Try.prog 14 #[.pointer (some ⟨b, 0, none⟩)] w (Quiet (.bool F.dark) w) := by
  obtain ⟨S, ⟨ca, cb, cm, bw, cw, bv, cv, h1⟩, h2, h3⟩ := h
  exact gone_any b _ w h1.cell.2.2.2.2.2.2.2
theorem Live.writes (h : Live w0 b F w) : Calls Try.prog 15 #[.pointer (some ⟨b, 0, none⟩)] w (Quiet (.int .i64 F.count) w) := by
  obtain ⟨S, ⟨ca, cb, cm, bw, cw, bv, cv, h1⟩, h2, h3⟩ := h
  exact writes_any b _ w h1.cell.2.2.2.2.2.2.1
theorem Live.wear (h : Live w0 b F w) (ok : F.Ok) (s : Int) : Calls Try.prog 16 #[.pointer (some ⟨b, 0, none⟩), .int .i64 s] w (Quiet (.int .i64 (wearAt F.worn s : Nat)) w) := by
  obtain ⟨S, ⟨ca, cb, cm, bw, cw, bv, cv, h1⟩, h2, h3⟩ := h
  exact wear_any b bv cv F.worn s w h1.cell.2.2.2.2.2.1 h1.wn ok.s2
theorem Live.size (h : Live w0 b F w) : Calls Try.prog 20 #[.pointer (some ⟨b, 0, none⟩)] w (Quiet (.tuple #[.int .i64 (F.worn.length : Int), .int .i64 (F.long : Int)]) w) := by
  obtain ⟨S, ⟨ca, cb, cm, bw, cw, bv, cv, h1⟩, h2, h3⟩ := h
  exact size_any b F.long F.worn.length cv _ w h1.cell.2.2.2.2.1 h1.cell.2.2.2.2.2.1
theorem new_live (s l : Nat) (h1 : 1 ≤ s) (h2 : s ≤ 512) (h3 : 1 ≤ l) (h4 : l ≤ 1024) (hb : Below w0.heap.size w0 w) :
    Calls Try.prog 8 #[.int .i64 s, .int .i64 l] w fun e w' => ∃ b, e = .returned (.tuple #[.pointer (some ⟨b, 0, none⟩), .int .i64 0]) ∧ Live w0 b (Fl.fresh s l) w' := by
  refine (new_any s l h1 h2 h3 h4 w).mono ?_
  rintro e w' ⟨b, he, ⟨ca, cb, cm, bw, cw, bv, cv, hA⟩, hb2⟩
  exact ⟨b, he, _, ⟨_, _, _, _, _, _, _, hA.clip⟩, fun x hx => ⟨Nat.le_trans hb.size hx.1, hx.2⟩, hb.trans (hb2.mono hb.size)⟩
end
def A0 : Fl := Fl.fresh 2 4
def A1 : Fl := (A0.program 0 5).2
def A2 : Fl := (A1.program 0 1).2
def A3 : Fl := A2.arm 0 [4294967295]
def A4 : Fl := (A3.erase 0).2
theorem a0_ok : A0.Ok := Fl.Ok.fresh (by decide) (by decide) (by decide) (by decide)
theorem a1_ok : A1.Ok := a0_ok.program 0 (by decide)
theorem a2_ok : A2.Ok := a1_ok.program 0 (by decide)
theorem a3_ok : A3.Ok := a2_ok.arm (by decide) (by decide) (by decide)
theorem a4_ok : A4.Ok := a3_ok.erase 0
set_option maxRecDepth 8000 in
theorem awake_any (w : World) : Calls Try.prog 7 #[] w (Yes w) := by
  have c0 : Calls Try.prog 8 #[.int .i64 2, .int .i64 4] w fun e w' => ∃ b, e = .returned (.tuple #[.pointer (some ⟨b, 0, none⟩), .int .i64 0]) ∧ Live w b A0 w' := new_live (w0 := w) (w := w) 2 4 (by decide) (by decide) (by decide) (by decide) (Below.refl _ _)
  have c1 : ∀ b w', Live w b A0 w' → Calls Try.prog 25 #[.pointer (some ⟨b, 0, none⟩), .int .i64 0, .int .u32 5] w' fun e w2 => e = .returned (.int .i64 0) ∧ Live w b A1 w2 := fun b w' h => by
    have := Live.program h a0_ok (by decide) 0 5 (by decide)
    rwa [show (A0.program 0 5).1 = 0 by decide +kernel] at this
  have c2 : ∀ b w', Live w b A1 w' → Calls Try.prog 25 #[.pointer (some ⟨b, 0, none⟩), .int .i64 0, .int .u32 7] w' fun e w2 => e = .returned (.int .i64 11) ∧ Live w b A1 w2 := fun b w' h => by
    have := Live.program h a1_ok (by decide +kernel) 0 7 (by decide)
    rwa [show (A1.program 0 7).1 = 11 by decide +kernel, show (A1.program 0 7).2 = A1 by kernel_rfl] at this
  have c3 : ∀ b w', Live w b A1 w' → Calls Try.prog 25 #[.pointer (some ⟨b, 0, none⟩), .int .i64 0, .int .u32 1] w' fun e w2 => e = .returned (.int .i64 0) ∧ Live w b A2 w2 := fun b w' h => by
    have := Live.program h a1_ok (by decide +kernel) 0 1 (by decide)
    rwa [show (A1.program 0 1).1 = 0 by decide +kernel] at this
  have c4 : ∀ b w', Live w b A2 w' → Calls Try.prog 23 #[.pointer (some ⟨b, 0, none⟩), .int .i64 0, .slice (some ⟨w'.heap.size, 0, none⟩) 1 1] (w'.alloc (.cells #[.int .u32 4294967295] 32)) fun e w2 => e = .returned (.tuple #[]) ∧ Live w b A3 w2 := fun b w' h => by
    obtain ⟨S, h1, h2, h3⟩ := h
    have hb : Below w'.heap.size w' (w'.alloc (.cells #[.int .u32 4294967295] 32)) := (Below.refl _ _).alloc (Nat.le_refl _) _
    have hr : Reads .u32 (w'.alloc (.cells #[.int .u32 4294967295] 32)) (some ⟨w'.heap.size, 0, none⟩) 1 [4294967295] :=
      (Block.new w' 32 [.int .u32 4294967295]).reads 0 [4294967295] (fun i hi => by
        have : i = 0 := by simp at hi; omega
        subst this
        rfl) 1 rfl
    refine (arm_did (h1.later hb) a2_ok 0 (by decide) _ 1 1 [4294967295] hr (Nat.le_refl _) (by decide) (by decide) (.inr ⟨_, rfl, fun hs => ?_⟩)).mono fun e w2 k =>
      Live.did (w0 := w) (fun x hx => ⟨(h2 x hx).1, Nat.lt_of_lt_of_le (h2 x hx).2 hb.size⟩) (h3.trans (hb.mono h3.size)) k
    have := (h2 _ hs).2
    exact absurd this (Nat.lt_irrefl _)
  have c5 : ∀ b w', Live w b A3 w' → Calls Try.prog 11 #[.pointer (some ⟨b, 0, none⟩), .int .i64 0] w' fun e w2 => e = .returned (.int .i64 10) ∧ Live w b A4 w2 := fun b w' h => by
    have := Live.erase h a3_ok (by decide +kernel) 0
    rwa [show (A3.erase 0).1 = 10 by decide +kernel] at this
  have c6 : ∀ b w', Live w b A4 w' → Calls Try.prog 19 #[.pointer (some ⟨b, 0, none⟩)] w' fun e w2 => ∃ g cap, e = .returned (.slice (some ⟨g, 0, none⟩) 8 cap) ∧ w2.cell? ⟨g, 0, none⟩ = some (.int .u32 4294967295) ∧ Live w b A4 w2 := fun b w' h => by
    refine (Live.words h a4_ok).mono ?_
    rintro e w2 ⟨g, cap, rfl, _, hr, _, hL⟩
    refine ⟨g, cap, rfl, ?_, hL⟩
    have := hr.get (i := 0) (by decide +kernel)
    rwa [show A4.ws.getD 0 0 = 4294967295 by decide +kernel] at this
  have c7 : ∀ b w', Live w b A4 w' → Calls Try.prog 14 #[.pointer (some ⟨b, 0, none⟩)] w' (Quiet (.bool true) w') := fun b w' h => by
    have := Live.gone h
    rwa [show A4.dark = true by decide +kernel] at this
  go_enter Try.func7, Try.ntmps7
  go_wp2_with (first
    | (go_at_call 8; (with_reducible refine c0.mono ?_); rintro e w1 ⟨b, rfl, h1⟩)
    | (go_at_call 25; (with_reducible refine (c1 _ _ h1).mono ?_); clear h1; rintro e w2 ⟨rfl, h2⟩)
    | (go_at_call 25; (with_reducible refine (c2 _ _ h2).mono ?_); clear h2; rintro e w3 ⟨rfl, h3⟩)
    | (go_at_call 25; (with_reducible refine (c3 _ _ h3).mono ?_); clear h3; rintro e w4 ⟨rfl, h4⟩)
    | (go_at_call 23; (with_reducible refine (c4 _ _ h4).mono ?_); clear h4; rintro e w5 ⟨rfl, h5⟩)
    | (go_at_call 11; (with_reducible refine (c5 _ _ h5).mono ?_); clear h5; rintro e w6 ⟨rfl, h6⟩)
    | (go_at_call 19; (with_reducible refine (c6 _ _ h6).mono ?_); clear h6; rintro e w7 ⟨g, cap, rfl, hc, h7⟩)
    | (go_at_call 14; (with_reducible refine (c7 _ _ h7).mono ?_); rintro e w8 ⟨rfl, m, rfl⟩))
  go_ret
  obtain ⟨S, _, _, hb⟩ := h7
  exact ⟨rfl, below_drewN hb _⟩
end Go.Proofs.Ytdpddcmbilipfaa.flash
