/- Contract of the law file's do of layer 7 (flash), for every act whose masks lie beside the flash. No condition but a flash with fewer than 2^62 writes. -/
import Derived.Test.YtdpddcmbilipfaaFlashErase
import Derived.Test.YtdpddcmbilipfaaFlashArm
namespace Go.Proofs.Ytdpddcmbilipfaa.flash
open Go.RowKit Go.Proofs.Ytdpddcmbilipfaa.word
set_option linter.unusedVariables false

/-- what an act makes of a flash, and what it answers -/
def step (F : Fl) (k A : Int) (X : Nat) (M : List Nat) : (Nat × Int) × Fl :=
  if k = 2 then ((0, (F.erase A).1), (F.erase A).2) else if k = 3 then (F.read A, F) else if k = 4 then ((0, 0), F.arm A M) else if k = 5 then ((0, 0), F.power)
  else if k = 0 ∨ k = 1 then ((0, (F.program A X).1), (F.program A X).2) else ((0, 0), F)
theorem step_ok {F : Fl} (h : F.Ok) {k A : Int} {X : Nat} {M : List Nat} (hA : A ≤ 9223372036854775807) (hX : X < 4294967296) (hl : M.length ≤ 140737488355328) (hM : ∀ x ∈ M, x < 4294967296) : (step F k A X M).2.Ok := by
  unfold step
  split
  · exact h.erase A
  · split
    · exact h
    · split
      · exact h.arm hA hl hM
      · split
        · exact h.power
        · split
          · exact h.program A hX
          · exact h
theorem step_count (F : Fl) (k A : Int) (X : Nat) (M : List Nat) : F.count ≤ (step F k A X M).2.count ∧ (step F k A X M).2.count ≤ F.count + 1 := by
  have h1 : F.count ≤ (F.erase A).2.count ∧ (F.erase A).2.count ≤ F.count + 1 := by
    unfold Fl.erase
    split
    · exact ⟨Nat.le_refl _, Nat.le_succ _⟩
    · split
      · exact ⟨Nat.le_refl _, Nat.le_succ _⟩
      · split <;> exact ⟨Nat.le_succ _, Nat.le_refl _⟩
  have h2 : F.count ≤ (F.program A X).2.count ∧ (F.program A X).2.count ≤ F.count + 1 := by
    unfold Fl.program
    split
    · exact ⟨Nat.le_refl _, Nat.le_succ _⟩
    · split
      · exact ⟨Nat.le_refl _, Nat.le_succ _⟩
      · split
        · exact ⟨Nat.le_refl _, Nat.le_succ _⟩
        · split <;> exact ⟨Nat.le_succ _, Nat.le_refl _⟩
  unfold step
  split
  · exact h1
  · split
    · exact ⟨Nat.le_refl _, Nat.le_succ _⟩
    · split
      · exact ⟨Nat.le_refl _, Nat.le_succ _⟩
      · split
        · exact ⟨Nat.le_refl _, Nat.le_succ _⟩
        · split
          · exact h2
          · exact ⟨Nat.le_refl _, Nat.le_succ _⟩
/-- the call answers v, the flash becomes F; only what the flash had in S turns -/
def Did (S : Nat → Prop) (b : Nat) (F : Fl) (v : Value) (w : World) (e : Ending) (w' : World) : Prop :=
  e = .returned v ∧ ∃ S', FlashAt S' b F w' ∧ (∀ x, S' x → x < w'.heap.size ∧ (S x ∨ w.heap.size ≤ x)) ∧ Only S w w'
theorem At.clip {S : Nat → Prop} {b : Nat} {F : Fl} {ca cb cm : Value} {bw cw bv cv : Nat} {w : World} (h : At S b F ca cb cm bw cw bv cv w) : At (fun x => S x ∧ x < w.heap.size) b F ca cb cm bw cw bv cv w := by
  refine ⟨h.blk, ?_, h.ws, h.wn, h.n1, h.n2, h.n3, ⟨h.s1, h.blk.lt⟩, ⟨h.s2, h.ws.lt⟩, ⟨h.s3, h.wn.lt⟩⟩
  have hf := h.fuse
  unfold FuseAt at hf ⊢
  split
  · rename_i e; rw [e] at hf; exact hf
  · rename_i n M e
    rw [e] at hf
    obtain ⟨h1, h2, a, c, h3, h0, h4, h5⟩ := hf
    refine ⟨h1, h2, a, c, h3, h0, h4, ?_⟩
    rcases h5 with hz | ⟨x, hx, h6, h7⟩
    · exact .inl hz
    · rcases h4.2 with hz | ⟨b', off, ha, hlt, _⟩
      · exact .inl hz
      · rw [hx] at ha
        cases ha
        exact .inr ⟨_, hx, ⟨h6, hlt⟩, h7⟩
theorem Turned.did {S : Nat → Prop} {b : Nat} {F G : Fl} {ca cb cm : Value} {bw cw bv cv : Nat} {w : World} (h : At S b F ca cb cm bw cw bv cv w) {v : Value} {e : Ending} {w' : World} (k : Turned S b G bw cw bv cv v w e w') : Did S b G v w e w' := by
  obtain ⟨he, ca', cb', cm', hA, hO⟩ := k
  exact ⟨he, _, ⟨_, _, _, _, _, _, _, hA.clip⟩, fun x hx => ⟨hx.2, .inl hx.1⟩, hO.mono fun x hx _ => h.mem x hx⟩
theorem Quiet.did {S : Nat → Prop} {b : Nat} {F : Fl} {w : World} (h : FlashAt S b F w) {v : Value} {e : Ending} {w' : World} (k : Quiet v w e w') : Did S b F v w e w' := by
  obtain ⟨he, n, rfl⟩ := k
  obtain ⟨ca, cb, cm, bw, cw, bv, cv, h⟩ := h
  exact ⟨he, _, ⟨_, _, _, _, _, _, _, (h.drewN n).clip⟩, fun x hx => ⟨hx.2, .inl hx.1⟩, (Only.refl _ _).drewN n⟩
section
variable {S : Nat → Prop} {b : Nat} {F : Fl} {w : World}
theorem program_did (h : FlashAt S b F w) (ok : F.Ok) (hc : F.count < 4611686018427387904) (a : Int) (x : Nat) (hx : x < 4294967296) :
    Calls Try.prog 25 #[.pointer (some ⟨b, 0, none⟩), .int .i64 a, .int .u32 x] w (Did S b (F.program a x).2 (.int .i64 (F.program a x).1) w) := by
  obtain ⟨ca, cb, cm, bw, cw, bv, cv, h⟩ := h
  exact (program_any h ok hc a x hx).mono fun e w' k => k.did h
theorem erase_did (h : FlashAt S b F w) (ok : F.Ok) (hc : F.count < 4611686018427387904) (s : Int) :
    Calls Try.prog 11 #[.pointer (some ⟨b, 0, none⟩), .int .i64 s] w (Did S b (F.erase s).2 (.int .i64 (F.erase s).1) w) := by
  obtain ⟨ca, cb, cm, bw, cw, bv, cv, h⟩ := h
  exact (erase_any h ok hc s).mono fun e w' k => k.did h
theorem power_did (h : FlashAt S b F w) : Calls Try.prog 24 #[.pointer (some ⟨b, 0, none⟩)] w (Did S b F.power (.tuple #[]) w) := by
  obtain ⟨ca, cb, cm, bw, cw, bv, cv, h⟩ := h
  exact (power_any h).mono fun e w' k => k.did h
theorem arm_did (h : FlashAt S b F w) (ok : F.Ok) (n : Int) (hn : n ≤ 9223372036854775807) (a : Option Addr) (len cap : Nat) (M : List Nat) (hr : Reads .u32 w a len M) (hlc : len ≤ cap) (hlen : len ≤ 140737488355328) (hcap : cap ≤ maxLen) (hsep : len = 0 ∨ ∃ x, a = some x ∧ ¬ S x.block) :
    Calls Try.prog 23 #[.pointer (some ⟨b, 0, none⟩), .int .i64 n, .slice a len cap] w (Did S b (F.arm n M) (.tuple #[]) w) := by
  obtain ⟨ca, cb, cm, bw, cw, bv, cv, h⟩ := h
  refine (arm_any h ok n hn a len cap M hr hlc hlen hcap hsep).mono ?_
  rintro e w' ⟨rfl, ⟨ca', cb', cm', hA⟩, hO⟩
  exact ⟨rfl, _, ⟨_, _, _, _, _, _, _, hA.clip⟩, fun x hx => ⟨hx.2, hx.1⟩, hO.mono fun x hx _ => h.mem x hx⟩
theorem read_quiet (h : FlashAt S b F w) (ok : F.Ok) (a : Int) : Calls Try.prog 22 #[.pointer (some ⟨b, 0, none⟩), .int .i64 a] w (Quiet (.tuple #[.int .u32 ((F.read a).1 : Nat), .int .i64 (F.read a).2]) w) := by
  obtain ⟨ca, cb, cm, bw, cw, bv, cv, h⟩ := h
  exact read_any h ok a
theorem Did.before {G : Fl} {v : Value} {w1 w' : World} {e : Ending} (hb : Below w.heap.size w w1) (k : Did S b G v w1 e w') : Did S b G v w e w' := by
  obtain ⟨he, S', h1, h2, h3⟩ := k
  exact ⟨he, S', h1, fun x hx => ⟨(h2 x hx).1, (h2 x hx).2.imp id fun h => Nat.le_trans hb.size h⟩, (Only.of hb).next h3 fun x hx _ => hx⟩
theorem Did.value {G : Fl} {v v' : Value} {w' : World} {e : Ending} (k : Did S b G v w e w') : Did S b G v' w (.returned v') w' := ⟨rfl, k.2⟩
end
/-- an act as a value -/
def actV (k A : Int) (X : Nat) (a : Option Addr) (len cap : Nat) : Value := .agg #[.int .i64 k, .int .i64 A, .int .u32 X, .slice a len cap]
theorem do_any {S : Nat → Prop} {b : Nat} {F : Fl} {w : World} (h : FlashAt S b F w) (ok : F.Ok) (hc : F.count < 4611686018427387904) (k A : Int) (X : Nat) (a : Option Addr) (len cap : Nat) (M : List Nat) (hA : A ≤ 9223372036854775807) (hX : X < 4294967296)
    (hr : Reads .u32 w a len M) (hlc : len ≤ cap) (hlen : len ≤ 140737488355328) (hcap : cap ≤ maxLen) (hsep : len = 0 ∨ ∃ x, a = some x ∧ ¬ S x.block) :
    Calls Try.prog 12 #[.pointer (some ⟨b, 0, none⟩), actV k A X a len cap] w (Did S b (step F k A X M).2 (.tuple #[.int .u32 ((step F k A X M).1.1 : Nat), .int .i64 (step F k A X M).1.2]) w) := by
  have hb : Below w.heap.size w (w.alloc (.cells #[.int .i64 k, .int .i64 A, .int .u32 X, .slice a len cap] 35)) := (Below.refl _ _).alloc (Nat.le_refl _) _
  have h1 := h.later hb
  have hpr := program_did h1 ok hc A X hX
  have her := erase_did h1 ok hc A
  have hre := read_quiet h1 ok A
  have har := arm_did h1 ok A hA a len cap M (hr.below hb) hlc hlen hcap hsep
  have hpo := power_did h1
  have HB := hid hb
  have H1 := hid h1
  clear h hr ok hsep h1 hb
  unfold actV step
  by_cases k2 : k = 2
  · subst k2
    rw [if_pos rfl]
    generalize (F.erase A).1 = z at *
    generalize (F.erase A).2 = G at *
    go_enter Try.func12, Try.ntmps12
    go_wp2_with (go_at_call 11; (with_reducible refine her.mono ?_); rintro e w1 ⟨rfl, hd⟩)
    go_ret2
    exact Did.before HB.out ⟨rfl, hd⟩
  rw [if_neg k2]
  by_cases k3 : k = 3
  · subst k3
    rw [if_pos rfl]
    generalize F.read A = z at *
    go_enter Try.func12, Try.ntmps12
    go_wp2_with (go_at_call 22; (with_reducible refine hre.mono ?_); rintro e w1 ⟨rfl, n, rfl⟩)
    go_ret2
    exact Did.before HB.out (Quiet.did H1.out ⟨rfl, n, rfl⟩)
  rw [if_neg k3]
  by_cases k4 : k = 4
  · subst k4
    rw [if_pos rfl]
    generalize F.arm A M = G at *
    go_enter Try.func12, Try.ntmps12
    go_wp2_with (go_at_call 23; (with_reducible refine har.mono ?_); rintro e w1 ⟨rfl, hd⟩)
    go_ret2
    exact Did.before HB.out ⟨rfl, hd⟩
  rw [if_neg k4]
  by_cases k5 : k = 5
  · subst k5
    rw [if_pos rfl]
    generalize F.power = G at *
    go_enter Try.func12, Try.ntmps12
    go_wp2_with (go_at_call 24; (with_reducible refine hpo.mono ?_); rintro e w1 ⟨rfl, hd⟩)
    go_ret2
    exact Did.before HB.out ⟨rfl, hd⟩
  rw [if_neg k5]
  by_cases k0 : k = 0 ∨ k = 1
  · rw [if_pos k0]
    generalize (F.program A X).1 = z at *
    generalize (F.program A X).2 = G at *
    rcases k0 with rfl | rfl
    all_goals
      go_enter Try.func12, Try.ntmps12
      go_wp2_with (go_at_call 25; (with_reducible refine hpr.mono ?_); rintro e w1 ⟨rfl, hd⟩)
      go_ret2
      exact Did.before HB.out ⟨rfl, hd⟩
  · rw [if_neg k0]
    have k0a : ¬ k = 0 := fun h => k0 (.inl h)
    have k0b : ¬ k = 1 := fun h => k0 (.inr h)
    clear k0 hpr her hre har hpo
    go_enter Try.func12, Try.ntmps12
    go_wp2
    go_ret2
    exact Did.before HB.out (Quiet.did H1.out ⟨rfl, 0, rfl⟩)
end Go.Proofs.Ytdpddcmbilipfaa.flash
