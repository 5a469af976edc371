/- A range over a function whose iterator keeps its state in cells: what turns between two rounds, what an iterator promises, and the law for the loop that uses it. No condition. -/
import Derived.Test.YtdlebjogbhgheaaDoorKit
import Derived.RangeFuncNested
import Derived.RangeFuncLeaves
import Derived.RangeFuncBound
namespace Go.Proofs.YtdlebjogbhgheaaDoor
open Go.RowKit
set_option linter.unusedVariables false

/-- from w to w' nothing has turned but blocks that Z names and blocks that are new -/
structure Turned (Z : Nat → Prop) (w w' : World) : Prop where
  os : w'.os = w.os
  tape : w'.tape = w.tape
  output : w'.output = w.output
  size : w.heap.size ≤ w'.heap.size
  block : ∀ k, k < w.heap.size → ¬ Z k → w'.heap[k]? = w.heap[k]?

theorem Turned.refl (Z : Nat → Prop) (w : World) : Turned Z w w := ⟨rfl, rfl, rfl, Nat.le_refl _, fun _ _ _ => rfl⟩
theorem Turned.trans {Z : Nat → Prop} {a b c : World} (h : Turned Z a b) (k : Turned Z b c) : Turned Z a c :=
  ⟨k.os.trans h.os, k.tape.trans h.tape, k.output.trans h.output, Nat.le_trans h.size k.size, fun i hi hz => (k.block i (Nat.lt_of_lt_of_le hi h.size) hz).trans (h.block i hi hz)⟩
theorem Turned.mono {Z Z' : Nat → Prop} {w w' : World} (h : Turned Z w w') (hz : ∀ k, k < w.heap.size → Z k → Z' k) : Turned Z' w w' :=
  ⟨h.os, h.tape, h.output, h.size, fun k hk hn => h.block k hk fun z => hn (hz k hk z)⟩
theorem Turned.of_below {Z : Nat → Prop} {B : Nat} {w w' : World} (h : Below B w w') (hz : ∀ k, k < w.heap.size → B ≤ k → Z k) : Turned Z w w' :=
  ⟨h.os, h.tape, h.output, h.size, fun k hk hn => h.block k (Nat.lt_of_not_le fun hb => hn (hz k hk hb))⟩
theorem Turned.new {Z : Nat → Prop} {w w' : World} (h : Below w.heap.size w w') : Turned Z w w' := .of_below h fun k hk hb => by omega
theorem Turned.below {Z : Nat → Prop} {B : Nat} {w w' : World} (h : Turned Z w w') (hB : B ≤ w.heap.size) (hz : ∀ k, k < B → ¬ Z k) : Below B w w' :=
  ⟨h.os, h.tape, h.output, h.size, fun k hk => h.block k (by omega) (hz k hk)⟩
theorem Turned.alloc {Z : Nat → Prop} (w : World) (o : Obj) : Turned Z w (w.alloc o) := .new ((Below.refl _ w).alloc (Nat.le_refl _) o)
theorem Turned.drew {Z : Nat → Prop} (w : World) : Turned Z w w.drew := ⟨rfl, rfl, rfl, Nat.le_refl _, fun _ _ _ => rfl⟩
theorem Turned.drewN {Z : Nat → Prop} (w : World) (n : Nat) : Turned Z w (w.drewN n) := ⟨rfl, rfl, rfl, Nat.le_refl _, fun _ _ _ => rfl⟩
theorem Turned.setCell {Z : Nat → Prop} (w : World) (p : Addr) (v : Value) (hz : Z p.block) : Turned Z w (w.setCell p v) := by
  refine ⟨rfl, rfl, rfl, ?_, fun k _ hn => Below.heap_setCell w p v k fun e => hn (e ▸ hz)⟩
  show w.heap.size ≤ (w.heap.modify _ _).size
  rw [Array.size_modify]; exact Nat.le_refl _
theorem Turned.putObj {Z : Nat → Prop} (w : World) (r : Nat) (o : Obj) (hz : Z r) : Turned Z w (w.putObj r o) :=
  ⟨rfl, rfl, rfl, by simp, fun k _ hn => World.putObj_heap_other fun e => hn (e ▸ hz)⟩
theorem Turned.grown {Z : Nat → Prop} {w w' : World} {row : Option Nat} (h : w.grownBy w' row) (hz : ∀ k, row = some k → k < w.heap.size → Z k) : Turned Z w w' :=
  ⟨h.os, h.tape, h.output, h.size, fun k hk hn => h.block k hk fun e => hn (hz k e.symm hk)⟩
theorem Turned.at {Z : Nat → Prop} {w w' : World} (h : Turned Z w w') {k : Nat} {o : Obj} (hk : w.heap[k]? = some o) (hn : ¬ Z k) : w'.heap[k]? = some o :=
  (h.block k (Array.getElem?_eq_some_iff.1 hk).1 hn).trans hk
theorem Turned.cell {Z : Nat → Prop} {w w' : World} (h : Turned Z w w') {p : Addr} {v : Value} (hc : w.cell? p = some v) (hn : ¬ Z p.block) : w'.cell? p = some v :=
  (World.cell?_of_block (h.block _ (World.block_lt_of_cell? w p hc) hn)).trans hc
theorem Turned.frozen {Z : Nat → Prop} {w w' : World} (h : Turned Z w w') {p : Addr} (hp : p.block < w.heap.size) (hn : ¬ Z p.block) : w'.frozen? p = w.frozen? p :=
  World.frozen?_of_block (h.block _ hp hn)

/-- what an iterator promises: Z are the blocks of its own state, R those that the rounds must leave; in round i it hands over a value that G allows; N rounds -/
def Iter (P : Program) (n g : Nat) (lb : Array Value) (Z R : Nat → Prop) (G : Nat → Value → World → Prop) (N : Nat) (W : World) : Prop :=
  ∀ (l : Nat) (J Jx : Nat → World → Prop),
    (∀ i A B, J i A → Turned Z A B → J i B) → (∀ i A B, Jx i A → Turned Z A B → Jx i B) →
    (∀ i v W1, i < N → J i W1 → G i v W1 → YieldAt Fence.wide (n - 1) P l #[v] W1 fun e W' =>
      (e = .returned (.bool true) ∧ J (i + 1) W' ∧ Turned (fun k => ¬ R k) W1 W') ∨ (e = .returned (.bool false) ∧ Jx i W' ∧ Turned (fun k => ¬ R k) W1 W')) →
    J 0 W → CallsIn Fence.wide n P g (#[.func (.yield l) #[] #[]] ++ lb) W fun e W' => (∃ v, e = .returned v) ∧ (J N W' ∨ ∃ i, i < N ∧ Jx i W')

/-- how the body of round i may be left; D, L: the loop's own two blocks -/
def roundLeft (D L : Nat) (R : Nat → Prop) (I : Nat → World → Prop) (Ix : Code → Nat → World → Prop) (i : Nat) (W : World) : Exit → Act → World → Prop
  | .normal, _, W' => Turned (fun k => ¬ R k ∧ k ≠ D ∧ k ≠ L) W W' ∧ I (i + 1) W'
  | .ret, _, W' => Turned (fun k => ¬ R k ∧ k ≠ D ∧ k ≠ L) W W' ∧ Ix .ret i W'
  | .exit id, _, W' => Turned (fun k => ¬ R k ∧ k ≠ D ∧ k ≠ L) W W' ∧ Ix (.exit id) i W'
  | .goto t, _, W' => Turned (fun k => ¬ R k ∧ k ≠ D ∧ k ≠ L) W W' ∧ Ix (.goto t) i W'
  | .panic _, _, _ => False
  | .outgrown, _, _ => False

theorem wpIn_range {P : Program} {n : Nat} {g : Operand} {p : Tmp} {assign body : Code} {Q : Exit → Act → World → Prop} {a : Act} {w : World}
    {gf : Nat} {lb : Array Value} (hg : a.eval g = .func (.func gf) #[] lb) (eg : ∀ args w, (callFunc gf args).run P w = .ok (.enter gf args) w)
    {Z R : Nat → Prop} {G : Nat → Value → World → Prop} {N : Nat}
    (hseq : ∀ W, W.heap.size = w.heap.size + 2 → Below w.heap.size w W → Iter P (n - 1) gf lb Z R G N W)
    (hZD : ¬ Z w.heap.size) (hZL : ¬ Z (w.heap.size + 1)) (hRL : ¬ R (w.heap.size + 1))
    (hG : ∀ i v A B, G i v A → Turned (fun k => k = w.heap.size + 1) A B → G i v B)
    (I : Nat → World → Prop) (Ix : Code → Nat → World → Prop)
    (hI : ∀ i A B, I i A → Turned (fun k => Z k ∨ k = w.heap.size ∨ k = w.heap.size + 1) A B → I i B)
    (hIx : ∀ c i A B, Ix c i A → Turned (fun k => Z k ∨ k = w.heap.size ∨ k = w.heap.size + 1) A B → Ix c i B)
    (h0 : I 0 w) (a₁ : Value → Act)
    (hassign : ∀ (l : Nat) (v : Value) (W : World) (K : Act → World → Prop), K (a₁ v) W →
      assign.wpIn (Fence.wide.inRound l) (n - 1 - 1) P (Exit.then K (fun _ _ _ => False)) { tmps := a.tmps.setIfInBounds p v, defers := [] } W)
    (hbody : ∀ (l i : Nat) (v : Value) (W : World), i < N → w.heap.size + 2 ≤ W.heap.size → I i W → G i v W → body.wpIn (Fence.wide.inRound l) (n - 1 - 1) P (roundLeft w.heap.size (w.heap.size + 1) R I Ix i W) (a₁ v) W)
    (hdone : ∀ W, I N W → W.heap[w.heap.size]? = some (.deferred (some [])) → Q .normal { a with defers := { target := .collected w.heap.size, args := #[] } :: a.defers } W)
    (hstop : ∀ (c : Code) (i : Nat) (W : World), i < N → Ix c i W → W.heap[w.heap.size]? = some (.deferred (some [])) → c.wpIn Fence.wide n P Q { a with defers := { target := .collected w.heap.size, args := #[] } :: a.defers } W) :
    (Code.rangeFunc g #[p] assign body).wpIn Fence.wide n P Q a w := by
  refine wpIn_rangeFunc fun fn hfn => ?_
  obtain ⟨D, hD⟩ : ∃ D, D = w.heap.size := ⟨_, rfl⟩
  obtain ⟨L, hL⟩ : ∃ L, L = w.heap.size + 1 := ⟨_, rfl⟩
  obtain ⟨rec, hrec⟩ : ∃ rec : LoopState → Option Code → Loop, rec = fun st pe => { state := st, pending := pe, fn, tmps := a.tmps, params := #[p], assign, body, defers := w.heap.size } := ⟨_, rfl⟩
  obtain ⟨W1, hW1⟩ : ∃ W1, (w.alloc (.deferred (some []))).alloc (.loop (rec .ready none)) = W1 := ⟨_, rfl⟩
  have hs1 : W1.heap.size = w.heap.size + 2 := by rw [← hW1]; simp
  have hLo : W1.heap[L]? = some (.loop (rec .ready none)) := by
    rw [hL, ← hW1]; have := World.alloc_heap_new (w.alloc (.deferred (some []))) (.loop (rec .ready none)); rwa [World.size_alloc] at this
  have hDo : W1.heap[D]? = some (.deferred (some [])) := by
    rw [hD, ← hW1]; exact (Below.heap_alloc _ _ _ (by simp)).trans (World.alloc_heap_new w _)
  have hb1 : Below w.heap.size w W1 := by
    rw [← hW1]; exact ((Below.refl _ w).alloc (Nat.le_refl _) _).alloc (by simp) _
  have hI1 : I 0 W1 := hI 0 _ _ h0 (.new hb1)
  have hbody2 := hbody
  clear hbody
  rw [← hL, ← hD] at hI hIx
  have hbody : ∀ (l i : Nat) (v : Value) (W : World), i < N → D + 2 ≤ W.heap.size → I i W → G i v W → body.wpIn (Fence.wide.inRound l) (n - 1 - 1) P (roundLeft D L R I Ix i W) (a₁ v) W := by
    rw [hL, hD]; exact hbody2
  clear hbody2
  rw [← hD] at hZD hdone hstop
  rw [← hL] at hZL hRL hG
  have hDL : D ≠ L := by omega
  refine ⟨L, [{ target := .collected D, args := #[] }], W1, { target := .fn (.func gf) lb, args := #[.func (.yield L) #[] #[]] }, W1, gf,
    #[.func (.yield L) #[] #[]] ++ lb, W1, ?_, ?_, fun _ _ => trivial, ?_, fun h => (by cases h), ?_⟩
  · rw [← hW1, hrec, hD, hL]; exact run_enterLoop_outer _ _ _ _ _
  · simp only [resolve, hg]
    simp [go_sem]
  · simp [invoke, go_sem, eg]
  · refine (hseq W1 hs1 hb1 L
      (fun i W => I i W ∧ W.heap[L]? = some (.loop (rec .ready none)) ∧ W.heap[D]? = some (.deferred (some [])))
      (fun i W => ∃ c, Ix c i W ∧ W.heap[L]? = some (.loop (rec .done (some c))) ∧ W.heap[D]? = some (.deferred (some [])))
      (fun i A B hs ht => ⟨hI i A B hs.1 (ht.mono fun _ _ h => .inl h), ht.at hs.2.1 hZL, ht.at hs.2.2 hZD⟩)
      (fun i A B hs ht => by
        obtain ⟨c, hc, hl, hd⟩ := hs
        exact ⟨c, hIx c i A B hc (ht.mono fun _ _ h => .inl h), ht.at hl hZL, ht.at hd hZD⟩)
      ?_ ⟨hI1, hLo, hDo⟩).mono ?_
    · rintro i v W hlt ⟨hi, hl, hd⟩ hgv
      have hlL : L < W.heap.size := (Array.getElem?_eq_some_iff.1 hl).1
      have hy := run_yield (P := P) (args := #[v]) hl (by rw [hrec]; rfl)
      rw [hrec] at hy
      refine ⟨fn, _, assign, body, hy, roundIn_of_wpIn hfn ?_⟩
      simp only [List.zip_toArray, List.zip_cons_cons, List.zip_nil_right, List.foldl_toArray, List.foldl_cons, List.foldl_nil]
      refine hassign L v W _ ⟨_, run_beginRound hl (by rw [hrec]), ?_⟩
      obtain ⟨W2, hW2⟩ : ∃ W2, W.putObj L (.loop { rec .ready none with state := .busy }) = W2 := ⟨_, rfl⟩
      have ht2 : Turned (fun k => k = L) W W2 := by rw [← hW2]; exact .putObj _ _ _ rfl
      have hl2 : W2.heap[L]? = some (.loop { rec .ready none with state := .busy }) := by rw [← hW2]; exact World.putObj_heap_same hlL
      have hd2 : W2.heap[D]? = some (.deferred (some [])) := ht2.at hd hDL
      rw [hW2]
      refine wpIn_mono (hbody L i v W2 hlt (by have := ht2.size; omega) (hI i W W2 hi (ht2.mono fun _ _ h => .inr (.inr h))) (hG i v W W2 hgv ht2)) ?_
      have fin : ∀ (jump : Option Code) (W3 : World), Turned (fun k => k ≠ D ∧ k ≠ L) W2 W3 →
          (Instr.endRound L jump).run P W3 = .ok (.bool jump.isNone) (W3.putObj L (.loop (rec (if jump.isNone then .ready else .done) jump))) ∧
          (W3.putObj L (.loop (rec (if jump.isNone then .ready else .done) jump))).heap[L]? = some (.loop (rec (if jump.isNone then .ready else .done) jump)) ∧
          (W3.putObj L (.loop (rec (if jump.isNone then .ready else .done) jump))).heap[D]? = some (.deferred (some [])) := fun jump W3 ht3 => by
        have hl3 := ht3.at hl2 (fun h => h.2 rfl)
        have := run_endRound (P := P) jump hl3
        rw [hrec] at this ⊢
        exact ⟨this, World.putObj_heap_same (Array.getElem?_eq_some_iff.1 hl3).1, (World.putObj_heap_other hDL).trans (ht3.at hd2 (fun h => h.1 rfl))⟩
      have hput : ∀ (W3 : World) (o : Obj), Turned (fun k => Z k ∨ k = D ∨ k = L) W3 (W3.putObj L o) := fun W3 o => .putObj _ _ _ (.inr (.inr rfl))
      rintro e a3 W3 hp
      cases e with
      | normal =>
        obtain ⟨ht3, hi3⟩ := hp
        obtain ⟨hr, hl4, hd4⟩ := fin none W3 (ht3.mono fun _ _ h => h.2)
        refine ⟨_, _, hr, .inl ⟨rfl, ⟨hI _ _ _ hi3 (hput _ _), hl4, hd4⟩, ?_⟩⟩
        exact ((ht2.mono fun k _ h => by subst h; exact hRL).trans (ht3.mono fun k _ h => h.1)).trans (.putObj _ _ _ hRL)
      | ret =>
        obtain ⟨ht3, hi3⟩ := hp
        obtain ⟨hr, hl4, hd4⟩ := fin (some .ret) W3 (ht3.mono fun _ _ h => h.2)
        exact ⟨_, _, hr, .inr ⟨rfl, ⟨.ret, hIx _ _ _ _ hi3 (hput _ _), hl4, hd4⟩, ((ht2.mono fun k _ h => by subst h; exact hRL).trans (ht3.mono fun k _ h => h.1)).trans (.putObj _ _ _ hRL)⟩⟩
      | exit id =>
        obtain ⟨ht3, hi3⟩ := hp
        obtain ⟨hr, hl4, hd4⟩ := fin (some (.exit id)) W3 (ht3.mono fun _ _ h => h.2)
        exact ⟨_, _, hr, .inr ⟨rfl, ⟨.exit id, hIx _ _ _ _ hi3 (hput _ _), hl4, hd4⟩, ((ht2.mono fun k _ h => by subst h; exact hRL).trans (ht3.mono fun k _ h => h.1)).trans (.putObj _ _ _ hRL)⟩⟩
      | goto t =>
        obtain ⟨ht3, hi3⟩ := hp
        obtain ⟨hr, hl4, hd4⟩ := fin (some (.goto t)) W3 (ht3.mono fun _ _ h => h.2)
        exact ⟨_, _, hr, .inr ⟨rfl, ⟨.goto t, hIx _ _ _ _ hi3 (hput _ _), hl4, hd4⟩, ((ht2.mono fun k _ h => by subst h; exact hRL).trans (ht3.mono fun k _ h => h.1)).trans (.putObj _ _ _ hRL)⟩⟩
      | panic ch => exact hp.elim
      | outgrown => exact hp.elim
    · have hput : ∀ (W3 : World) (o : Obj), Turned (fun k => Z k ∨ k = D ∨ k = L) W3 (W3.putObj L o) := fun W3 o => .putObj _ _ _ (.inr (.inr rfl))
      rintro e W2 ⟨⟨v, rfl⟩, (⟨hi, hl, hd⟩ | ⟨i, hlt, c, hi, hl, hd⟩)⟩
      · exact ⟨none, _, by have := run_endLoop (P := P) hl (by rw [hrec]; simp); rw [hrec] at this; exact this,
          hdone _ (hI _ _ _ hi (hput _ _)) ((World.putObj_heap_other hDL).trans hd)⟩
      · exact ⟨some c, _, by have := run_endLoop (P := P) hl (by rw [hrec]; simp); rw [hrec] at this; exact this,
          hstop c i _ hlt (hIx c i _ _ hi (hput _ _)) ((World.putObj_heap_other hDL).trans hd)⟩
end Go.Proofs.YtdlebjogbhgheaaDoor
