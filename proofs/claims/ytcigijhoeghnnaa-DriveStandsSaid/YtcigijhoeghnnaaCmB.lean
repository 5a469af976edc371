/- Contracts and lemmas that the claims of this seat share: Only, FlashHold, FlashLooks, FlashWrite, Tail, FlashProgram, FlashErase. Each says its own conditions. -/
import Derived.Test.YtcigijhoeghnnaaCmA
import Derived.StillTail
import Derived.Deep.RegionHeld3
import Derived.Deep.QuietTactic
import Derived.BigQuiet
import Derived.WalkKit
import Derived.Test.YtcigijhoeghnnaaRows
/- Rows of numbers in a block of their own, and worlds in which only given blocks have turned. No condition. -/
namespace Go.Proofs.Ytcigijhoeghnnaa
open Go.RowKit
set_option linter.unusedVariables false

/-- but for the blocks of S, what there was stands -/
structure Only (S : Nat → Prop) (w w' : World) : Prop where
  os : w'.os = w.os
  tape : w'.tape = w.tape
  output : w'.output = w.output
  size : w.heap.size ≤ w'.heap.size
  block : ∀ k, k < w.heap.size → ¬ S k → w'.heap[k]? = w.heap[k]?
section
variable {S T : Nat → Prop} {a b c w w' : World}
theorem Only.refl (S : Nat → Prop) (w : World) : Only S w w := ⟨rfl, rfl, rfl, Nat.le_refl _, fun _ _ _ => rfl⟩
/-- what the second turns is of S, or was not there at first -/
theorem Only.next (h : Only S a b) (k : Only T b c) (hT : ∀ x, T x → x < a.heap.size → S x) : Only S a c :=
  ⟨k.os.trans h.os, k.tape.trans h.tape, k.output.trans h.output, Nat.le_trans h.size k.size, fun x hx hn => (k.block x (Nat.lt_of_lt_of_le hx h.size) (fun ht => hn (hT x ht hx))).trans (h.block x hx hn)⟩
theorem Only.trans (h : Only S a b) (k : Only S b c) : Only S a c := h.next k fun _ h _ => h
theorem Only.mono (h : Only S a b) (hS : ∀ x, S x → x < a.heap.size → T x) : Only T a b := (Only.refl T a).next h hS
theorem Only.later (h : Only S a b) (k : Below b.heap.size b c) : Only S a c := ⟨k.os.trans h.os, k.tape.trans h.tape, k.output.trans h.output, Nat.le_trans h.size k.size, fun x hx hn => (k.block x (Nat.lt_of_lt_of_le hx h.size)).trans (h.block x hx hn)⟩
theorem Only.of (k : Below a.heap.size a b) : Only S a b := (Only.refl S a).later k
theorem Only.drewN (h : Only S a b) (n : Nat) : Only S a (b.drewN n) := ⟨h.os, h.tape, h.output, h.size, h.block⟩
theorem Only.setCell (h : Only S a b) {g : Nat} (hg : S g ∨ a.heap.size ≤ g) (o : Nat) (v : Value) : Only S a (b.setCell ⟨g, o, none⟩ v) := by
  refine h.next (T := fun x => x = g) ⟨rfl, rfl, rfl, by simp, fun k _ hk => Below.heap_setCell b ⟨g, o, none⟩ v k hk⟩ ?_
  rintro x rfl hx
  rcases hg with h | h
  · exact h
  · omega
theorem Only.alloc (h : Only S a b) (ob : Obj) : Only S a (b.alloc ob) := h.later ((Below.refl _ b).alloc (Nat.le_refl _) ob)
theorem Only.below (h : Only S a b) {B : Nat} (hB : B ≤ a.heap.size) (hS : ∀ x, S x → B ≤ x) : Below B a b :=
  ⟨h.os, h.tape, h.output, h.size, fun k hk => h.block k (by omega) (fun hs => by have := hS k hs; omega)⟩
theorem _root_.Go.Proofs.Ytcigijhoeghnnaa.Block.only {g : Nat} {t : TypeId} {cs : List Value} (h : Block a g t cs) (k : Only S a b) (hg : ¬ S g) : Block b g t cs := (k.block g h.lt hg).trans h
end

/-- block g is a row of numbers of kind k, with room for cap: xs, and what stands behind -/
def Row (w : World) (t : TypeId) (k : IntKind) (g cap : Nat) (xs : List Nat) : Prop :=
  ∃ pad, Block w g t (xs.map (fun x : Nat => Value.int k (x : Int)) ++ pad) ∧ xs.length ≤ cap ∧ cap ≤ maxLen
section
variable {w w' : World} {t : TypeId} {k : IntKind} {g cap : Nat} {xs : List Nat}
theorem Row.lt (h : Row w t k g cap xs) : g < w.heap.size := by obtain ⟨pad, h, _⟩ := h; exact h.lt
theorem Row.heap (h : Row w t k g cap xs) (hh : w'.heap[g]? = w.heap[g]?) : Row w' t k g cap xs := by
  obtain ⟨pad, h1, h2⟩ := h
  exact ⟨pad, hh.trans h1, h2⟩
theorem Row.later (h : Row w t k g cap xs) (hb : Below w.heap.size w w') : Row w' t k g cap xs := h.heap (hb.block g h.lt)
theorem Row.only {S : Nat → Prop} (h : Row w t k g cap xs) (hb : Only S w w') (hg : ¬ S g) : Row w' t k g cap xs := h.heap (hb.block g h.lt hg)
theorem Row.apart (h : Row w t k g cap xs) (b o : Nat) (v : Value) (hg : g ≠ b) : Row (w.setCell ⟨b, o, none⟩ v) t k g cap xs := h.heap (Below.heap_setCell w ⟨b, o, none⟩ v g hg)
theorem Row.get (h : Row w t k g cap xs) {i : Nat} (hi : i < xs.length) : w.cell? ⟨g, i, none⟩ = some (.int k ((xs.getD i 0 : Nat) : Int)) := by
  obtain ⟨pad, h, _⟩ := h
  rw [h.cell, List.getElem?_append_left (by simpa using hi), List.getElem?_map, List.getD_eq_getElem?_getD, List.getElem?_eq_getElem hi]
  rfl
theorem Row.frozen (h : Row w t k g cap xs) (i : Nat) : w.frozen? ⟨g, i, none⟩ = false := by obtain ⟨pad, h, _⟩ := h; exact h.frozen i
theorem Row.set (h : Row w t k g cap xs) {i : Nat} (hi : i < xs.length) (v : Nat) : Row (w.setCell ⟨g, i, none⟩ (.int k (v : Int))) t k g cap (xs.set i v) := by
  obtain ⟨pad, h, h2⟩ := h
  refine ⟨pad, ?_, by simpa using h2⟩
  have := h.setCell i (.int k (v : Int))
  rwa [List.set_append, if_pos (by simpa using hi), ← List.map_set] at this
theorem Row.reads (h : Row w t k g cap xs) : Reads k w (some ⟨g, 0, none⟩) xs.length xs :=
  ⟨rfl, .inr ⟨g, 0, rfl, h.lt, fun i hi => by rw [Nat.zero_add]; exact h.get hi⟩⟩
/-- what the call itself made is such a row -/
theorem Row.own {base e n : Nat} {v : Value} {k : IntKind} (h : w.ownsRow base e 1 v n (xs.map fun x : Nat => Value.int k (x : Int))) (hn : 0 < n) :
    ∃ g cap, v = .slice (some ⟨g, 0, none⟩) n cap ∧ base ≤ g ∧ Row w e k g cap xs := by
  obtain ⟨hl, hr⟩ := h
  simp at hl
  rcases hr with ⟨hv, h0⟩ | ⟨g, cap, cur, hv, hb, hg, h1, h2, h3, h4⟩
  · omega
  · refine ⟨g, cap, hv, hb, cur.toList.drop (n * 1), ?_, by omega, h2⟩
    rw [← h4, List.take_append_drop]
    simpa [Block] using hg
end
theorem reads_only {S : Nat → Prop} {k : IntKind} {w w' : World} {a : Option Addr} {len : Nat} {xs : List Nat} (h : Reads k w a len xs) (hb : Only S w w') (ha : len = 0 ∨ ∃ x, a = some x ∧ ¬ S x.block) : Reads k w' a len xs := by
  refine ⟨h.1, ?_⟩
  rcases h.2 with h0 | ⟨b, off, rfl, hlt, hc⟩
  · exact .inl h0
  · rcases ha with h0 | ⟨x, hx, hS⟩
    · exact .inl h0
    · cases hx
      refine .inr ⟨b, off, rfl, Nat.lt_of_lt_of_le hlt hb.size, fun i hi => ?_⟩
      rw [World.cell?_of_block (w := w) (hb.block b hlt hS)]; exact hc i hi
end Go.Proofs.Ytcigijhoeghnnaa
/- A flash in the memory: its block, its fuse, its rows of words and of wear. No condition. -/
namespace Go.Proofs.Ytcigijhoeghnnaa.flash
open Go.RowKit Go.Proofs.Ytcigijhoeghnnaa.word
set_option linter.unusedVariables false

/-- the slice of masks M, in memory that is not the flash's other blocks; of them only the first L are there -/
def MasksAt (S : Nat → Prop) (no : Nat → Prop) (L : Nat) (M : List Nat) (cm : Value) (w : World) : Prop :=
  ∃ a c, cm = .slice a (min M.length L) c ∧ min M.length L ≤ c ∧ Reads .u32 w a (min M.length L) (M.take L) ∧ (min M.length L = 0 ∨ ∃ x, a = some x ∧ S x.block ∧ ¬ no x.block)
def FuseAt (S : Nat → Prop) (no : Nat → Prop) (L : Nat) (fuse : Option (Nat × List Nat)) (ca cb cm : Value) (w : World) : Prop :=
  match fuse with
  | none => ca = .bool false ∧ cb = .int .i64 0 ∧ cm = .slice none 0 0
  | some (n, M) => ca = .bool true ∧ cb = .int .i64 (n : Int) ∧ MasksAt S no L M cm w
theorem MasksAt.only {S no T : Nat → Prop} {L : Nat} {M : List Nat} {cm : Value} {w w' : World} (h : MasksAt S no L M cm w) (k : Only T w w') (hT : ∀ x, T x → S x → no x) : MasksAt S no L M cm w' := by
  obtain ⟨a, c, h1, h0, h2, h3⟩ := h
  refine ⟨a, c, h1, h0, reads_only h2 k ?_, h3⟩
  rcases h3 with h | ⟨x, hx, h4, h5⟩
  · exact .inl h
  · exact .inr ⟨x, hx, fun ht => h5 (hT _ ht h4)⟩
theorem FuseAt.only {S no T : Nat → Prop} {L : Nat} {fuse : Option (Nat × List Nat)} {ca cb cm : Value} {w w' : World} (h : FuseAt S no L fuse ca cb cm w) (k : Only T w w') (hT : ∀ x, T x → S x → no x) : FuseAt S no L fuse ca cb cm w' := by
  match fuse, h with
  | none, h => exact h
  | some (n, M), ⟨h1, h2, h3⟩ => exact ⟨h1, h2, h3.only k hT⟩
def at3 (b bw bv : Nat) (x : Nat) : Prop := x = b ∨ x = bw ∨ x = bv
/-- the flash's values in the blocks b, bw (words), bv (wear); all that it may turn or that it needs lies in S -/
structure At (S : Nat → Prop) (b : Nat) (F : Fl) (ca cb cm : Value) (bw cw bv cv : Nat) (w : World) : Prop where
  blk : Block w b 72 [ca, cb, cm, .slice (some ⟨bw, 0, none⟩) F.ws.length cw, .int .i64 (F.long : Int), .slice (some ⟨bv, 0, none⟩) F.worn.length cv, .int .i64 (F.count : Int), .bool F.dark]
  fuse : FuseAt S (at3 b bw bv) F.long F.fuse ca cb cm w
  ws : Row w 55 .u32 bw cw F.ws
  wn : Row w 3 .i64 bv cv F.worn
  n1 : b ≠ bw
  n2 : b ≠ bv
  n3 : bw ≠ bv
  s1 : S b
  s2 : S bw
  s3 : S bv
def FlashAt (S : Nat → Prop) (b : Nat) (F : Fl) (w : World) : Prop := ∃ ca cb cm bw cw bv cv, At S b F ca cb cm bw cw bv cv w
section
variable {S T : Nat → Prop} {b : Nat} {F : Fl} {ca cb cm : Value} {bw cw bv cv : Nat} {w w' : World}
theorem At.lt (h : At S b F ca cb cm bw cw bv cv w) : b < w.heap.size := h.blk.lt
theorem At.mem (h : At S b F ca cb cm bw cw bv cv w) (x : Nat) (hx : at3 b bw bv x) : S x := by
  rcases hx with e | e | e
  · rw [e]; exact h.s1
  · rw [e]; exact h.s2
  · rw [e]; exact h.s3
theorem At.only (h : At S b F ca cb cm bw cw bv cv w) (k : Only T w w') (hT : ∀ x, T x → ¬ S x) : At S b F ca cb cm bw cw bv cv w' :=
  ⟨h.blk.only k (fun ht => hT _ ht h.s1), h.fuse.only k (fun x ht hs => absurd hs (hT x ht)), h.ws.only k (fun ht => hT _ ht h.s2), h.wn.only k (fun ht => hT _ ht h.s3), h.n1, h.n2, h.n3, h.s1, h.s2, h.s3⟩
theorem At.later (h : At S b F ca cb cm bw cw bv cv w) (k : Below w.heap.size w w') : At S b F ca cb cm bw cw bv cv w' :=
  h.only (T := fun _ => False) (Only.of k) (fun _ h => h.elim)
theorem At.wide (h : At S b F ca cb cm bw cw bv cv w) (hS : ∀ x, S x → T x) : At T b F ca cb cm bw cw bv cv w := by
  refine ⟨h.blk, ?_, h.ws, h.wn, h.n1, h.n2, h.n3, hS _ h.s1, hS _ h.s2, hS _ h.s3⟩
  have hf := h.fuse
  unfold FuseAt at hf ⊢
  split
  · rename_i e; rw [e] at hf; exact hf
  · rename_i n M e
    rw [e] at hf
    obtain ⟨h1, h2, a, c, h3, h0, h4, h5⟩ := hf
    exact ⟨h1, h2, a, c, h3, h0, h4, h5.imp id fun ⟨x, hx, h6, h7⟩ => ⟨x, hx, hS _ h6, h7⟩⟩
theorem FlashAt.only (h : FlashAt S b F w) (k : Only T w w') (hT : ∀ x, T x → ¬ S x) : FlashAt S b F w' := by
  obtain ⟨ca, cb, cm, bw, cw, bv, cv, h⟩ := h
  exact ⟨ca, cb, cm, bw, cw, bv, cv, h.only k hT⟩
theorem FlashAt.later (h : FlashAt S b F w) (k : Below w.heap.size w w') : FlashAt S b F w' := by
  obtain ⟨ca, cb, cm, bw, cw, bv, cv, h⟩ := h
  exact ⟨ca, cb, cm, bw, cw, bv, cv, h.later k⟩
theorem FlashAt.wide (h : FlashAt S b F w) (hS : ∀ x, S x → T x) : FlashAt T b F w := by
  obtain ⟨ca, cb, cm, bw, cw, bv, cv, h⟩ := h
  exact ⟨ca, cb, cm, bw, cw, bv, cv, h.wide hS⟩
/-- a cell of the flash's own block turned -/
theorem At.put (h : At S b F ca cb cm bw cw bv cv w) (o : Nat) (v : Value) : Only (fun x => x = b) w (w.setCell ⟨b, o, none⟩ v) := (Only.refl (fun x => x = b) w).setCell (.inl rfl) o v
theorem only_b (h : At S b F ca cb cm bw cw bv cv w) : ∀ x, x = b → S x → at3 b bw bv x := by rintro x rfl _; exact .inl rfl
theorem At.counted (h : At S b F ca cb cm bw cw bv cv w) (n : Nat) : At S b { F with count := n } ca cb cm bw cw bv cv (w.setCell ⟨b, 6, none⟩ (.int .i64 (n : Int))) :=
  ⟨h.blk.setCell 6 _, h.fuse.only (h.put 6 _) (only_b h), h.ws.apart _ _ _ h.n1.symm, h.wn.apart _ _ _ h.n2.symm, h.n1, h.n2, h.n3, h.s1, h.s2, h.s3⟩
theorem At.burnt (h : At S b F ca cb cm bw cw bv cv w) {n : Nat} {M : List Nat} (hf : F.fuse = some (n, M)) : At S b { F with fuse := some (n - 1, M) } ca (.int .i64 ((n - 1 : Nat) : Int)) cm bw cw bv cv (w.setCell ⟨b, 1, none⟩ (.int .i64 ((n - 1 : Nat) : Int))) := by
  refine ⟨h.blk.setCell 1 _, ?_, h.ws.apart _ _ _ h.n1.symm, h.wn.apart _ _ _ h.n2.symm, h.n1, h.n2, h.n3, h.s1, h.s2, h.s3⟩
  have h2 := h.fuse.only (h.put 1 (.int .i64 ((n - 1 : Nat) : Int))) (only_b h)
  rw [hf] at h2
  exact ⟨h2.1, rfl, h2.2.2⟩
theorem At.darkened (h : At S b F ca cb cm bw cw bv cv w) (d : Bool) : At S b { F with dark := d } ca cb cm bw cw bv cv (w.setCell ⟨b, 7, none⟩ (.bool d)) :=
  ⟨h.blk.setCell 7 _, h.fuse.only (h.put 7 _) (only_b h), h.ws.apart _ _ _ h.n1.symm, h.wn.apart _ _ _ h.n2.symm, h.n1, h.n2, h.n3, h.s1, h.s2, h.s3⟩
theorem At.word (h : At S b F ca cb cm bw cw bv cv w) {i : Nat} (hi : i < F.ws.length) (v : Nat) : At S b { F with ws := F.ws.set i v } ca cb cm bw cw bv cv (w.setCell ⟨bw, i, none⟩ (.int .u32 (v : Int))) := by
  have ho : Only (fun x => x = bw) w (w.setCell ⟨bw, i, none⟩ (.int .u32 (v : Int))) := (Only.refl (fun x => x = bw) w).setCell (.inl rfl) i _
  refine ⟨?_, h.fuse.only ho (by rintro x rfl _; exact .inr (.inl rfl)), h.ws.set hi v, h.wn.apart _ _ _ h.n3.symm, h.n1, h.n2, h.n3, h.s1, h.s2, h.s3⟩
  have := h.blk.apart bw i (.int .u32 (v : Int)) h.n1
  simpa using this
theorem At.wear (h : At S b F ca cb cm bw cw bv cv w) {i : Nat} (hi : i < F.worn.length) (v : Nat) : At S b { F with worn := F.worn.set i v } ca cb cm bw cw bv cv (w.setCell ⟨bv, i, none⟩ (.int .i64 (v : Int))) := by
  have ho : Only (fun x => x = bv) w (w.setCell ⟨bv, i, none⟩ (.int .i64 (v : Int))) := (Only.refl (fun x => x = bv) w).setCell (.inl rfl) i _
  refine ⟨?_, h.fuse.only ho (by rintro x rfl _; exact .inr (.inr rfl)), h.ws.apart _ _ _ h.n3, h.wn.set hi v, h.n1, h.n2, h.n3, h.s1, h.s2, h.s3⟩
  have := h.blk.apart bv i (.int .i64 (v : Int)) h.n2
  simpa using this
/-- the fuse's three cells made new: none -/
theorem At.unfused (h : At S b F ca cb cm bw cw bv cv w) (hx : w' = ((w.setCell ⟨b, 0, none⟩ (.bool false)).setCell ⟨b, 1, none⟩ (.int .i64 0)).setCell ⟨b, 2, none⟩ (.slice none 0 0)) : At S b { F with fuse := none } (.bool false) (.int .i64 0) (.slice none 0 0) bw cw bv cv w' ∧ Only (fun x => x = b) w w' := by
  subst hx
  have ho : Only (fun x => x = b) w (((w.setCell ⟨b, 0, none⟩ (.bool false)).setCell ⟨b, 1, none⟩ (.int .i64 0)).setCell ⟨b, 2, none⟩ (.slice none 0 0)) := (((Only.refl (fun x => x = b) w).setCell (.inl rfl) 0 _).setCell (.inl rfl) 1 _).setCell (.inl rfl) 2 _
  exact ⟨⟨((h.blk.setCell 0 _).setCell 1 _).setCell 2 _, ⟨rfl, rfl, rfl⟩, h.ws.only ho h.n1.symm, h.wn.only ho h.n2.symm, h.n1, h.n2, h.n3, h.s1, h.s2, h.s3⟩, ho⟩
theorem At.cell (h : At S b F ca cb cm bw cw bv cv w) : w.cell? ⟨b, 0, none⟩ = some ca ∧ w.cell? ⟨b, 1, none⟩ = some cb ∧ w.cell? ⟨b, 2, none⟩ = some cm ∧ w.cell? ⟨b, 3, none⟩ = some (.slice (some ⟨bw, 0, none⟩) F.ws.length cw) ∧
    w.cell? ⟨b, 4, none⟩ = some (.int .i64 (F.long : Int)) ∧ w.cell? ⟨b, 5, none⟩ = some (.slice (some ⟨bv, 0, none⟩) F.worn.length cv) ∧ w.cell? ⟨b, 6, none⟩ = some (.int .i64 (F.count : Int)) ∧ w.cell? ⟨b, 7, none⟩ = some (.bool F.dark) := by
  simp only [h.blk.cell]
  exact ⟨rfl, rfl, rfl, rfl, rfl, rfl, rfl, rfl⟩
end
end Go.Proofs.Ytcigijhoeghnnaa.flash
/- Contracts of the flash's calls that only read: ready, Read, Gone, Writes, Size, and of the fuse's mask. No condition. -/
namespace Go.Proofs.Ytcigijhoeghnnaa.flash
open Go.RowKit Go.Proofs.Ytcigijhoeghnnaa.word
set_option linter.unusedVariables false

theorem ready_nil (w : World) : Calls Try.prog 56 #[.pointer none] w (Quiet (.int .i64 1) w) := by
  go_enter Try.func56, Try.ntmps56
  go_wp2
  go_ret
  exact ⟨rfl, 0, rfl⟩
theorem ready_any (b : Nat) (d : Bool) (w : World) (h : w.cell? ⟨b, 7, none⟩ = some (.bool d)) : Calls Try.prog 56 #[.pointer (some ⟨b, 0, none⟩)] w (Quiet (.int .i64 (if d = true then 10 else 0)) w) := by
  cases d
  all_goals
    go_enter Try.func56, Try.ntmps56
    go_wp2
    go_ret
    exact ⟨rfl, 0, rfl⟩
theorem gone_nil (w : World) : Calls Try.prog 55 #[.pointer none] w (Quiet (.bool true) w) := by
  go_enter Try.func55, Try.ntmps55
  go_wp2
  go_ret
  exact ⟨rfl, 0, rfl⟩
theorem gone_any (b : Nat) (d : Bool) (w : World) (h : w.cell? ⟨b, 7, none⟩ = some (.bool d)) : Calls Try.prog 55 #[.pointer (some ⟨b, 0, none⟩)] w (Quiet (.bool d) w) := by
  go_enter Try.func55, Try.ntmps55
  go_wp2
  go_ret
  exact ⟨rfl, 0, rfl⟩
theorem writes_nil (w : World) : Calls Try.prog 16 #[.pointer none] w (Quiet (.int .i64 0) w) := by
  go_enter Try.func16, Try.ntmps16
  go_wp2
  go_ret
  exact ⟨rfl, 0, rfl⟩
theorem writes_any (b : Nat) (n : Int) (w : World) (h : w.cell? ⟨b, 6, none⟩ = some (.int .i64 n)) : Calls Try.prog 16 #[.pointer (some ⟨b, 0, none⟩)] w (Quiet (.int .i64 n) w) := by
  go_enter Try.func16, Try.ntmps16
  go_wp2
  go_ret
  exact ⟨rfl, 0, rfl⟩
theorem size_nil (w : World) : Calls Try.prog 28 #[.pointer none] w (Quiet (.tuple #[.int .i64 0, .int .i64 0]) w) := by
  go_enter Try.func28, Try.ntmps28
  go_wp2
  go_ret2
  exact ⟨rfl, 0, rfl⟩
theorem size_any (b : Nat) (l n c : Nat) (a : Option Addr) (w : World) (h1 : w.cell? ⟨b, 4, none⟩ = some (.int .i64 (l : Int))) (h2 : w.cell? ⟨b, 5, none⟩ = some (.slice a n c)) :
    Calls Try.prog 28 #[.pointer (some ⟨b, 0, none⟩)] w (Quiet (.tuple #[.int .i64 (n : Int), .int .i64 (l : Int)]) w) := by
  go_enter Try.func28, Try.ntmps28
  go_wp2
  go_quiet (fail)
  go_wp2
  go_ret2
  exact ⟨rfl, nq, rfl⟩
theorem read_nil (a : Int) (w : World) : Calls Try.prog 41 #[.pointer none, .int .i64 a] w (Quiet (.tuple #[.int .u32 0, .int .i64 1]) w) := by
  go_enter Try.func41, Try.ntmps41
  go_wp2_with (go_at_call 56; (with_reducible refine (ready_nil _).mono ?_); rintro e w' ⟨rfl, m, rfl⟩)
  go_ret2
  exact ⟨rfl, _, rfl⟩
theorem read_any {S : Nat → Prop} {b : Nat} {F : Fl} {ca cb cm : Value} {bw cw bv cv : Nat} {w : World} (h : At S b F ca cb cm bw cw bv cv w) (ok : F.Ok) (a : Int) :
    Calls Try.prog 41 #[.pointer (some ⟨b, 0, none⟩), .int .i64 a] w (Quiet (.tuple #[.int .u32 ((F.read a).1 : Nat), .int .i64 (F.read a).2]) w) := by
  obtain ⟨_, _, _, c3, _, _, _, c7⟩ := h.cell
  have hn := ok.ws_le
  have hr := ready_any b F.dark w c7
  have hrow := h.ws
  clear h ok c7
  cases hd : F.dark with
  | true =>
    rw [hd] at hr
    simp only [if_true] at hr
    have e : F.read a = (0, 10) := by rw [Fl.read, if_pos hd]
    rw [e]
    clear hd e hrow c3
    go_enter Try.func41, Try.ntmps41
    go_wp2_with (go_at_call 56; (with_reducible refine hr.mono ?_); rintro e w' ⟨rfl, m, rfl⟩)
    go_ret2
    exact ⟨rfl, _, rfl⟩
  | false =>
    rw [hd] at hr
    simp only [Bool.false_eq_true, if_false] at hr
    by_cases h0 : a < 0
    · have e : F.read a = (0, 3) := by rw [Fl.read, if_neg (by simp [hd]), if_pos (.inl h0)]
      rw [e]
      clear hd e hrow
      go_enter Try.func41, Try.ntmps41
      go_wp2_with (go_at_call 56; (with_reducible refine hr.mono ?_); rintro e w' ⟨rfl, m, rfl⟩)
      go_ret2
      exact ⟨rfl, _, rfl⟩
    · by_cases h1 : (F.ws.length : Int) ≤ a
      · have e : F.read a = (0, 3) := by rw [Fl.read, if_neg (by simp [hd]), if_pos (.inr h1)]
        rw [e]
        clear hd e hrow
        generalize F.ws.length = n at *
        go_enter Try.func41, Try.ntmps41
        go_wp2_with (go_at_call 56; (with_reducible refine hr.mono ?_); rintro e w' ⟨rfl, m, rfl⟩)
        go_ret2
        exact ⟨rfl, _, rfl⟩
      · obtain ⟨k, rfl⟩ := Int.eq_ofNat_of_zero_le (show 0 ≤ a by omega)
        have hk : k < F.ws.length := by omega
        have hc := hrow.get hk
        have e : F.read k = (F.ws.getD k 0, 0) := by rw [Fl.read, if_neg (by simp [hd]), if_neg (by omega), Int.toNat_natCast]
        rw [e]
        have H3 : (k : Int) < F.ws.length := by omega
        clear hd e hrow h1
        generalize F.ws.getD k 0 = x at *
        generalize F.ws.length = n at *
        go_enter Try.func41, Try.ntmps41
        go_wp2_with (go_at_call 56; (with_reducible refine hr.mono ?_); rintro e w' ⟨rfl, m, rfl⟩)
        go_ret2
        exact ⟨rfl, _, rfl⟩
theorem mask_any {S no : Nat → Prop} {b L : Nat} {M : List Nat} {cm : Value} {w : World} (hm : MasksAt S no L M cm w) (hc : w.cell? ⟨b, 2, none⟩ = some cm) (i : Nat) (hi : i < L) (hL : L ≤ 1024) (hx : ∀ x ∈ M, x < 4294967296) :
    Calls Try.prog 60 #[.pointer (some ⟨b, 0, none⟩), .int .i64 (i : Int)] w (Quiet (.int .u32 (maskAt M i : Nat)) w) := by
  obtain ⟨a, c, rfl, _, hr, _⟩ := hm
  rw [← maskAt_take M L i hi]
  have hl : (M.take L).length = min M.length L := hr.1
  by_cases h0 : min M.length L = 0
  · rw [maskAt, if_pos (by omega)]
    rw [h0] at hc
    clear hr hl hx
    go_enter Try.func60, Try.ntmps60
    go_wp2
    go_ret
    exact ⟨rfl, 0, rfl⟩
  · rw [maskAt, if_neg (by omega), hl]
    generalize hn : min M.length L = n at *
    have hlt : i % n < n := Nat.mod_lt _ (by omega)
    obtain ⟨b2, off, rfl, _, hcell⟩ := hr.at hlt
    have c2 := hcell (i % n) hlt
    have hn2 : n ≤ 1024 := by omega
    have hpos : 0 < n := by omega
    clear hr hcell hl hx
    generalize (M.take L).getD (i % n) 0 = x at *
    generalize hq : i % n = q at *
    have hq2 : (i : Int) % (n : Int) = (q : Int) := by omega
    have HQ := hid hq
    clear hn hq h0
    go_enter Try.func60, Try.ntmps60
    go_wp2
    go_quiet (fail)
    go_wp2
    go_ret
    exact ⟨rfl, nq, rfl⟩
end Go.Proofs.Ytcigijhoeghnnaa.flash
/- Contracts of the fuse's tears, of fail, Power and Program of layer 7 (flash). No condition. -/
namespace Go.Proofs.Ytcigijhoeghnnaa.flash
open Go.RowKit Go.Proofs.Ytcigijhoeghnnaa.word
set_option linter.unusedVariables false

/-- a function without results ends -/
theorem ret0 {P : Program} {fn : Func} {R : Ending → World → Prop} {a : Act} {w : World} (h : fn.results = #[]) (hd : a.defers = []) (hR : R (.returned (.tuple #[])) w) : bodyPost P fn R .normal a w :=
  ⟨hd, .tuple #[], by simp [results, h], hR⟩
theorem tears_yes {S : Nat → Prop} {b : Nat} {F : Fl} {ca cb cm : Value} {bw cw bv cv : Nat} {w : World} (h : At S b F ca cb cm bw cw bv cv w) (M : List Nat) (ht : F.fuse = some (0, M)) :
    Calls Try.prog 58 #[.pointer (some ⟨b, 0, none⟩)] w (Quiet (.bool true) w) := by
  obtain ⟨c0, c1, _⟩ := h.cell
  have hf := h.fuse
  rw [ht] at hf
  obtain ⟨rfl, rfl, _⟩ := hf
  clear h ht
  go_enter Try.func58, Try.ntmps58
  go_wp2
  go_ret
  exact ⟨rfl, 0, rfl⟩
/-- the call answers v; the flash becomes F; what turns is the flash's own -/
def Turned (S : Nat → Prop) (b : Nat) (F : Fl) (bw cw bv cv : Nat) (v : Value) (w : World) (e : Ending) (w' : World) : Prop :=
  e = .returned v ∧ ∃ ca cb cm, At S b F ca cb cm bw cw bv cv w' ∧ Only (at3 b bw bv) w w'
theorem tears_no {S : Nat → Prop} {b : Nat} {F : Fl} {ca cb cm : Value} {bw cw bv cv : Nat} {w : World} (h : At S b F ca cb cm bw cw bv cv w) (ok : F.Ok) (ht : tears F.fuse = none) :
    Calls Try.prog 58 #[.pointer (some ⟨b, 0, none⟩)] w (Turned S b { F with fuse := burnt F.fuse } bw cw bv cv (.bool false) w) := by
  obtain ⟨c0, c1, _⟩ := h.cell
  have f1 := h.blk.frozen 1
  have hf := h.fuse
  match hF : F.fuse with
  | none =>
    rw [hF] at hf
    obtain ⟨rfl, rfl, rfl⟩ := hf
    have HH : Hid (At S b { F with fuse := burnt none } (.bool false) (.int .i64 0) (.slice none 0 0) bw cw bv cv w) := by
      have e : { F with fuse := burnt none } = F := by rw [show burnt none = F.fuse from hF.symm]
      rw [e]; exact h
    clear h ht
    go_enter Try.func58, Try.ntmps58
    go_wp2
    go_ret
    exact ⟨rfl, _, _, _, HH.out, Only.refl _ _⟩
  | some (0, M) => rw [hF] at ht; cases ht
  | some (n + 1, M) =>
    rw [hF] at hf
    obtain ⟨rfl, rfl, _⟩ := hf
    have hn := (ok.m _ _ hF).1
    have HB := hid (h.burnt hF)
    have HO : Hid (Only (at3 b bw bv) w (w.setCell ⟨b, 1, none⟩ (.int .i64 ((n + 1 - 1 : Nat) : Int)))) := (h.put 1 _).mono fun x hx _ => .inl hx
    have e1 : ((n + 1 : Nat) : Int) - 1 = (n : Int) := by omega
    clear h ht ok
    simp only [Nat.add_sub_cancel] at HB HO
    go_enter Try.func58, Try.ntmps58
    go_wp2
    go_ret
    exact ⟨rfl, .bool true, .int .i64 (n : Int), cm, HB.out, HO.out⟩
theorem fail_any {S : Nat → Prop} {b : Nat} {F : Fl} {ca cb cm : Value} {bw cw bv cv : Nat} {w : World} (h : At S b F ca cb cm bw cw bv cv w) :
    Calls Try.prog 61 #[.pointer (some ⟨b, 0, none⟩)] w (Turned S b { F with dark := true, fuse := none } bw cw bv cv (.int .i64 10) w) := by
  have h1 := h.darkened true
  have h2 := h1.unfused (w' := _) rfl
  have HA := hid h2.1
  have HO := hid (((h.put 7 (.bool true)).trans h2.2).mono (T := at3 b bw bv) fun x hx _ => .inl hx)
  obtain ⟨c0, c1, c2, _, _, _, _, c7⟩ := h.cell
  have f7 := h.blk.frozen 7
  have f0 := h1.blk.frozen 0
  have f1 := h1.blk.frozen 1
  have f2 := h1.blk.frozen 2
  obtain ⟨d0, d1, d2, _⟩ := h1.cell
  clear h h1 h2
  go_enter Try.func61, Try.ntmps61
  go_wp2
  go_ret
  exact ⟨rfl, _, _, _, HA.out, HO.out⟩
theorem power_nil (w : World) : Calls Try.prog 18 #[.pointer none] w (Quiet (.tuple #[]) w) := by
  go_enter Try.func18, Try.ntmps18
  go_wp2
  exact ret0 rfl rfl ⟨rfl, 0, rfl⟩
theorem power_any {S : Nat → Prop} {b : Nat} {F : Fl} {ca cb cm : Value} {bw cw bv cv : Nat} {w : World} (h : At S b F ca cb cm bw cw bv cv w) :
    Calls Try.prog 18 #[.pointer (some ⟨b, 0, none⟩)] w (Turned S b F.power bw cw bv cv (.tuple #[]) w) := by
  have h1 := h.darkened false
  have h2 := h1.unfused (w' := _) rfl
  have HA := hid h2.1
  have HO := hid (((h.put 7 (.bool false)).trans h2.2).mono (T := at3 b bw bv) fun x hx _ => .inl hx)
  obtain ⟨c0, c1, c2, _, _, _, _, c7⟩ := h.cell
  have f7 := h.blk.frozen 7
  have f0 := h1.blk.frozen 0
  have f1 := h1.blk.frozen 1
  have f2 := h1.blk.frozen 2
  obtain ⟨d0, d1, d2, _⟩ := h1.cell
  clear h h1 h2
  go_enter Try.func18, Try.ntmps18
  go_wp2
  exact ret0 rfl rfl ⟨rfl, _, _, _, HA.out, HO.out⟩
end Go.Proofs.Ytcigijhoeghnnaa.flash
/- A region whose order is open: all its operations but the last ones in a forced row only read; one walk in the order of the text serves every order. No condition. -/
namespace Go.Proofs.Ytcigijhoeghnnaa.tail
open Go

section
variable {P : Program} {ops : Array Oper} {md : Region.Mode} {C : World → Prop}

def anyL (P : Program) (md : Region.Mode) (ops : Array Oper) (C : World → Prop) (n : Nat) (L : Array Bool → Act → Prop) : Nat → Array Bool → Act → Prop
  | 0, listed, a => L listed a
  | f + 1, listed, a =>
    Region.ready md ops listed ≠ [] ∧ ∀ i ∈ Region.ready md ops listed, i < n ∧ qOp P ops C i (anyL P md ops C n L f (listed.setIfInBounds i true)) a

theorem any_of_head {n g : Nat} {L : Array Bool → Act → Prop} {Q' : Exit → Act → World → Prop} (hL : ∀ listed a w, C w → L listed a → wpAny P md ops Q' g listed a w) :
    ∀ (f : Nat) (listed : Array Bool) (a : Act) (w : World), C w → anyL P md ops C n L f listed a → wpAny P md ops Q' (f + g) listed a w
  | 0, listed, a, w, hw, h => by rw [Nat.zero_add]; exact hL _ _ _ hw h
  | f + 1, listed, a, w, hw, h => by
    rw [show f + 1 + g = (f + g) + 1 by omega]
    exact ⟨fun h0 => absurd h0 h.1, fun i hi => wpOp_of_qOp hw (fun a' w' hw' h' => any_of_head hL f _ a' w' hw' h') (h.2 i hi).2⟩

theorem anyL_first {n i : Nat} {oi : Oper} {v : Value} {L : Array Bool → Act → Prop} (hi : ops[i]? = some oi) (hsel : ∀ (j : Nat) (o : Oper) cs b, ops[j]? = some o → o.op ≠ .select cs b)
    (hs : Region.sinkB md ops n = true) (hc : Region.chainB md ops n = true) (hn : n < ops.size) (hin : i < n)
    (hdone : ∀ listed a, L listed a → ∀ j ∈ Region.ready md ops listed, n ≤ j) :
    ∀ (f : Nat) (listed : Array Bool) (a : Act), HeadInv md ops n listed →
      (∀ j oj, ops[j]? = some oj → j ≠ i → listed.getD j true = false → (∀ e ∈ oj.after, Region.binds md e = true → e.on ≠ i) → oi.apart ops oj = true) →
      i ∈ Region.ready md ops listed → YieldsIn P ops C oi v a →
      anyL P md ops C n L f (listed.setIfInBounds i true) (a.put oi.dst v) → anyL P md ops C n L (f + 1) listed a := by
  intro f
  induction f with
  | zero =>
    intro listed a inv _ hr hy H
    have hun := (mem_ready.1 hr).1
    refine ⟨fun h => (by rw [h] at hr; cases hr), fun j hj => ?_⟩
    have hjn : j < n := by
      rcases Nat.lt_or_ge j n with h | h
      · exact h
      · exact absurd hj (tail_waits hs hc hn inv _ i rfl hin hun j h)
    refine ⟨hjn, ?_⟩
    by_cases hji : j = i
    · subst hji; exact hy.qOp hi H
    · have := hdone _ _ H j (ready_mono hj hji)
      omega
  | succ f ih =>
    intro listed a inv hfree hr hy H
    have hun := (mem_ready.1 hr).1
    refine ⟨fun h => (by rw [h] at hr; cases hr), fun j hj => ?_⟩
    have hjn : j < n := by
      rcases Nat.lt_or_ge j n with h | h
      · exact h
      · exact absurd hj (tail_waits hs hc hn inv _ i rfl hin hun j h)
    refine ⟨hjn, ?_⟩
    by_cases hji : j = i
    · subst hji; exact hy.qOp hi H
    · have h1 := (H.2 j (ready_mono hj hji)).2
      obtain ⟨hjun, oj, hoj, hall⟩ := mem_ready.1 hj
      have hnot : ∀ e ∈ oj.after, Region.binds md e = true → e.on ≠ i := fun e he hb heq => by
        have h1 := hall e he hb
        rw [heq, getD_both hun] at h1
        cases h1
      have h2 := qOp_put hoj (hfree j oj hoj hji hjun hnot) (fun cs b => hsel i oi cs b hi) (fun cs b => hsel j oj cs b hoj) hy h1
      have hfree' : ∀ k ok, ops[k]? = some ok → k ≠ i → (listed.setIfInBounds j true).getD k true = false →
          (∀ e ∈ ok.after, Region.binds md e = true → e.on ≠ i) → oi.apart ops ok = true := fun k ok hk hki hun hno => by
        refine hfree k ok hk hki ?_ hno
        by_cases hjk : j = k
        · subst hjk; exact hjun
        · rw [getD_set_ne true hjk] at hun; exact hun
      refine qOp_mono (fun a' h3 => ih (listed.setIfInBounds j true) a' (inv.set hj hjn) hfree' (ready_mono hr (Ne.symm hji)) h3.1 ?_) h2
      rw [Array.setIfInBounds_comm _ _ hji]
      exact h3.2

theorem anyL_lex {n g : Nat} {Lq : Act → Prop} (hsel : Region.noSelect ops = true) (hs : Region.sinkB md ops n = true) (hc : Region.chainB md ops n = true) (hn : n < ops.size) :
    ∀ (l : List Oper) (k : Nat) (listed : Array Bool) (a : Act), (∀ j, j < l.length → l[j]? = ops[k + j]?) → k + l.length = n → HeadInv md ops n listed →
    Region.lexHead md ops g l.length k listed = true → wpQuiet P ops C Lq l a →
    anyL P md ops C n (fun listed' a' => Region.seqB md ops g n listed' = true ∧ Lq a') l.length listed a
  | [], k, listed, a, _, hk, _, hB, h => by
    have : k = n := by simpa using hk
    subst this
    exact ⟨by simpa [Region.lexHead] using hB, h⟩
  | o :: l, k, listed, a, hl, hk, inv, hB, h => by
    have h0 : ops[k]? = some o := by simpa using (hl 0 (by simp)).symm
    simp only [List.length_cons, Region.lexHead, Bool.and_eq_true] at hB
    obtain ⟨⟨hr, hf⟩, hB'⟩ := hB
    have hkn : k < n := by simp only [List.length_cons] at hk; omega
    have hr' : k ∈ Region.ready md ops listed := by simpa using hr
    have hst : qOp P ops C k (wpQuiet P ops C Lq l) a := by unfold qOp; simp only [h0]; exact h
    obtain ⟨v, hy, hK⟩ := yieldsIn_of_qOp h0 hst
    exact anyL_first h0 (Region.noSelect_spec hsel) hs hc hn hkn (fun listed' a' hL => seqB_ready hL.1) l.length listed a inv (Region.free_spec h0 hf) hr' hy
      (anyL_lex hsel hs hc hn l (k + 1) _ _ (fun j hj => by have := hl (j + 1) (by simp; omega); simpa [Nat.add_assoc, Nat.add_comm 1 j] using this) (by simp only [List.length_cons] at hk; omega) (inv.set hr' hkn) hB' hK)

/-- the operations but the last ones only read, or call what only reads; the last ones stand in one row -/
theorem region {id : Nat} {Q : Exit → Act → World → Prop} {a : Act} {w : World} {l : List Oper} (n : Nat) (hm : P.follows .mixedOrders = true) (hB : Region.lexTailB .any l.toArray n = true)
    (h : wpQuiet P l.toArray (fun w' => ∃ n, w' = w.drewN n) (fun a' => ∀ w', (∃ n, w' = w.drewN n) → wpList P l.toArray Q (l.drop n) a' w') (l.take n) a) : (Code.region id l.toArray true).wp P Q a w := by
  simp only [Region.lexTailB, Bool.and_eq_true, decide_eq_true_eq] at hB
  obtain ⟨⟨⟨⟨hsel, hn⟩, hs⟩, hc⟩, hlex⟩ := hB
  have hn' : n < l.length := by simpa using hn
  have htl : (l.take n).length = n := by simp; omega
  have hdl : (l.drop n).length = l.toArray.size - n := by simp
  have inv0 : HeadInv .any l.toArray n (Array.replicate l.toArray.size false) :=
    ⟨by simp, fun j oj _ hl => (by rw [getD_replicate_false] at hl; cases hl), fun t _ ht => getD_in (by simpa using ht) (getD_replicate_false _ _)⟩
  have H := anyL_lex (md := .any) (g := l.toArray.size - n) hsel hs hc hn (l.take n) 0 _ a (fun j hj => by
    have hj' : j < n := by rw [htl] at hj; exact hj
    simp [hj']) (by simpa using htl) inv0 (by rw [htl]; exact hlex) h
  refine wp_region_any hm ?_
  have := any_of_head (C := fun w' => ∃ n, w' = w.drewN n) (Q' := Q) (g := l.toArray.size - n) (fun listed a' w' hw' hL => by
    have := wpAny_of_seq (md := .any) (Q' := Q) (l.drop n) n listed a' w' (fun j => by simp [List.getElem?_drop]) (by rw [hdl]; exact hL.1) (hL.2 w' hw')
    rwa [hdl] at this) _ _ _ _ ⟨1, rfl⟩ H
  rw [htl, show n + (l.toArray.size - n) = l.toArray.size by omega] at this
  exact this

/-! the same where the first m operations are plain moves, which may also come up late -/

def sinkFrom (md : Region.Mode) (ops : Array Oper) (m n : Nat) : Bool :=
  (List.range n).all fun i => decide (i < m) || (List.range (n + 1)).any fun j => decide (i < j) && Region.waitsFor md ops j i
theorem tail_waits_from {m n : Nat} {listed : Array Bool} (hs : sinkFrom md ops m n = true) (hc : Region.chainB md ops n = true) (hn : n < ops.size) (inv : HeadInv md ops n listed)
    (hm : ∀ i, i < m → listed.getD i true = true) :
    ∀ (d i : Nat), n - i = d → i < n → listed.getD i true = false → ∀ t, n ≤ t → t ∉ Region.ready md ops listed := by
  intro d
  induction d using Nat.strongRecOn with
  | _ d ih =>
    intro i hd hi hun t ht hr
    obtain ⟨_, ot, hot, hall⟩ := mem_ready.1 hr
    have htlt : t < ops.size := (Array.getElem?_eq_some_iff.1 hot).1
    by_cases htn : t = n
    · subst htn
      have h1 := List.all_eq_true.1 hs i (List.mem_range.2 hi)
      have hnm : ¬ i < m := fun h => by rw [hm i h] at hun; cases hun
      simp only [Bool.or_eq_true, decide_eq_true_eq, hnm, false_or] at h1
      obtain ⟨j, hj, hj2⟩ := List.any_eq_true.1 h1
      simp only [Bool.and_eq_true, decide_eq_true_eq] at hj2
      obtain ⟨oj, hoj, e, he, hb, hon⟩ := Region.waitsFor_spec hj2.2
      have hjle : j ≤ t := by have := List.mem_range.1 hj; omega
      by_cases hjt : j = t
      · subst hjt
        have : oj = ot := Option.some.inj (hoj.symm.trans hot)
        subst this
        have h2 := hall e he hb
        rw [hon, getD_both hun] at h2
        cases h2
      · cases hl : listed.getD j false with
        | true =>
          have h2 := inv.closed j oj hoj hl e he hb
          rw [hon, getD_both hun] at h2
          cases h2
        | false =>
          have hjs : j < listed.size := by rw [inv.size]; omega
          exact ih (t - j) (by omega) j rfl (by omega) (getD_in hjs hl) t (Nat.le_refl _) hr
    · have h1 := List.all_eq_true.1 hc t (List.mem_range.2 htlt)
      simp only [Bool.or_eq_true, decide_eq_true_eq] at h1
      rcases h1 with h1 | h1
      · omega
      · obtain ⟨o', ho', e, he, hb, hon⟩ := Region.waitsFor_spec h1
        have : o' = ot := Option.some.inj (ho'.symm.trans hot)
        subst this
        have h2 := hall e he hb
        rw [hon, getD_both (inv.tail (t - 1) (by omega) (by omega))] at h2
        cases h2

theorem anyL_first_from {m n i : Nat} {oi : Oper} {v : Value} {L : Array Bool → Act → Prop} (hi : ops[i]? = some oi) (hsel : ∀ (j : Nat) (o : Oper) cs b, ops[j]? = some o → o.op ≠ .select cs b)
    (hs : sinkFrom md ops m n = true) (hc : Region.chainB md ops n = true) (hn : n < ops.size) (hin : i < n)
    (hdone : ∀ listed a, L listed a → ∀ j ∈ Region.ready md ops listed, n ≤ j) :
    ∀ (f : Nat) (listed : Array Bool) (a : Act), HeadInv md ops n listed → (∀ i, i < m → listed.getD i true = true) →
      (∀ j oj, ops[j]? = some oj → j ≠ i → listed.getD j true = false → (∀ e ∈ oj.after, Region.binds md e = true → e.on ≠ i) → oi.apart ops oj = true) →
      i ∈ Region.ready md ops listed → YieldsIn P ops C oi v a →
      anyL P md ops C n L f (listed.setIfInBounds i true) (a.put oi.dst v) → anyL P md ops C n L (f + 1) listed a := by
  intro f
  induction f with
  | zero =>
    intro listed a inv hm _ hr hy H
    have hun := (mem_ready.1 hr).1
    refine ⟨fun h => (by rw [h] at hr; cases hr), fun j hj => ?_⟩
    have hjn : j < n := by
      rcases Nat.lt_or_ge j n with h | h
      · exact h
      · exact absurd hj (tail_waits_from hs hc hn inv hm _ i rfl hin hun j h)
    refine ⟨hjn, ?_⟩
    by_cases hji : j = i
    · subst hji; exact hy.qOp hi H
    · have := hdone _ _ H j (ready_mono hj hji)
      omega
  | succ f ih =>
    intro listed a inv hm hfree hr hy H
    have hun := (mem_ready.1 hr).1
    refine ⟨fun h => (by rw [h] at hr; cases hr), fun j hj => ?_⟩
    have hjn : j < n := by
      rcases Nat.lt_or_ge j n with h | h
      · exact h
      · exact absurd hj (tail_waits_from hs hc hn inv hm _ i rfl hin hun j h)
    refine ⟨hjn, ?_⟩
    by_cases hji : j = i
    · subst hji; exact hy.qOp hi H
    · have h1 := (H.2 j (ready_mono hj hji)).2
      obtain ⟨hjun, oj, hoj, hall⟩ := mem_ready.1 hj
      have hnot : ∀ e ∈ oj.after, Region.binds md e = true → e.on ≠ i := fun e he hb heq => by
        have h1 := hall e he hb
        rw [heq, getD_both hun] at h1
        cases h1
      have h2 := qOp_put hoj (hfree j oj hoj hji hjun hnot) (fun cs b => hsel i oi cs b hi) (fun cs b => hsel j oj cs b hoj) hy h1
      have hfree' : ∀ k ok, ops[k]? = some ok → k ≠ i → (listed.setIfInBounds j true).getD k true = false →
          (∀ e ∈ ok.after, Region.binds md e = true → e.on ≠ i) → oi.apart ops ok = true := fun k ok hk hki hun hno => by
        refine hfree k ok hk hki ?_ hno
        by_cases hjk : j = k
        · subst hjk; exact hjun
        · rw [getD_set_ne true hjk] at hun; exact hun
      have hm' : ∀ k, k < m → (listed.setIfInBounds j true).getD k true = true := fun k hk => by
        by_cases hjk : j = k
        · subst hjk; rw [hm j hk] at hjun; cases hjun
        · rw [getD_set_ne true hjk]; exact hm k hk
      refine qOp_mono (fun a' h3 => ih (listed.setIfInBounds j true) a' (inv.set hj hjn) hm' hfree' (ready_mono hr (Ne.symm hji)) h3.1 ?_) h2
      rw [Array.setIfInBounds_comm _ _ hji]
      exact h3.2

theorem anyL_lex_from {m n g : Nat} {Lq : Act → Prop} (hsel : Region.noSelect ops = true) (hs : sinkFrom md ops m n = true) (hc : Region.chainB md ops n = true) (hn : n < ops.size) :
    ∀ (l : List Oper) (k : Nat) (listed : Array Bool) (a : Act), (∀ j, j < l.length → l[j]? = ops[k + j]?) → k + l.length = n → m ≤ k → HeadInv md ops n listed → (∀ i, i < m → listed.getD i true = true) →
    Region.lexHead md ops g l.length k listed = true → wpQuiet P ops C Lq l a →
    anyL P md ops C n (fun listed' a' => Region.seqB md ops g n listed' = true ∧ Lq a') l.length listed a
  | [], k, listed, a, _, hk, _, _, _, hB, h => by
    have : k = n := by simpa using hk
    subst this
    exact ⟨by simpa [Region.lexHead] using hB, h⟩
  | o :: l, k, listed, a, hl, hk, hmk, inv, hm, hB, h => by
    have h0 : ops[k]? = some o := by simpa using (hl 0 (by simp)).symm
    simp only [List.length_cons, Region.lexHead, Bool.and_eq_true] at hB
    obtain ⟨⟨hr, hf⟩, hB'⟩ := hB
    have hkn : k < n := by simp only [List.length_cons] at hk; omega
    have hr' : k ∈ Region.ready md ops listed := by simpa using hr
    have hst : qOp P ops C k (wpQuiet P ops C Lq l) a := by unfold qOp; simp only [h0]; exact h
    obtain ⟨v, hy, hK⟩ := yieldsIn_of_qOp h0 hst
    have hm' : ∀ i, i < m → (listed.setIfInBounds k true).getD i true = true := fun i hi => by
      rw [getD_set_ne true (by omega)]; exact hm i hi
    exact anyL_first_from h0 (Region.noSelect_spec hsel) hs hc hn hkn (fun listed' a' hL => seqB_ready hL.1) l.length listed a inv hm (Region.free_spec h0 hf) hr' hy
      (anyL_lex_from hsel hs hc hn l (k + 1) _ _ (fun j hj => by have := hl (j + 1) (by simp; omega); simpa [Nat.add_assoc, Nat.add_comm 1 j] using this) (by simp only [List.length_cons] at hk; omega) (by omega) (inv.set hr' hkn) hm' hB' hK)

theorem held_of_any {Q : Exit → Act → World → Prop} : ∀ (fuel : Nat) (listed : Array Bool) (a : Act) (w : World), wpAny P md ops Q fuel listed a w → wpAnyH P md ops Q (fun _ => True) fuel listed a w
  | 0, _, _, _, h => h
  | fuel + 1, _, _, _, h => ⟨h.1, fun i hi => wpOp_mono (fun a' w' h' => ⟨trivial, held_of_any fuel _ a' w' h'⟩) (h.2 i hi)⟩

/-- a plain move -/
def isMove (o : Oper) : Bool := o.guard.isNone && match o.op with | .move _ => true | _ => false
theorem move_run {o : Oper} (h : isMove o = true) (a : Act) (w : World) : ∃ v, (execOp a.eval o).run P w = .ok (.value v) w ∧ ∀ w', (execOp a.eval o).run P w' = .ok (.value v) w' := by
  unfold isMove at h
  simp only [Bool.and_eq_true] at h
  obtain ⟨_, h2⟩ := h
  split at h2
  · rename_i x hx
    exact ⟨a.eval x, by simp [execOp, hx], fun w' => by simp [execOp, hx]⟩
  · cases h2

def lexMoves (md : Region.Mode) (ops : Array Oper) (F : Nat → Array Bool → Bool) : Nat → Nat → Array Bool → Bool
  | 0, k, listed => F k listed
  | f + 1, k, listed => (Region.ready md ops listed).contains k && Region.free md ops listed k && ((ops[k]?).map isMove == some true) && lexMoves md ops F f (k + 1) (listed.setIfInBounds k true)

theorem moves_first {m n : Nat} {Q : Exit → Act → World → Prop} {Lq : Act → Prop} {F : Nat → Array Bool → Bool} {w : World} (hsel : Region.noSelect ops = true) (hmn : m ≤ n) (hn : n < ops.size) (hC : C w)
    (hQ : ∀ c a a' w, Q (.panic c) a w → Q (.panic c) a' w) (g : Nat)
    (hK : ∀ listed a, HeadInv md ops n listed → (∀ i, i < m → listed.getD i true = true) → F m listed = true → Lq a → wpAny P md ops Q g listed a w) :
    ∀ (l : List Oper) (k : Nat) (listed : Array Bool) (a : Act), (∀ j, j < l.length → l[j]? = ops[k + j]?) → k + l.length = m → HeadInv md ops n listed → (∀ i, i < k → listed.getD i true = true) →
    lexMoves md ops F l.length k listed = true → wpQuiet P ops C Lq l a → wpAnyH P md ops Q (fun _ => True) (l.length + g) listed a w
  | [], k, listed, a, _, hk, inv, hm, hB, h => by
    have : k = m := by simpa using hk
    subst this
    simp only [List.length_nil, Nat.zero_add]
    exact held_of_any _ _ _ _ (hK _ _ inv hm (by simpa [lexMoves] using hB) h)
  | o :: l, k, listed, a, hl, hk, inv, hm, hB, h => by
    have h0 : ops[k]? = some o := by simpa using (hl 0 (by simp)).symm
    simp only [List.length_cons, lexMoves, Bool.and_eq_true] at hB
    obtain ⟨⟨⟨hr, hf⟩, hmv⟩, hB'⟩ := hB
    rw [h0] at hmv
    have hmv' : isMove o = true := by simpa using hmv
    have hkn : k < n := by simp only [List.length_cons] at hk; omega
    have hr' : k ∈ Region.ready md ops listed := by simpa using hr
    have hst : qOp P ops C k (wpQuiet P ops C Lq l) a := by unfold qOp; simp only [h0]; exact h
    obtain ⟨v, hy, hK'⟩ := yieldsIn_of_qOp h0 hst
    have hyI : YieldsIf P ops (fun _ => True) o v a := by
      rcases hy with ⟨hw, hv⟩ | hy
      · obtain ⟨u, hu, hu'⟩ := move_run (P := P) hmv' a w
        have h3 := hv w hC
        unfold Oper.quietAt at h3
        rw [hu] at h3
        simp only [Oper.quietUpon] at h3
        exact .inl ⟨hw, fun w' _ => by rw [hu' w', h3.2]⟩
      · exact .inr hy
    rw [show (o :: l).length + g = (l.length + g) + 1 from by simp only [List.length_cons]; omega]
    refine wpAnyH_take h0 hsel hf hr (fun c a w h => hQ c _ _ w h) hyI trivial ?_
    refine moves_first hsel hmn hn hC hQ g hK l (k + 1) _ _ (fun j hj => by have := hl (j + 1) (by simp; omega); simpa [Nat.add_assoc, Nat.add_comm 1 j] using this) (by simp only [List.length_cons] at hk; omega) (inv.set hr' hkn) ?_ hB' hK'
    intro i hi
    by_cases h : k = i
    · subst h
      have hks : k < listed.size := by rw [inv.size]; omega
      simp [hks]
    · rw [getD_set_ne true h]; exact hm i (by omega)

def lexTailFrom (md : Region.Mode) (ops : Array Oper) (m n : Nat) : Bool :=
  Region.noSelect ops && decide (n < ops.size) && decide (m ≤ n) && sinkFrom md ops m n && Region.chainB md ops n && lexMoves md ops (fun k listed => Region.lexHead md ops (ops.size - n) (n - m) k listed) m 0 (Array.replicate ops.size false)

theorem wpQuiet_append {Q : Act → Prop} : ∀ (l l' : List Oper) (a : Act), wpQuiet P ops C Q (l ++ l') a → wpQuiet P ops C (wpQuiet P ops C Q l') l a
  | [], _, _, h => h
  | o :: l, l', a, h => by
    simp only [List.cons_append, wpQuiet] at h ⊢
    split
    · rename_i hw
      simp only [hw, if_true] at h
      exact Oper.quiet_mono (fun a' h' => wpQuiet_append l l' a' h') h
    · rename_i hw
      simp only [hw] at h
      exact wpQuiet_append l l' _ h

/-- the first m operations are plain moves; those up to n only read; the last ones stand in one row; nothing panics -/
theorem regionFrom {id : Nat} {Q : Exit → Act → World → Prop} {a : Act} {w : World} {l : List Oper} (m n : Nat) (hmx : P.follows .mixedOrders = true) (hB : lexTailFrom .any l.toArray m n = true)
    (h : wpQuiet P l.toArray (fun w' => ∃ n, w' = w.drewN n) (fun a' => ∀ w', (∃ n, w' = w.drewN n) → wpList P l.toArray (NoPanic Q) (l.drop n) a' w') (l.take n) a) : (Code.region id l.toArray true).wp P Q a w := by
  simp only [lexTailFrom, Bool.and_eq_true, decide_eq_true_eq] at hB
  obtain ⟨⟨⟨⟨⟨hsel, hn⟩, hmn⟩, hs⟩, hc⟩, hlex⟩ := hB
  have hn' : n < l.length := by simpa using hn
  have htl : (l.take n).length = n := by simp; omega
  have hdl : (l.drop n).length = l.toArray.size - n := by simp
  have hsz : l.toArray.size = l.length := by simp
  have inv0 : HeadInv .any l.toArray n (Array.replicate l.toArray.size false) :=
    ⟨by simp, fun j oj _ hl => (by rw [getD_replicate_false] at hl; cases hl), fun t _ ht => getD_in (by simpa using ht) (getD_replicate_false _ _)⟩
  have hsplit : l.take n = l.take m ++ (l.take n).drop m := by
    have h2 := List.take_append_drop m (l.take n)
    rw [List.take_take, Nat.min_eq_left hmn] at h2
    exact h2.symm
  rw [hsplit] at h
  have h1 := wpQuiet_append _ _ _ h
  have hml : (l.take m).length = m := by simp; omega
  have hdl2 : ((l.take n).drop m).length = n - m := by simp; omega
  refine wp_region_noPanic (wp_region_held (S := fun _ => True) hmx ?_)
  have key := moves_first (md := .any) (C := fun w' => ∃ n, w' = w.drewN n) (w := { w with drawn := w.drawn + 1 }) (Q := NoPanic Q)
    (F := fun k listed => Region.lexHead .any l.toArray (l.toArray.size - n) (n - m) k listed) (g := (n - m) + (l.toArray.size - n)) hsel hmn hn ⟨1, rfl⟩ (fun c a a' w h => h)
    (fun listed a inv hm hF hL => by
      have H := anyL_lex_from (md := .any) (g := l.toArray.size - n) hsel hs hc hn ((l.take n).drop m) m listed a (fun j hj => by
        rw [hdl2] at hj
        rw [List.getElem?_drop, List.getElem?_take, if_pos (by omega)]
        simp) (by rw [hdl2]; omega) (Nat.le_refl _) inv hm (by rw [hdl2]; exact hF) hL
      have := any_of_head (C := fun w' => ∃ n, w' = w.drewN n) (Q' := NoPanic Q) (g := l.toArray.size - n) (fun listed a' w' hw' hL => by
        have := wpAny_of_seq (md := .any) (Q' := NoPanic Q) (l.drop n) n listed a' w' (fun j => by simp [List.getElem?_drop]) (by rw [hdl]; exact hL.1) (hL.2 w' hw')
        rwa [hdl] at this) _ _ _ { w with drawn := w.drawn + 1 } ⟨1, rfl⟩ H
      rwa [hdl2] at this)
    (l.take m) 0 _ a (fun j hj => by
      rw [hml] at hj
      rw [List.getElem?_take, if_pos hj]
      simp) (by rw [hml]; omega) inv0 (fun i hi => by omega) (by rw [hml]; exact hlex) h1
  rw [hml] at key
  rwa [show m + (n - m + (l.toArray.size - n)) = l.toArray.size from by omega] at key
end
end Go.Proofs.Ytcigijhoeghnnaa.tail
/- Contract of Program of layer 7 (flash), for every argument. No condition. -/
namespace Go.Proofs.Ytcigijhoeghnnaa.flash
open Go.RowKit Go.Proofs.Ytcigijhoeghnnaa.word
set_option linter.unusedVariables false

theorem program_nil (a : Int) (x : Nat) (w : World) : Calls Try.prog 44 #[.pointer none, .int .i64 a, .int .u32 x] w (Quiet (.int .i64 1) w) := by
  go_enter Try.func44, Try.ntmps44
  go_wp2_with (go_at_call 41; (with_reducible refine (read_nil _ _).mono ?_); rintro e w' ⟨rfl, m, rfl⟩)
  go_ret
  exact ⟨rfl, _, rfl⟩
theorem At.drewN {S : Nat → Prop} {b : Nat} {F : Fl} {ca cb cm : Value} {bw cw bv cv : Nat} {w : World} (h : At S b F ca cb cm bw cw bv cv w) (n : Nat) : At S b F ca cb cm bw cw bv cv (w.drewN n) := h.later (below_drewN (Below.refl _ _) n)
/-- Program, where Read answers an error -/
theorem program_err {S : Nat → Prop} {b : Nat} {F : Fl} {ca cb cm : Value} {bw cw bv cv : Nat} {w : World} (h : At S b F ca cb cm bw cw bv cv w) (a : Int) (x : Nat) (z : Int) (hz : z = 3 ∨ z = 10)
    (hr : Calls Try.prog 41 #[.pointer (some ⟨b, 0, none⟩), .int .i64 a] w (Quiet (.tuple #[.int .u32 0, .int .i64 z]) w)) :
    Calls Try.prog 44 #[.pointer (some ⟨b, 0, none⟩), .int .i64 a, .int .u32 x] w (Turned S b F bw cw bv cv (.int .i64 z) w) := by
  have H := hid h
  clear h
  rcases hz with rfl | rfl
  all_goals
    go_enter Try.func44, Try.ntmps44
    go_wp2_with (go_at_call 41; (with_reducible refine hr.mono ?_); rintro e w' ⟨rfl, m, rfl⟩)
    go_ret
    exact ⟨rfl, _, _, _, H.out.drewN _, (Only.refl _ _).drewN _⟩
theorem program_any {S : Nat → Prop} {b : Nat} {F : Fl} {ca cb cm : Value} {bw cw bv cv : Nat} {w : World} (h : At S b F ca cb cm bw cw bv cv w) (ok : F.Ok) (hcount : F.count < 4611686018427387904) (a : Int) (x : Nat) (hx : x < 4294967296) :
    Calls Try.prog 44 #[.pointer (some ⟨b, 0, none⟩), .int .i64 a, .int .u32 x] w (Turned S b (F.program a x).2 bw cw bv cv (.int .i64 (F.program a x).1) w) := by
  have hr := read_any h ok a
  by_cases hd : F.dark = true
  · have e1 : F.read a = (0, 10) := by rw [Fl.read, if_pos hd]
    have e2 : F.program a x = (10, F) := by rw [Fl.program, if_pos hd]
    rw [e1] at hr
    rw [e2]
    exact program_err h a x 10 (.inr rfl) hr
  by_cases h0 : a < 0 ∨ (F.ws.length : Int) ≤ a
  · have e1 : F.read a = (0, 3) := by rw [Fl.read, if_neg hd, if_pos h0]
    have e2 : F.program a x = (3, F) := by rw [Fl.program, if_neg hd, if_pos h0]
    rw [e1] at hr
    rw [e2]
    exact program_err h a x 3 (.inl rfl) hr
  obtain ⟨k, rfl⟩ := Int.eq_ofNat_of_zero_le (show 0 ≤ a by omega)
  have hk : k < F.ws.length := by omega
  have e1 : F.read k = (F.ws.getD k 0, 0) := by rw [Fl.read, if_neg hd, if_neg h0, Int.toNat_natCast]
  rw [e1] at hr
  have hu : F.ws.getD k 0 < 4294967296 := getD_lt ok.w (by decide) k
  have hwi := fun w' => within_any x (F.ws.getD k 0) hx hu w'
  have HK : Hid ((k : Int) < F.ws.length) := hid (by omega)
  by_cases hcl : clr x (F.ws.getD k 0) ≠ 0
  · have e2 : F.program k x = (11, F) := by rw [Fl.program, if_neg hd, if_neg h0, Int.toNat_natCast, if_pos hcl]
    rw [e2]
    have hq : (clr x (F.ws.getD k 0) == 0) = false := by simpa using hcl
    rw [hq] at hwi
    have H := hid h
    clear h ok e1 e2 hcl h0 hd hq
    generalize F.ws.getD k 0 = u at *
    go_enter Try.func44, Try.ntmps44
    go_wp2_with (first
      | (go_at_call 41; (with_reducible refine hr.mono ?_); rintro e w' ⟨rfl, m, rfl⟩)
      | (go_at_call 57; (with_reducible refine (hwi _).mono ?_); rintro e w' ⟨rfl, m2, rfl⟩))
    go_ret
    exact ⟨rfl, _, _, _, (H.out.drewN _), (Only.refl _ _).drewN _⟩
  have hcl' : clr x (F.ws.getD k 0) = 0 := by simpa using hcl
  rw [hcl'] at hwi
  have hq : ((0 : Nat) == 0) = true := rfl
  rw [hq] at hwi
  obtain ⟨_, _, _, _, _, _, c6, _⟩ := h.cell
  have f6 := h.blk.frozen 6
  have hcnt : ∀ m, At S b { F with count := F.count + 1 } ca cb cm bw cw bv cv ((w.drewN m).setCell ⟨b, 6, none⟩ (.int .i64 ((F.count : Int) + 1))) := fun m => (h.drewN m).counted (F.count + 1)
  have hO6 : ∀ m, Only (at3 b bw bv) w ((w.drewN m).setCell ⟨b, 6, none⟩ (.int .i64 ((F.count : Int) + 1))) := fun m => ((Only.refl _ w).drewN _).setCell (.inl (.inl rfl)) _ _
  have HC := hid hcnt
  have HO6 := hid hO6
  have ok1 : Fl.Ok { F with count := F.count + 1 } := ⟨ok.l1, ok.l2, ok.s1, ok.s2, ok.n, ok.w, fun x hx => by have := ok.c x hx; show x ≤ F.count + 1; omega, ok.m⟩
  have HK1 := hid ok1
  have HOK := hid ok
  have H := hid h
  cases ht : tears F.fuse with
  | some M =>
    have e2 : F.program k x = (10, F.tore (F.ws.set k (clr (F.ws.getD k 0) (clr (maskAt M 0) x))) F.worn) := by rw [Fl.program, if_neg hd, if_neg h0, Int.toNat_natCast, if_neg hcl, ht]
    rw [e2]
    obtain ⟨hfu, hM⟩ := F.tears_m ok ht
    have HT : Hid ({ F with count := F.count + 1 }.fuse = some (0, M)) := hfu
    have HM := hid hM
    have hml := maskAt_lt M 0 hM
    have hto := fun w' => torn_any (F.ws.getD k 0) x (maskAt M 0) hu hx hml w'
    have HL := hid ok.l1
    have HL2 := hid ok.l2
    have hn := ok.ws_le
    have hte : ∀ m, Calls Try.prog 58 #[.pointer (some ⟨b, 0, none⟩)] ((w.drewN m).setCell ⟨b, 6, none⟩ (.int .i64 ((F.count : Int) + 1))) (Quiet (.bool true) ((w.drewN m).setCell ⟨b, 6, none⟩ (.int .i64 ((F.count : Int) + 1)))) := fun m => tears_yes (hcnt m) M hfu
    have hma : ∀ w', MasksAt S (at3 b bw bv) F.long M cm w' → w'.cell? ⟨b, 2, none⟩ = some cm → Calls Try.prog 60 #[.pointer (some ⟨b, 0, none⟩), .int .i64 0] w' (Quiet (.int .u32 (maskAt M 0 : Nat)) w') := fun w' hm hc => mask_any hm hc 0 ok.l1 ok.l2 hM
    clear h ok e1 e2 hcl hcl' h0 hd hq hfu hM ht hcnt hO6 ok1
    generalize hv : clr (F.ws.getD k 0) (clr (maskAt M 0) x) = v at *
    have HV := hid hv
    clear hv
    generalize hu' : F.ws.getD k 0 = u at *
    have HU := hid hu'
    clear hu'
    generalize hm' : maskAt M 0 = m0 at *
    have HM0 := hid hm'
    clear hm'
    go_enter Try.func44, Try.ntmps44
    go_wp2_with (first
      | (go_at_call 41; (with_reducible refine hr.mono ?_); clear hr; rintro e w' ⟨rfl, m, rfl⟩)
      | (go_at_call 57; (with_reducible refine (hwi _).mono ?_); rintro e w' ⟨rfl, m2, rfl⟩)
      | (go_at_call 58; (with_reducible refine (hte _).mono ?_); rintro e w' ⟨rfl, m3, rfl⟩))
    have hA := (HC.out (m + m2)).drewN m3
    have hO := (HO6.out (m + m2)).drewN m3
    obtain ⟨w4, hw4⟩ : ∃ x, Hid (((w.drewN (m + m2)).setCell ⟨b, 6, none⟩ (.int .i64 ((F.count : Int) + 1))).drewN m3 = x) := ⟨_, rfl⟩
    rw [hw4.out] at hA hO ⊢
    have d2 : w4.cell? ⟨b, 2, none⟩ = some cm := hA.cell.2.2.1
    have d3 : w4.cell? ⟨b, 3, none⟩ = some (.slice (some ⟨bw, 0, none⟩) F.ws.length cw) := hA.cell.2.2.2.1
    have fu := hA.fuse
    rw [HT.out] at fu
    have hma' := fun n => hma (w4.drewN n) (fu.2.2.only ((Only.refl (fun _ => False) w4).drewN n) (fun _ h _ => h.elim)) d2
    have hk : k < F.ws.length := by have := HK.out; omega
    have i1 := HK.out
    have HA := hid hA
    have HO := hid hO
    have hcell : w4.cell? ⟨bw, k, none⟩ = some (.int .u32 (u : Int)) := by rw [hA.ws.get hk]; exact congrArg (fun x : Nat => some (Value.int .u32 (x : Int))) HU.out
    have hfz := hA.ws.frozen k
    clear hma HT fu hA hO
    refine tail.region 12 (by kernel_rfl) (by kernel_rfl) ?_
    simp only [List.take_succ_cons, List.take_zero, List.drop_succ_cons, List.drop_zero]
    repeat (go_big_quiet_step (first
      | (go_at_call 60; (with_reducible exact quietAt (hma' _)))
      | (go_at_call 59; (with_reducible exact quietAt (hto _)))))
    refine wpQuiet_nil ?_
    rintro _ ⟨nq, rfl⟩
    have hfa := fail_any ((HA.out.drewN nq).word hk v)
    go_wp2_with (go_at_call 61; (with_reducible refine hfa.mono ?_); rintro e w' ⟨rfl, ca', cb', cm', hA', hO'⟩)
    go_ret
    exact ⟨rfl, ca', cb', cm', hA', ((HO.out.drewN nq).setCell (.inl (.inr (.inl rfl))) _ _).trans hO'⟩
  | none =>
    have e2 : F.program k x = (0, F.wrote (F.ws.set k x) F.worn) := by rw [Fl.program, if_neg hd, if_neg h0, Int.toNat_natCast, if_neg hcl, ht]
    rw [e2]
    have hn := ok.ws_le
    have hte : ∀ m, Calls Try.prog 58 #[.pointer (some ⟨b, 0, none⟩)] ((w.drewN m).setCell ⟨b, 6, none⟩ (.int .i64 ((F.count : Int) + 1))) (Turned S b { F with count := F.count + 1, fuse := burnt F.fuse } bw cw bv cv (.bool false) ((w.drewN m).setCell ⟨b, 6, none⟩ (.int .i64 ((F.count : Int) + 1)))) := fun m => tears_no (hcnt m) ok1 ht
    clear h ok e1 e2 hcl hcl' h0 hd hq ht hcnt hO6 ok1
    generalize hu' : F.ws.getD k 0 = u at *
    have HU := hid hu'
    clear hu'
    go_enter Try.func44, Try.ntmps44
    go_wp2_with (first
      | (go_at_call 41; (with_reducible refine hr.mono ?_); clear hr; rintro e w' ⟨rfl, m, rfl⟩)
      | (go_at_call 57; (with_reducible refine (hwi _).mono ?_); rintro e w' ⟨rfl, m2, rfl⟩)
      | (go_at_call 58; (with_reducible refine (hte _).mono ?_); rintro e w4 ⟨rfl, ca', cb', cm', hA, hO⟩;
          have d3 : w4.cell? ⟨b, 3, none⟩ = some (.slice (some ⟨bw, 0, none⟩) F.ws.length cw) := hA.cell.2.2.2.1;
          have hk : k < F.ws.length := (by have := HK.out; omega);
          have hcell : w4.cell? ⟨bw, k, none⟩ = some (.int .u32 (u : Int)) := (by rw [hA.ws.get hk]; exact congrArg (fun x : Nat => some (Value.int .u32 (x : Int))) HU.out);
          have hfz := hA.ws.frozen k; have i1 := HK.out; have HA := hid hA; have HO := hid ((HO6.out (m + m2)).trans hO); clear hA hO))
    go_ret
    exact ⟨rfl, ca', cb', cm', HA.out.word hk x, HO.out.setCell (.inl (.inr (.inl rfl))) _ _⟩
end Go.Proofs.Ytcigijhoeghnnaa.flash
/- Contract of Erase of layer 7 (flash), for every argument. No condition. -/
namespace Go.Proofs.Ytcigijhoeghnnaa.flash
open Go.RowKit Go.Proofs.Ytcigijhoeghnnaa.word
set_option linter.unusedVariables false

theorem erase_nil (a : Int) (w : World) : Calls Try.prog 45 #[.pointer none, .int .i64 a] w (Quiet (.int .i64 1) w) := by
  go_enter Try.func45, Try.ntmps45
  go_wp2_with (go_at_call 56; (with_reducible refine (ready_nil _).mono ?_); rintro e w' ⟨rfl, m, rfl⟩)
  go_ret
  exact ⟨rfl, _, rfl⟩
set_option maxHeartbeats 16000000 in
theorem erase_any {S : Nat → Prop} {b : Nat} {F : Fl} {ca cb cm : Value} {bw cw bv cv : Nat} {w : World} (h : At S b F ca cb cm bw cw bv cv w) (ok : F.Ok) (hcount : F.count < 4611686018427387904) (s : Int) :
    Calls Try.prog 45 #[.pointer (some ⟨b, 0, none⟩), .int .i64 s] w (Turned S b (F.erase s).2 bw cw bv cv (.int .i64 (F.erase s).1) w) := by
  obtain ⟨_, _, _, c3, c4, c5, c6, c7⟩ := h.cell
  have hr := ready_any b F.dark w c7
  by_cases hd : F.dark = true
  · have e2 : F.erase s = (10, F) := by rw [Fl.erase, if_pos hd]
    rw [e2]
    rw [if_pos hd] at hr
    have H := hid h
    clear h ok e2 c3 c4 c5 c6 c7 hd
    go_enter Try.func45, Try.ntmps45
    go_wp2_with (go_at_call 56; (with_reducible refine hr.mono ?_); rintro e w' ⟨rfl, m, rfl⟩)
    go_ret
    exact ⟨rfl, _, _, _, H.out.drewN _, (Only.refl _ _).drewN _⟩
  rw [if_neg hd] at hr
  have hs2 := ok.s2
  by_cases h0 : s < 0
  · have e2 : F.erase s = (3, F) := by rw [Fl.erase, if_neg hd, if_pos (.inl h0)]
    rw [e2]
    have H := hid h
    clear h ok e2 c7 hd
    go_enter Try.func45, Try.ntmps45
    go_wp2_with (go_at_call 56; (with_reducible refine hr.mono ?_); rintro e w' ⟨rfl, m, rfl⟩)
    go_ret
    exact ⟨rfl, _, _, _, H.out.drewN _, (Only.refl _ _).drewN _⟩
  by_cases h1 : (F.worn.length : Int) ≤ s
  · have e2 : F.erase s = (3, F) := by rw [Fl.erase, if_neg hd, if_pos (.inr h1)]
    rw [e2]
    have H := hid h
    clear h ok e2 c7 hd
    go_enter Try.func45, Try.ntmps45
    go_wp2_with (go_at_call 56; (with_reducible refine hr.mono ?_); rintro e w' ⟨rfl, m, rfl⟩)
    go_ret
    exact ⟨rfl, _, _, _, H.out.drewN _, (Only.refl _ _).drewN _⟩
  obtain ⟨k, rfl⟩ := Int.eq_ofNat_of_zero_le (show 0 ≤ s by omega)
  have hk : k < F.worn.length := by omega
  have HK := hid hk
  have i1 : (k : Int) < F.worn.length := by omega
  have f6 := h.blk.frozen 6
  have hwv := h.wn.get hk
  have hu : F.worn.getD k 0 ≤ F.count := by
    have := getD_lt (B := F.count + 1) (fun x hx => by have := ok.c x hx; omega) (by omega) (l := F.worn) k
    omega
  have hsec := ok.sector hk
  have HW : Hid (∀ m, At S b { F with worn := F.worn1 k, count := F.count + 1 } ca cb cm bw cw bv cv (((w.drewN m).setCell ⟨b, 6, none⟩ (.int .i64 ((F.count : Int) + 1))).setCell ⟨bv, k, none⟩ (.int .i64 ((F.worn.getD k 0 : Nat) + 1)))) :=
    hid fun m => ((h.drewN m).counted (F.count + 1)).wear hk (F.worn.getD k 0 + 1)
  have HO : Hid (∀ m, Only (at3 b bw bv) w (((w.drewN m).setCell ⟨b, 6, none⟩ (.int .i64 ((F.count : Int) + 1))).setCell ⟨bv, k, none⟩ (.int .i64 ((F.worn.getD k 0 : Nat) + 1)))) :=
    hid fun m => (((Only.refl _ w).drewN _).setCell (.inl (.inl rfl)) _ _).setCell (.inl (.inr (.inr rfl))) _ _
  have ok1 : Hid (Fl.Ok { F with worn := F.worn1 k, count := F.count + 1 }) := hid ⟨ok.l1, ok.l2, by rw [Fl.worn1_length]; exact ok.s1, by rw [Fl.worn1_length]; exact ok.s2, by rw [Fl.worn1_length]; exact ok.n, ok.w, Fl.worn1_le ok k, ok.m⟩
  have n2 : ¬ (bv = b) := fun e => h.n2 e.symm
  have f2 : w.frozen? ⟨bv, k, none⟩ = false := h.wn.frozen k
  have HOK := hid ok
  have hl1 := ok.l1
  have hl2 := ok.l2
  have hwl := ok.ws_le
  have ec : F.erase k = (match tears F.fuse with
      | some M => (10, F.tore (run (tornWord M) (k * F.long) F.long F.ws) (F.worn1 k))
      | none => (0, F.wrote (run blank (k * F.long) F.long F.ws) (F.worn1 k))) := by
    rw [Fl.erase, if_neg hd, if_neg (by omega)]
    cases tears F.fuse <;> rfl
  rw [ec]
  have hpl : (k : Int) * (F.long : Int) = ((k * F.long : Nat) : Int) := by simp
  have hql : ((k : Int) + 1) * (F.long : Int) = ((k * F.long + F.long : Nat) : Int) := by rw [Int.add_mul]; simp
  have hcw : F.ws.length ≤ cw := by obtain ⟨pad, _, h, _⟩ := h.ws; exact h
  generalize hP : k * F.long = p at *
  generalize hQ : p + F.long = q at *
  have hpq : p < q := by omega
  have e3 : q - p = F.long := by omega
  clear h ok c7 hd ec h0
  generalize F.worn.getD k 0 = u at *
  have HH := hid hQ
  clear hQ
  cases ht : tears F.fuse with
  | none =>
    go_enter Try.func45, Try.ntmps45
    go_wp2_with (go_at_call 56; (with_reducible refine hr.mono ?_); clear hr; rintro e w' ⟨rfl, m, rfl⟩)
    have hA := HW.out m
    have hO := HO.out m
    obtain ⟨w4, hw4⟩ : ∃ x, Hid (((w.drewN m).setCell ⟨b, 6, none⟩ (.int .i64 ((F.count : Int) + 1))).setCell ⟨bv, k, none⟩ (.int .i64 ((u : Int) + 1)) = x) := ⟨_, rfl⟩
    rw [hw4.out] at hA hO ⊢
    have d3 : w4.cell? ⟨b, 3, none⟩ = some (.slice (some ⟨bw, 0, none⟩) F.ws.length cw) := hA.cell.2.2.2.1
    have d4 : w4.cell? ⟨b, 4, none⟩ = some (.int .i64 (F.long : Int)) := hA.cell.2.2.2.2.1
    have hte : ∀ n, Calls Try.prog 58 #[.pointer (some ⟨b, 0, none⟩)] (w4.drewN n) (Turned S b { F with worn := F.worn1 k, count := F.count + 1, fuse := burnt F.fuse } bw cw bv cv (.bool false) (w4.drewN n)) := fun n => tears_no (hA.drewN n) ok1.out ht
    have HA := hid hA
    have HO4 := hid hO
    have hq1 : (p : Int) ≤ q := by omega
    have hq2 : (q : Int) ≤ cw := by omega
    have hq3 : ¬ (cw = p) := by omega
    clear hA hO ht HW HO ok1 c3 c4 c5 c6 hwv f6 f2 hcount hu hw4 i1
    go_quiet (fail)
    go_wp2_with (go_at_call 58; (with_reducible refine (hte _).mono ?_); rintro e w5 ⟨rfl, ca', cb', cm', hA, hO⟩)
    have HA5 : Hid (At S b (F.wrote (run blank p 0 F.ws) (F.worn1 k)) ca' cb' cm' bw cw bv cv w5) := hid hA
    have HO5 := hid ((HO4.out.drewN nq).trans hO)
    clear hA hO hte HA HO4 d3 d4
    go_loopw [86] (fun i wr => ∃ j : Nat, j ≤ F.long ∧ i = .int .i64 (j : Int) ∧ Hid (At S b (F.wrote (run blank p j F.ws) (F.worn1 k)) ca' cb' cm' bw cw bv cv wr) ∧ Hid (Only (at3 b bw bv) w wr)) (fun i _ => F.long - (intOf i).toNat)
    case atStart => exact ⟨0, Nat.zero_le _, rfl, HA5, HO5⟩
    case round =>
      obtain ⟨j, hj, rfl, hA, hO⟩ := hrel
      by_cases hlt : j < F.long
      · have hpj : p + j < (F.wrote (run blank p j F.ws) (F.worn1 k)).ws.length := by
          show p + j < (run blank p j F.ws).length
          rw [run_length]; have := HH.out; omega
        have hcell := hA.out.ws.get hpj
        generalize (F.wrote (run blank p j F.ws) (F.worn1 k)).ws.getD (p + j) 0 = z at hcell
        have hfz := hA.out.ws.frozen (p + j)
        have i1 : (j : Int) < F.long := by omega
        go_wp2
        exact ⟨⟨j + 1, by omega, by go_num, hid (hA.out.word hpj 4294967295), hid (hO.out.setCell (.inl (.inr (.inl rfl))) _ _)⟩, by simp [intOf]; omega⟩
      · obtain rfl : j = F.long := by omega
        go_wp2
        go_ret
        exact ⟨rfl, ca', cb', cm', hA.out, hO.out⟩
  | some M =>
    obtain ⟨hfu, hM⟩ := F.tears_m HOK.out ht
    go_enter Try.func45, Try.ntmps45
    go_wp2_with (go_at_call 56; (with_reducible refine hr.mono ?_); clear hr; rintro e w' ⟨rfl, m, rfl⟩)
    have hA := HW.out m
    have hO := HO.out m
    obtain ⟨w4, hw4⟩ : ∃ x, Hid (((w.drewN m).setCell ⟨b, 6, none⟩ (.int .i64 ((F.count : Int) + 1))).setCell ⟨bv, k, none⟩ (.int .i64 ((u : Int) + 1)) = x) := ⟨_, rfl⟩
    rw [hw4.out] at hA hO ⊢
    have d3 : w4.cell? ⟨b, 3, none⟩ = some (.slice (some ⟨bw, 0, none⟩) F.ws.length cw) := hA.cell.2.2.2.1
    have d4 : w4.cell? ⟨b, 4, none⟩ = some (.int .i64 (F.long : Int)) := hA.cell.2.2.2.2.1
    have hte : ∀ n, Calls Try.prog 58 #[.pointer (some ⟨b, 0, none⟩)] (w4.drewN n) (Quiet (.bool true) (w4.drewN n)) := fun n => tears_yes (hA.drewN n) M hfu
    have HA := hid hA
    have HO4 := hid hO
    have HM := hid hM
    have HFU := hid hfu
    have hq1 : (p : Int) ≤ q := by omega
    have hq2 : (q : Int) ≤ cw := by omega
    have hq3 : ¬ (cw = p) := by omega
    clear hA hO ht HW HO ok1 c3 c4 c5 c6 hwv f6 f2 hcount hu hw4 i1 hM hfu
    go_quiet (fail)
    go_wp2_with (go_at_call 58; (with_reducible refine (hte _).mono ?_); rintro e w5 ⟨rfl, n2, rfl⟩)
    have HA5 : Hid (At S b { F with worn := F.worn1 k, count := F.count + 1, ws := run (tornWord M) p 0 F.ws } ca cb cm bw cw bv cv (w4.drewN (nq + n2))) := hid (HA.out.drewN _)
    have HO5 := hid (HO4.out.drewN (nq + n2))
    clear hte HA HO4 d3 d4
    go_loopw [66] (fun i wr => ∃ j : Nat, j ≤ F.long ∧ i = .int .i64 (j : Int) ∧ Hid (At S b { F with worn := F.worn1 k, count := F.count + 1, ws := run (tornWord M) p j F.ws } ca cb cm bw cw bv cv wr) ∧ Hid (Only (at3 b bw bv) w wr)) (fun i _ => F.long - (intOf i).toNat)
    case atStart => exact ⟨0, Nat.zero_le _, rfl, HA5, HO5⟩
    case round =>
      obtain ⟨j, hj, rfl, hA, hO⟩ := hrel
      by_cases hlt : j < F.long
      · have hpj : p + j < (run (tornWord M) p j F.ws).length := by
          rw [run_length]; have := HH.out; omega
        have hcell := hA.out.ws.get hpj
        have hz : (run (tornWord M) p j F.ws).getD (p + j) 0 = F.ws.getD (p + j) 0 := by
          rw [run_getD _ _ _ _ _ (by have := HH.out; omega), if_neg (by omega)]
        rw [hz] at hcell
        have hzl : F.ws.getD (p + j) 0 < 4294967296 := getD_lt HOK.out.w (by decide) _
        have hml := maskAt_lt M j HM.out
        have hra := fun w' => raised_any (F.ws.getD (p + j) 0) (maskAt M j) hzl hml w'
        have hx : run (tornWord M) p (j + 1) F.ws = (run (tornWord M) p j F.ws).set (p + j) (F.ws.getD (p + j) 0 ||| maskAt M j) := rfl
        have HX := hid hx
        have d2 : wr.cell? ⟨b, 2, none⟩ = some cm := hA.out.cell.2.2.1
        have fu := hA.out.fuse
        rw [show Fl.fuse { F with worn := F.worn1 k, count := F.count + 1, ws := run (tornWord M) p j F.ws } = some (0, M) from HFU.out] at fu
        have hma := mask_any (b := b) (i := j) fu.2.2 d2 hlt hl2 HM.out
        clear hx hz fu
        generalize (F.ws.getD (p + j) 0 ||| maskAt M j) = y at *
        generalize maskAt M j = y2 at *
        generalize F.ws.getD (p + j) 0 = z at *
        have hfz := hA.out.ws.frozen (p + j)
        have i1 : (j : Int) < F.long := by omega
        go_wp2_with (first
          | (go_at_call 60; (with_reducible refine hma.mono ?_); rintro e w' ⟨rfl, n3, rfl⟩)
          | (go_at_call 62; (with_reducible refine (hra _).mono ?_); rintro e w' ⟨rfl, n4, rfl⟩))
        refine ⟨⟨j + 1, by omega, by go_num, ?_, hid ((hO.out.drewN _).setCell (.inl (.inr (.inl rfl))) _ _)⟩, by simp [intOf]; omega⟩
        rw [HX.out]
        exact hid ((hA.out.drewN _).word hpj y)
      · obtain rfl : j = F.long := by omega
        have hfa := fail_any hA.out
        go_wp2_with (go_at_call 61; (with_reducible refine hfa.mono ?_); rintro e w' ⟨rfl, ca', cb', cm', hA', hO'⟩)
        go_ret
        exact ⟨rfl, ca', cb', cm', hA', hO.out.trans hO'⟩
end Go.Proofs.Ytcigijhoeghnnaa.flash
