/- A flash in the memory: its block, its fuse, its rows of words and of wear. No condition. -/
import Derived.Test.YtdpddcmbilipfaaOnly
import Derived.Test.YtdpddcmbilipfaaFlashMath
namespace Go.Proofs.Ytdpddcmbilipfaa.flash
open Go.RowKit Go.Proofs.Ytdpddcmbilipfaa.word
set_option linter.unusedVariables false

/-- the slice of masks M, in memory that is not the flash's other blocks; of them only the first L are there -/
def MasksAt (S : Nat → Prop) (no : Nat → Prop) (L : Nat) (M : List Nat) (cm : Value) (w : World) : Prop :=
  ∃ a c, cm = .slice a (min M.length L) c ∧ min M.length L ≤ c ∧ Reads .u32 w a (min M.length L) (M.take L) ∧ (min M.length L = 0 ∨ ∃ x, a = some x ∧ S x.block ∧ ¬ no x.block)
def FuseAt (S : Nat → Prop) (no : Nat → Prop) (L : Nat) (fuse : Option (Nat × List Nat)) (ca cb cm : Value) (w : World) : Prop :=
  match fuse with
  | none => ca = .bool false ∧ cb = .int .i64 0 ∧ cm = .slice none 0 0
  | some (n, M) => ca = .bool true ∧ cb = .int .i64 (n : Int) ∧ MasksAt S no L M cm w
theorem MasksAt.only {S no T : Nat → Prop} {L : Nat} {M : List Nat} {cm : Value} {w w' : World} (h : MasksAt S no L M cm w) (k : Only T w w') (hT : ∀ x, T x → S x → no x) : MasksAt S no L M cm w' := by
  obtain ⟨a, c, h1, h0, h2, h3⟩ := h
  refine ⟨a, c, h1, h0, reads_only h2 k ?_, h3⟩
  rcases h3 with h | ⟨x, hx, h4, h5⟩
  · exact .inl h
  · exact .inr ⟨x, hx, fun ht => h5 (hT _ ht h4)⟩
theorem FuseAt.only {S no T : Nat → Prop} {L : Nat} {fuse : Option (Nat × List Nat)} {ca cb cm : Value} {w w' : World} (h : FuseAt S no L fuse ca cb cm w) (k : Only T w w') (hT : ∀ x, T x → S x → no x) : FuseAt S no L fuse ca cb cm w' := by
  match fuse, h with
  | none, h => exact h
  | some (n, M), ⟨h1, h2, h3⟩ => exact ⟨h1, h2, h3.only k hT⟩
def at3 (b bw bv : Nat) (x : Nat) : Prop := x = b ∨ x = bw ∨ x = bv
/-- the flash's values in the blocks b, bw (words), bv (wear); all that it may turn or that it needs lies in S -/
structure At (S : Nat → Prop) (b : Nat) (F : Fl) (ca cb cm : Value) (bw cw bv cv : Nat) (w : World) : Prop where
  blk : Block w b 63 [ca, cb, cm, .slice (some ⟨bw, 0, none⟩) F.ws.length cw, .int .i64 (F.long : Int), .slice (some ⟨bv, 0, none⟩) F.worn.length cv, .int .i64 (F.count : Int), .bool F.dark]
  fuse : FuseAt S (at3 b bw bv) F.long F.fuse ca cb cm w
  ws : Row w 32 .u32 bw cw F.ws
  wn : Row w 3 .i64 bv cv F.worn
  n1 : b ≠ bw
  n2 : b ≠ bv
  n3 : bw ≠ bv
  s1 : S b
  s2 : S bw
  s3 : S bv
def FlashAt (S : Nat → Prop) (b : Nat) (F : Fl) (w : World) : Prop := ∃ ca cb cm bw cw bv cv, At S b F ca cb cm bw cw bv cv w
section
variable {S T : Nat → Prop} {b : Nat} {F : Fl} {ca cb cm : Value} {bw cw bv cv : Nat} {w w' : World}
theorem At.lt (h : At S b F ca cb cm bw cw bv cv w) : b < w.heap.size := h.blk.lt
theorem At.mem (h : At S b F ca cb cm bw cw bv cv w) (x : Nat) (hx : at3 b bw bv x) : S x := by
  rcases hx with e | e | e
  · rw [e]; exact h.s1
  · rw [e]; exact h.s2
  · rw [e]; exact h.s3
theorem At.only (h : At S b F ca cb cm bw cw bv cv w) (k : Only T w w') (hT : ∀ x, T x → ¬ S x) : At S b F ca cb cm bw cw bv cv w' :=
  ⟨h.blk.only k (fun ht => hT _ ht h.s1), h.fuse.only k (fun x ht hs => absurd hs (hT x ht)), h.ws.only k (fun ht => hT _ ht h.s2), h.wn.only k (fun ht => hT _ ht h.s3), h.n1, h.n2, h.n3, h.s1, h.s2, h.s3⟩
theorem At.later (h : At S b F ca cb cm bw cw bv cv w) (k : Below w.heap.size w w') : At S b F ca cb cm bw cw bv cv w' :=
  h.only (T := fun _ => False) (Only.of k) (fun _ h => h.elim)
theorem At.wide (h : At S b F ca cb cm bw cw bv cv w) (hS : ∀ x, S x → T x) : At T b F ca cb cm bw cw bv cv w := by
  refine ⟨h.blk, ?_, h.ws, h.wn, h.n1, h.n2, h.n3, hS _ h.s1, hS _ h.s2, hS _ h.s3⟩
  have hf := h.fuse
  unfold FuseAt at hf ⊢
  split
  · rename_i e; rw [e] at hf; exact hf
  · rename_i n M e
    rw [e] at hf
    obtain ⟨h1, h2, a, c, h3, h0, h4, h5⟩ := hf
    exact ⟨h1, h2, a, c, h3, h0, h4, h5.imp id fun ⟨x, hx, h6, h7⟩ => ⟨x, hx, hS _ h6, h7⟩⟩
theorem FlashAt.only (h : FlashAt S b F w) (k : Only T w w') (hT : ∀ x, T x → ¬ S x) : FlashAt S b F w' := by
  obtain ⟨ca, cb, cm, bw, cw, bv, cv, h⟩ := h
  exact ⟨ca, cb, cm, bw, cw, bv, cv, h.only k hT⟩
theorem FlashAt.later (h : FlashAt S b F w) (k : Below w.heap.size w w') : FlashAt S b F w' := by
  obtain ⟨ca, cb, cm, bw, cw, bv, cv, h⟩ := h
  exact ⟨ca, cb, cm, bw, cw, bv, cv, h.later k⟩
theorem FlashAt.wide (h : FlashAt S b F w) (hS : ∀ x, S x → T x) : FlashAt T b F w := by
  obtain ⟨ca, cb, cm, bw, cw, bv, cv, h⟩ := h
  exact ⟨ca, cb, cm, bw, cw, bv, cv, h.wide hS⟩
/-- a cell of the flash's own block turned -/
theorem At.put (h : At S b F ca cb cm bw cw bv cv w) (o : Nat) (v : Value) : Only (fun x => x = b) w (w.setCell ⟨b, o, none⟩ v) := (Only.refl (fun x => x = b) w).setCell (.inl rfl) o v
theorem only_b (h : At S b F ca cb cm bw cw bv cv w) : ∀ x, x = b → S x → at3 b bw bv x := by rintro x rfl _; exact .inl rfl
theorem At.counted (h : At S b F ca cb cm bw cw bv cv w) (n : Nat) : At S b { F with count := n } ca cb cm bw cw bv cv (w.setCell ⟨b, 6, none⟩ (.int .i64 (n : Int))) :=
  ⟨h.blk.setCell 6 _, h.fuse.only (h.put 6 _) (only_b h), h.ws.apart _ _ _ h.n1.symm, h.wn.apart _ _ _ h.n2.symm, h.n1, h.n2, h.n3, h.s1, h.s2, h.s3⟩
theorem At.burnt (h : At S b F ca cb cm bw cw bv cv w) {n : Nat} {M : List Nat} (hf : F.fuse = some (n, M)) : At S b { F with fuse := some (n - 1, M) } ca (.int .i64 ((n - 1 : Nat) : Int)) cm bw cw bv cv (w.setCell ⟨b, 1, none⟩ (.int .i64 ((n - 1 : Nat) : Int))) := by
  refine ⟨h.blk.setCell 1 _, ?_, h.ws.apart _ _ _ h.n1.symm, h.wn.apart _ _ _ h.n2.symm, h.n1, h.n2, h.n3, h.s1, h.s2, h.s3⟩
  have h2 := h.fuse.only (h.put 1 (.int .i64 ((n - 1 : Nat) : Int))) (only_b h)
  rw [hf] at h2
  exact ⟨h2.1, rfl, h2.2.2⟩
theorem At.darkened (h : At S b F ca cb cm bw cw bv cv w) (d : Bool) : At S b { F with dark := d } ca cb cm bw cw bv cv (w.setCell ⟨b, 7, none⟩ (.bool d)) :=
  ⟨h.blk.setCell 7 _, h.fuse.only (h.put 7 _) (only_b h), h.ws.apart _ _ _ h.n1.symm, h.wn.apart _ _ _ h.n2.symm, h.n1, h.n2, h.n3, h.s1, h.s2, h.s3⟩
theorem At.word (h : At S b F ca cb cm bw cw bv cv w) {i : Nat} (hi : i < F.ws.length) (v : Nat) : At S b { F with ws := F.ws.set i v } ca cb cm bw cw bv cv (w.setCell ⟨bw, i, none⟩ (.int .u32 (v : Int))) := by
  have ho : Only (fun x => x = bw) w (w.setCell ⟨bw, i, none⟩ (.int .u32 (v : Int))) := (Only.refl (fun x => x = bw) w).setCell (.inl rfl) i _
  refine ⟨?_, h.fuse.only ho (by rintro x rfl _; exact .inr (.inl rfl)), h.ws.set hi v, h.wn.apart _ _ _ h.n3.symm, h.n1, h.n2, h.n3, h.s1, h.s2, h.s3⟩
  have := h.blk.apart bw i (.int .u32 (v : Int)) h.n1
  simpa using this
theorem At.wear (h : At S b F ca cb cm bw cw bv cv w) {i : Nat} (hi : i < F.worn.length) (v : Nat) : At S b { F with worn := F.worn.set i v } ca cb cm bw cw bv cv (w.setCell ⟨bv, i, none⟩ (.int .i64 (v : Int))) := by
  have ho : Only (fun x => x = bv) w (w.setCell ⟨bv, i, none⟩ (.int .i64 (v : Int))) := (Only.refl (fun x => x = bv) w).setCell (.inl rfl) i _
  refine ⟨?_, h.fuse.only ho (by rintro x rfl _; exact .inr (.inr rfl)), h.ws.apart _ _ _ h.n3, h.wn.set hi v, h.n1, h.n2, h.n3, h.s1, h.s2, h.s3⟩
  have := h.blk.apart bv i (.int .i64 (v : Int)) h.n2
  simpa using this
/-- the fuse's three cells made new: none -/
theorem At.unfused (h : At S b F ca cb cm bw cw bv cv w) (hx : w' = ((w.setCell ⟨b, 0, none⟩ (.bool false)).setCell ⟨b, 1, none⟩ (.int .i64 0)).setCell ⟨b, 2, none⟩ (.slice none 0 0)) : At S b { F with fuse := none } (.bool false) (.int .i64 0) (.slice none 0 0) bw cw bv cv w' ∧ Only (fun x => x = b) w w' := by
  subst hx
  have ho : Only (fun x => x = b) w (((w.setCell ⟨b, 0, none⟩ (.bool false)).setCell ⟨b, 1, none⟩ (.int .i64 0)).setCell ⟨b, 2, none⟩ (.slice none 0 0)) := (((Only.refl (fun x => x = b) w).setCell (.inl rfl) 0 _).setCell (.inl rfl) 1 _).setCell (.inl rfl) 2 _
  exact ⟨⟨((h.blk.setCell 0 _).setCell 1 _).setCell 2 _, ⟨rfl, rfl, rfl⟩, h.ws.only ho h.n1.symm, h.wn.only ho h.n2.symm, h.n1, h.n2, h.n3, h.s1, h.s2, h.s3⟩, ho⟩
theorem At.cell (h : At S b F ca cb cm bw cw bv cv w) : w.cell? ⟨b, 0, none⟩ = some ca ∧ w.cell? ⟨b, 1, none⟩ = some cb ∧ w.cell? ⟨b, 2, none⟩ = some cm ∧ w.cell? ⟨b, 3, none⟩ = some (.slice (some ⟨bw, 0, none⟩) F.ws.length cw) ∧
    w.cell? ⟨b, 4, none⟩ = some (.int .i64 (F.long : Int)) ∧ w.cell? ⟨b, 5, none⟩ = some (.slice (some ⟨bv, 0, none⟩) F.worn.length cv) ∧ w.cell? ⟨b, 6, none⟩ = some (.int .i64 (F.count : Int)) ∧ w.cell? ⟨b, 7, none⟩ = some (.bool F.dark) := by
  simp only [h.blk.cell]
  exact ⟨rfl, rfl, rfl, rfl, rfl, rfl, rfl, rfl⟩
end
end Go.Proofs.Ytdpddcmbilipfaa.flash
