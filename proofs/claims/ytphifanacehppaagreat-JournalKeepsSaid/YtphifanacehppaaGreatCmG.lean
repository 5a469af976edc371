/- Contracts and lemmas that the claims of this seat share: JournalHold, FlashRef, WordRefBits, FlashRefProgram, FlashRefErase, FlashRefArm, GeomRef. Each says its own conditions. -/
import Derived.Test.YtphifanacehppaaGreatCmD
import Derived.Test.YtphifanacehppaaGreatCmE
import Derived.Test.YtphifanacehppaaGreatCmF
import Derived.Test.YtphifanacehppaaGreatCmA
import Derived.Test.YtphifanacehppaaGreatCmC
import Derived.Maps.AppendAt
/- A journal in the memory: what it owns, and what stands of it when something else turns. No condition. -/
namespace Go.Proofs.YtphifanacehppaaGreat.journal
open Go.RowKit Go.Proofs.YtphifanacehppaaGreat.flash Go.Proofs.YtphifanacehppaaGreat.geom
set_option linter.unusedVariables false

/-- the journal at block j over the drive at d over the flash at b; S is the flash's, X the loads', M holds all -/
structure JIn (M S X : Nat → Prop) (j d b : Nat) (g : Geo) (F : Fl) (J : Jv) (wv cv : Value) (w : World) : Prop where
  dr : drive.DriveAt S d b g F w
  blk : Block w j 95 [.pointer (some ⟨d, 0, none⟩), .int .i64 (J.sector : Int), .int .i64 (J.p.seq : Int), wv, cv, .int .i64 (J.p.tail : Int), .bool J.torn]
  wh : LoadAt X w wv J.p.whole
  ch : LoadsAt X w cv J.p.changes
  sx : ∀ x, X x → ¬ S x
  sj : ¬ S j
  xj : ¬ X j
  xd : ¬ X d
  dj : d ≠ j
  sub : ∀ x, S x ∨ X x ∨ x = j ∨ x = d → M x
  lm : ∀ x, M x → x < w.heap.size
def JAt (M : Nat → Prop) (j d b : Nat) (g : Geo) (F : Fl) (J : Jv) (w : World) : Prop := ∃ S X wv cv, JIn M S X j d b g F J wv cv w
/-- the journal becomes J over the flash F; only what it had in M turns -/
def JTurn (M : Nat → Prop) (j d b : Nat) (g : Geo) (F : Fl) (J : Jv) (w w' : World) : Prop :=
  ∃ M', JAt M' j d b g F J w' ∧ (∀ x, M' x → x < w'.heap.size ∧ (M x ∨ w.heap.size ≤ x)) ∧ Only M w w'
section
variable {M S X T : Nat → Prop} {j d b : Nat} {g : Geo} {F G : Fl} {J K : Jv} {wv cv : Value} {w w1 w' : World}
theorem JIn.later (h : JIn M S X j d b g F J wv cv w) (k : Below w.heap.size w w') : JIn M S X j d b g F J wv cv w' :=
  ⟨h.dr.later k, h.blk.later k, h.wh.stays (.below k), h.ch.stays (.below k), h.sx, h.sj, h.xj, h.xd, h.dj, h.sub, fun x hx => Nat.lt_of_lt_of_le (h.lm x hx) k.size⟩
theorem JAt.later (h : JAt M j d b g F J w) (k : Below w.heap.size w w') : JAt M j d b g F J w' := by
  obtain ⟨S, X, wv, cv, h⟩ := h
  exact ⟨S, X, wv, cv, h.later k⟩
theorem JAt.lt (h : JAt M j d b g F J w) : ∀ x, M x → x < w.heap.size := by obtain ⟨S, X, wv, cv, h⟩ := h; exact h.lm
theorem JIn.only (h : JIn M S X j d b g F J wv cv w) (k : Only T w w') (hT : ∀ x, M x → ¬ T x) : JIn M S X j d b g F J wv cv w' :=
  have hS : ∀ x, T x → ¬ S x := fun x hx hs => hT x (h.sub x (.inl hs)) hx
  have hX : ∀ x, X x → ¬ T x := fun x hs => hT x (h.sub x (.inr (.inl hs)))
  ⟨⟨h.dr.blk.only k (hT d (h.sub d (.inr (.inr (.inr rfl))))), h.dr.fl.only k hS, h.dr.nd⟩, h.blk.only k (hT j (h.sub j (.inr (.inr (.inl rfl))))), h.wh.stays (.only k hX), h.ch.stays (.only k hX), h.sx, h.sj, h.xj, h.xd, h.dj, h.sub, fun x hx => Nat.lt_of_lt_of_le (h.lm x hx) k.size⟩
theorem JAt.only (h : JAt M j d b g F J w) (k : Only T w w') (hT : ∀ x, M x → ¬ T x) : JAt M j d b g F J w' := by
  obtain ⟨S, X, wv, cv, h⟩ := h
  exact ⟨S, X, wv, cv, h.only k hT⟩
theorem JTurn.of (h : JAt M j d b g F J w) (k : Below w.heap.size w w') : JTurn M j d b g F J w w' := ⟨M, h.later k, fun x hx => ⟨(h.later k).lt x hx, .inl hx⟩, Only.of k⟩
theorem JTurn.before (hb : Below w.heap.size w w1) (k : JTurn M j d b g F J w1 w') : JTurn M j d b g F J w w' := by
  obtain ⟨M', h1, h2, h3⟩ := k
  exact ⟨M', h1, fun x hx => ⟨(h2 x hx).1, (h2 x hx).2.imp id fun h => Nat.le_trans hb.size h⟩, (Only.of hb).next h3 fun x hx _ => hx⟩
theorem JTurn.later (k : JTurn M j d b g F J w w1) (hb : Below w1.heap.size w1 w') : JTurn M j d b g F J w w' := by
  obtain ⟨M', h1, h2, h3⟩ := k
  exact ⟨M', h1.later hb, fun x hx => ⟨Nat.lt_of_lt_of_le (h2 x hx).1 hb.size, (h2 x hx).2⟩, h3.later hb⟩
/-- behind a call that turned the drive's flash -/
theorem JIn.turn (h : JIn M S X j d b g F J wv cv w) (k : drive.Turn S b G w w1) : ∃ S', JIn (fun x => (M x ∨ w.heap.size ≤ x) ∧ x < w1.heap.size) S' X j d b g G J wv cv w1 ∧ (∀ x, S' x → x < w1.heap.size ∧ (S x ∨ w.heap.size ≤ x)) ∧ Only S w w1 := by
  obtain ⟨S', hD, k2, k3⟩ := h.dr.turn k
  have hX : ∀ x, X x → x < w.heap.size := fun x hx => h.lm x (h.sub x (.inr (.inl hx)))
  have hj := h.blk.lt
  refine ⟨S', ⟨hD, h.blk.only k3 h.sj, h.wh.stays (.only k3 h.sx), h.ch.stays (.only k3 h.sx), fun x hx hs => ?_, fun hs => ?_, h.xj, h.xd, h.dj, fun x hx => ?_, fun x hx => hx.2⟩, k2, k3⟩
  · rcases (k2 x hs).2 with h1 | h1
    · exact h.sx x hx h1
    · have := hX x hx; omega
  · rcases (k2 j hs).2 with h1 | h1
    · exact h.sj h1
    · omega
  · have hs := k3.size
    rcases hx with hx | hx | rfl | rfl
    · refine ⟨?_, (k2 x hx).1⟩
      rcases (k2 x hx).2 with h1 | h1
      · exact .inl (h.sub x (.inl h1))
      · exact .inr h1
    · exact ⟨.inl (h.sub x (.inr (.inl hx))), by have := hX x hx; omega⟩
    · exact ⟨.inl (h.sub _ (.inr (.inr (.inl rfl)))), by omega⟩
    · exact ⟨.inl (h.sub _ (.inr (.inr (.inr rfl)))), by have := h.dr.lt; omega⟩
theorem JIn.turned (h : JIn M S X j d b g F J wv cv w) (k : drive.Turn S b G w w1) : JTurn M j d b g G J w w1 := by
  obtain ⟨S', h1, h2, h3⟩ := h.turn k
  exact ⟨_, ⟨_, _, _, _, h1⟩, fun x hx => ⟨hx.2, hx.1⟩, h3.mono fun x hx _ => h.sub x (.inl hx)⟩
theorem JIn.cells (h : JIn M S X j d b g F J wv cv w) : w.cell? ⟨j, 0, none⟩ = some (.pointer (some ⟨d, 0, none⟩)) ∧ w.cell? ⟨j, 1, none⟩ = some (.int .i64 (J.sector : Int)) ∧ w.cell? ⟨j, 2, none⟩ = some (.int .i64 (J.p.seq : Int)) ∧ w.cell? ⟨j, 3, none⟩ = some wv ∧ w.cell? ⟨j, 4, none⟩ = some cv ∧ w.cell? ⟨j, 5, none⟩ = some (.int .i64 (J.p.tail : Int)) ∧ w.cell? ⟨j, 6, none⟩ = some (.bool J.torn) := by
  simp only [h.blk.cell]
  exact ⟨rfl, rfl, rfl, rfl, rfl, rfl, rfl⟩
theorem JIn.seen (h : JIn M S X j d b g F J wv cv w) : Hid (∀ w', Below w.heap.size w w' → w'.cell? ⟨j, 0, none⟩ = some (.pointer (some ⟨d, 0, none⟩)) ∧ w'.cell? ⟨j, 1, none⟩ = some (.int .i64 (J.sector : Int)) ∧ w'.cell? ⟨j, 2, none⟩ = some (.int .i64 (J.p.seq : Int)) ∧ w'.cell? ⟨j, 3, none⟩ = some wv ∧ w'.cell? ⟨j, 4, none⟩ = some cv ∧ w'.cell? ⟨j, 5, none⟩ = some (.int .i64 (J.p.tail : Int)) ∧ w'.cell? ⟨j, 6, none⟩ = some (.bool J.torn)) :=
  hid fun w' hb => (h.later hb).cells
/-- behind a store and a read of words: the journal says what was read -/
theorem JIn.read {R : Part} {A : Nat} {tn : Bool} {cs : List Value} (h : JIn M S X j d b g F J wv cv w) (hcs : part4 cs 2 (.int .i64 (R.seq : Int)) wv cv (.int .i64 (R.tail : Int)) = [.pointer (some ⟨d, 0, none⟩), .int .i64 (A : Int), .int .i64 (R.seq : Int), wv, cv, .int .i64 (R.tail : Int), .bool tn])
    (hlen : 5 < cs.length) (hO : Only (fun y => y = j ∨ X y) w w1) (k : ReadDone X j 2 95 cs R w1 w') : JTurn M j d b g F ⟨A, R, tn⟩ w w' := by
  obtain ⟨X', wv', cv', k1, k2, k3, k4, k5, k6⟩ := k
  have hO2 : Only (fun y => y = j ∨ X y) w w' := hO.next k6 fun x hx _ => hx
  have hX : ∀ x, X x → x < w.heap.size := fun x hx => h.lm x (h.sub x (.inr (.inl hx)))
  have hs := hO2.size
  have hs1 := hO.size
  have hj := h.blk.lt
  have hd := h.dr.lt
  have hcs2 : part4 cs 2 (.int .i64 (R.seq : Int)) wv' cv' (.int .i64 (R.tail : Int)) = [.pointer (some ⟨d, 0, none⟩), .int .i64 (A : Int), .int .i64 (R.seq : Int), wv', cv', .int .i64 (R.tail : Int), .bool tn] := by
    have h1 := congrArg (fun l => (l.set 3 wv').set 4 cv') hcs
    rw [part4_set1 (o := 2) hlen] at h1
    rw [part4_set2 (o := 2) hlen] at h1
    exact h1
  rw [hcs2] at k1
  have lowS : ∀ x, (x = j ∨ X x) → ¬ S x := fun x hx hsx => by
    rcases hx with rfl | hx
    · exact h.sj hsx
    · exact h.sx x hx hsx
  have up : ∀ x, X' x → x < w'.heap.size ∧ (X x ∨ w.heap.size ≤ x) := fun x hx => ⟨(k4 x hx).1, (k4 x hx).2.imp id fun h => by omega⟩
  have hfl := (drive.FlashAt.clip h.dr.fl).only hO2 (fun x hx hs => lowS x hx hs.1)
  refine ⟨fun x => (M x ∨ w.heap.size ≤ x) ∧ x < w'.heap.size, ⟨fun x => S x ∧ x < w.heap.size, X', wv', cv', ⟨h.dr.blk.only hO2 (fun hx => ?_), hfl, fun hx => h.dr.nd hx.1⟩, k1, k2, k3, fun x hx hsx => ?_, fun hx => h.sj hx.1, k5, fun hx => ?_, h.dj, fun x hx => ?_, fun x hx => hx.2⟩, fun x hx => ⟨hx.2, hx.1⟩, hO2.mono fun x hx _ => ?_⟩
  · rcases hx with hx | hx
    · exact h.dj hx
    · exact h.xd hx
  · rcases (up x hx).2 with h1 | h1
    · exact h.sx x h1 hsx.1
    · omega
  · rcases (up d hx).2 with h1 | h1
    · exact h.xd h1
    · omega
  · rcases hx with hx | hx | rfl | rfl
    · exact ⟨.inl (h.sub x (.inl hx.1)), by omega⟩
    · refine ⟨?_, (up x hx).1⟩
      rcases (up x hx).2 with h1 | h1
      · exact .inl (h.sub x (.inr (.inl h1)))
      · exact .inr h1
    · exact ⟨.inl (h.sub _ (.inr (.inr (.inl rfl)))), by omega⟩
    · exact ⟨.inl (h.sub _ (.inr (.inr (.inr rfl)))), by omega⟩
  · rcases hx with rfl | hx
    · exact h.sub _ (.inr (.inr (.inl rfl)))
    · exact h.sub _ (.inr (.inl hx))
theorem JTurn.join {M' : Nat → Prop} (h2 : ∀ x, M' x → x < w1.heap.size ∧ (M x ∨ w.heap.size ≤ x)) (h3 : Only M w w1) (k : JTurn M' j d b g G K w1 w') : JTurn M j d b g G K w w' := by
  obtain ⟨M2, k1, k2, k3⟩ := k
  refine ⟨M2, k1, fun x hx => ⟨(k2 x hx).1, ?_⟩, h3.next k3 fun x hx hlt => ?_⟩
  · rcases (k2 x hx).2 with h | h
    · exact (h2 x h).2
    · exact .inr (Nat.le_trans h3.size h)
  · rcases (h2 x hx).2 with h | h
    · exact h
    · omega
end
end Go.Proofs.YtphifanacehppaaGreat.journal
/- The reference's flash in the memory, and its contracts: mask, torn, Read, Power. No condition. -/
namespace Go.Proofs.YtphifanacehppaaGreat.flash
open Go.RowKit Go.Proofs.YtphifanacehppaaGreat.word
set_option linter.unusedVariables false

def afterOf : Option (Nat × List Nat) → Int
  | none => -1
  | some (n, _) => n
def RFuse (S no : Nat → Prop) (fuse : Option (Nat × List Nat)) (cm : Value) (w : World) : Prop :=
  match fuse with
  | none => True
  | some (_, M) => MasksAt S no M.length M cm w
/-- the reference's flash at block g: its rows of words and of wear at gW, gV -/
structure RAt (S : Nat → Prop) (g : Nat) (F : Fl) (cm : Value) (gW cW gV cV : Nat) (w : World) : Prop where
  blk : Block w g 82 [.slice (some ⟨gW, 0, none⟩) F.ws.length cW, .int .i64 (F.long : Int), .slice (some ⟨gV, 0, none⟩) F.worn.length cV, .int .i64 (F.count : Int), .bool F.dark, .int .i64 (afterOf F.fuse), cm]
  fuse : RFuse S (at3 g gW gV) F.fuse cm w
  ws : Row w 43 .u32 gW cW F.ws
  wn : Row w 3 .i64 gV cV F.worn
  n1 : g ≠ gW
  n2 : g ≠ gV
  n3 : gW ≠ gV
  s1 : S g
  s2 : S gW
  s3 : S gV
def RefAt (S : Nat → Prop) (g : Nat) (F : Fl) (w : World) : Prop := ∃ cm gW cW gV cV, RAt S g F cm gW cW gV cV w
section
variable {S T no : Nat → Prop} {g : Nat} {F : Fl} {cm : Value} {gW cW gV cV : Nat} {w w' : World} {fuse : Option (Nat × List Nat)}
theorem RFuse.only (h : RFuse S no fuse cm w) (k : Only T w w') (hT : ∀ x, T x → S x → no x) : RFuse S no fuse cm w' := by
  match fuse, h with
  | none, h => trivial
  | some (n, M), h => exact MasksAt.only h k hT
theorem RAt.mem (h : RAt S g F cm gW cW gV cV w) (x : Nat) (hx : at3 g gW gV x) : S x := by
  rcases hx with e | e | e
  · rw [e]; exact h.s1
  · rw [e]; exact h.s2
  · rw [e]; exact h.s3
theorem RAt.only (h : RAt S g F cm gW cW gV cV w) (k : Only T w w') (hT : ∀ x, T x → ¬ S x) : RAt S g F cm gW cW gV cV w' :=
  ⟨h.blk.only k (fun ht => hT _ ht h.s1), h.fuse.only k (fun x ht hs => absurd hs (hT x ht)), h.ws.only k (fun ht => hT _ ht h.s2), h.wn.only k (fun ht => hT _ ht h.s3), h.n1, h.n2, h.n3, h.s1, h.s2, h.s3⟩
theorem RAt.later (h : RAt S g F cm gW cW gV cV w) (k : Below w.heap.size w w') : RAt S g F cm gW cW gV cV w' := h.only (T := fun _ => False) (Only.of k) (fun _ h => h.elim)
theorem RAt.drewN (h : RAt S g F cm gW cW gV cV w) (n : Nat) : RAt S g F cm gW cW gV cV (w.drewN n) := h.later (below_drewN (Below.refl _ _) n)
theorem RAt.clip (h : RAt S g F cm gW cW gV cV w) : RAt (fun x => S x ∧ x < w.heap.size) g F cm gW cW gV cV w := by
  refine ⟨h.blk, ?_, h.ws, h.wn, h.n1, h.n2, h.n3, ⟨h.s1, h.blk.lt⟩, ⟨h.s2, h.ws.lt⟩, ⟨h.s3, h.wn.lt⟩⟩
  have hf := h.fuse
  unfold RFuse at hf ⊢
  split
  · trivial
  · rename_i n M e
    rw [e] at hf
    obtain ⟨a, c, h3, h0, h4, h5⟩ := hf
    refine ⟨a, c, h3, h0, h4, ?_⟩
    rcases h5 with hz | ⟨x, hx, h6, h7⟩
    · exact .inl hz
    · rcases h4.2 with hz | ⟨b', off, ha, hlt, _⟩
      · exact .inl hz
      · rw [hx] at ha
        cases ha
        exact .inr ⟨_, hx, ⟨h6, hlt⟩, h7⟩
theorem RefAt.only (h : RefAt S g F w) (k : Only T w w') (hT : ∀ x, T x → ¬ S x) : RefAt S g F w' := by
  obtain ⟨cm, gW, cW, gV, cV, h⟩ := h
  exact ⟨cm, gW, cW, gV, cV, h.only k hT⟩
theorem RefAt.later (h : RefAt S g F w) (k : Below w.heap.size w w') : RefAt S g F w' := by
  obtain ⟨cm, gW, cW, gV, cV, h⟩ := h
  exact ⟨cm, gW, cW, gV, cV, h.later k⟩
theorem RAt.cell (h : RAt S g F cm gW cW gV cV w) : w.cell? ⟨g, 0, none⟩ = some (.slice (some ⟨gW, 0, none⟩) F.ws.length cW) ∧ w.cell? ⟨g, 1, none⟩ = some (.int .i64 (F.long : Int)) ∧ w.cell? ⟨g, 2, none⟩ = some (.slice (some ⟨gV, 0, none⟩) F.worn.length cV) ∧
    w.cell? ⟨g, 3, none⟩ = some (.int .i64 (F.count : Int)) ∧ w.cell? ⟨g, 4, none⟩ = some (.bool F.dark) ∧ w.cell? ⟨g, 5, none⟩ = some (.int .i64 (afterOf F.fuse)) ∧ w.cell? ⟨g, 6, none⟩ = some cm := by
  simp only [h.blk.cell]
  exact ⟨rfl, rfl, rfl, rfl, rfl, rfl, rfl⟩
theorem RAt.put (h : RAt S g F cm gW cW gV cV w) (o : Nat) (v : Value) : Only (fun x => x = g) w (w.setCell ⟨g, o, none⟩ v) := (Only.refl (fun x => x = g) w).setCell (.inl rfl) o v
theorem RAt.word (h : RAt S g F cm gW cW gV cV w) {i : Nat} (hi : i < F.ws.length) (v : Nat) : RAt S g { F with ws := F.ws.set i v } cm gW cW gV cV (w.setCell ⟨gW, i, none⟩ (.int .u32 (v : Int))) := by
  have ho : Only (fun x => x = gW) w (w.setCell ⟨gW, i, none⟩ (.int .u32 (v : Int))) := (Only.refl (fun x => x = gW) w).setCell (.inl rfl) i _
  refine ⟨?_, h.fuse.only ho (by rintro x rfl _; exact .inr (.inl rfl)), h.ws.set hi v, h.wn.apart _ _ _ h.n3.symm, h.n1, h.n2, h.n3, h.s1, h.s2, h.s3⟩
  have := h.blk.apart gW i (.int .u32 (v : Int)) h.n1
  simpa using this
theorem RAt.wear (h : RAt S g F cm gW cW gV cV w) {i : Nat} (hi : i < F.worn.length) (v : Nat) : RAt S g { F with worn := F.worn.set i v } cm gW cW gV cV (w.setCell ⟨gV, i, none⟩ (.int .i64 (v : Int))) := by
  have ho : Only (fun x => x = gV) w (w.setCell ⟨gV, i, none⟩ (.int .i64 (v : Int))) := (Only.refl (fun x => x = gV) w).setCell (.inl rfl) i _
  refine ⟨?_, h.fuse.only ho (by rintro x rfl _; exact .inr (.inr rfl)), h.ws.apart _ _ _ h.n3, h.wn.set hi v, h.n1, h.n2, h.n3, h.s1, h.s2, h.s3⟩
  have := h.blk.apart gV i (.int .i64 (v : Int)) h.n2
  simpa using this
/-- cells of the flash's own block turned -/
theorem RAt.own (h : RAt S g F cm gW cW gV cV w) {G : Fl} (hb : Block w' g 82 [.slice (some ⟨gW, 0, none⟩) F.ws.length cW, .int .i64 (F.long : Int), .slice (some ⟨gV, 0, none⟩) F.worn.length cV, .int .i64 (G.count : Int), .bool G.dark, .int .i64 (afterOf G.fuse), cm])
    (hw : G.ws = F.ws) (hl : G.long = F.long) (hv : G.worn = F.worn) (hO : Only (fun x => x = g) w w') (hf : RFuse S (at3 g gW gV) G.fuse cm w) : RAt S g G cm gW cW gV cV w' := by
  refine ⟨by rw [hw, hl, hv]; exact hb, hf.only hO (by rintro x rfl _; exact .inl rfl), by rw [hw]; exact h.ws.only hO h.n1.symm, by rw [hv]; exact h.wn.only hO h.n2.symm, h.n1, h.n2, h.n3, h.s1, h.s2, h.s3⟩
end
theorem refMask_any {S no : Nat → Prop} {g : Nat} {M : List Nat} {cm : Value} {w : World} (hm : MasksAt S no M.length M cm w) (hc : w.cell? ⟨g, 6, none⟩ = some cm) (i : Nat) (hi : i ≤ 1048576) (hL : M.length ≤ 140737488355328) :
    Calls Tryz.prog 105 #[.pointer (some ⟨g, 0, none⟩), .int .i64 (i : Int)] w (Quiet (.int .u32 (maskAt M i : Nat)) w) := by
  obtain ⟨a, c, rfl, _, hr, _⟩ := hm
  rw [Nat.min_self, List.take_of_length_le (Nat.le_refl _)] at hr
  rw [Nat.min_self] at hc
  by_cases h0 : M.length = 0
  · rw [maskAt, if_pos h0]
    rw [h0] at hc
    clear hr hL
    go_enter Tryz.func105, Tryz.ntmps105
    go_wp2
    go_ret
    exact ⟨rfl, 0, rfl⟩
  · rw [maskAt, if_neg h0]
    generalize hn : M.length = n at *
    have hlt : i % n < n := Nat.mod_lt _ (by omega)
    obtain ⟨b2, off, rfl, _, hcell⟩ := hr.at hlt
    have c2 := hcell (i % n) hlt
    have hpos : 0 < n := by omega
    clear hr hcell
    generalize M.getD (i % n) 0 = x at *
    generalize hq : i % n = q at *
    have hq2 : (i : Int) % (n : Int) = (q : Int) := by omega
    clear hn hq h0
    go_enter Tryz.func105, Tryz.ntmps105
    go_wp2
    go_quiet (fail)
    go_wp2
    go_ret
    exact ⟨rfl, nq, rfl⟩
/-- the call answers v; the reference's flash becomes F; what turns is its own -/
def RTurned (S : Nat → Prop) (g : Nat) (F : Fl) (cm : Value) (gW cW gV cV : Nat) (v : Value) (w : World) (e : Ending) (w' : World) : Prop :=
  e = .returned v ∧ RAt S g F cm gW cW gV cV w' ∧ Only (at3 g gW gV) w w'
theorem torn_yes {S : Nat → Prop} {g : Nat} {F : Fl} {cm : Value} {gW cW gV cV : Nat} {w : World} (h : RAt S g F cm gW cW gV cV w) (hcount : F.count < 4611686018427387904) (M : List Nat) (ht : F.fuse = some (0, M)) :
    Calls Tryz.prog 104 #[.pointer (some ⟨g, 0, none⟩)] w fun e w' => RTurned S g { F with count := F.count + 1, dark := true, fuse := none } cm gW cW gV cV (.bool true) w e w' ∧ MasksAt S (at3 g gW gV) M.length M cm w' := by
  obtain ⟨_, _, _, c3, c4, c5, _⟩ := h.cell
  have f3 := h.blk.frozen 3
  have f4 := h.blk.frozen 4
  have f5 := h.blk.frozen 5
  rw [ht] at c5
  have c5' : w.cell? ⟨g, 5, none⟩ = some (.int .i64 0) := c5
  have hfu := h.fuse
  rw [ht] at hfu
  have HO : Hid (Only (fun x => x = g) w (((w.setCell ⟨g, 3, none⟩ (.int .i64 ((F.count : Int) + 1))).setCell ⟨g, 4, none⟩ (.bool true)).setCell ⟨g, 5, none⟩ (.int .i64 (-1)))) := hid ((((Only.refl (fun x => x = g) w).setCell (.inl rfl) _ _).setCell (.inl rfl) _ _).setCell (.inl rfl) _ _)
  have HR : Hid (RAt S g { F with count := F.count + 1, dark := true, fuse := none } cm gW cW gV cV (((w.setCell ⟨g, 3, none⟩ (.int .i64 ((F.count : Int) + 1))).setCell ⟨g, 4, none⟩ (.bool true)).setCell ⟨g, 5, none⟩ (.int .i64 (-1)))) :=
    hid (h.own (((h.blk.setCell 3 _).setCell 4 _).setCell 5 _) rfl rfl rfl HO.out trivial)
  have HM : Hid (MasksAt S (at3 g gW gV) M.length M cm (((w.setCell ⟨g, 3, none⟩ (.int .i64 ((F.count : Int) + 1))).setCell ⟨g, 4, none⟩ (.bool true)).setCell ⟨g, 5, none⟩ (.int .i64 (-1)))) := hid (MasksAt.only hfu HO.out (by rintro x rfl _; exact .inl rfl))
  clear h ht hfu c5
  go_enter Tryz.func104, Tryz.ntmps104
  go_wp2
  go_ret
  exact ⟨⟨rfl, HR.out, HO.out.mono fun x hx _ => .inl hx⟩, HM.out⟩
theorem torn_no {S : Nat → Prop} {g : Nat} {F : Fl} {cm : Value} {gW cW gV cV : Nat} {w : World} (h : RAt S g F cm gW cW gV cV w) (hfm : ∀ n M, F.fuse = some (n, M) → n ≤ 9223372036854775807) (hd : F.dark = false) (hcount : F.count < 4611686018427387904) (ht : tears F.fuse = none) :
    Calls Tryz.prog 104 #[.pointer (some ⟨g, 0, none⟩)] w (RTurned S g { F with count := F.count + 1, fuse := burnt F.fuse } cm gW cW gV cV (.bool false) w) := by
  obtain ⟨_, _, _, c3, c4, c5, _⟩ := h.cell
  have f3 := h.blk.frozen 3
  have f5 := h.blk.frozen 5
  rw [hd] at c4
  have hfu := h.fuse
  match hF : F.fuse with
  | none =>
    rw [hF] at c5 hfu
    have c5' : w.cell? ⟨g, 5, none⟩ = some (.int .i64 (-1)) := c5
    have HO : Hid (Only (fun x => x = g) w (w.setCell ⟨g, 3, none⟩ (.int .i64 ((F.count : Int) + 1)))) := hid ((Only.refl (fun x => x = g) w).setCell (.inl rfl) _ _)
    have hblk := h.blk.setCell 3 (.int .i64 ((F.count : Int) + 1))
    rw [hF] at hblk
    have HR : Hid (RAt S g { F with count := F.count + 1, fuse := burnt none } cm gW cW gV cV (w.setCell ⟨g, 3, none⟩ (.int .i64 ((F.count : Int) + 1)))) :=
      hid (h.own hblk rfl rfl rfl HO.out trivial)
    clear h ht hfu c5 hblk hF hfm
    go_enter Tryz.func104, Tryz.ntmps104
    go_wp2
    go_ret
    exact ⟨rfl, HR.out, HO.out.mono fun x hx _ => .inl hx⟩
  | some (0, M) => rw [hF] at ht; cases ht
  | some (n + 1, M) =>
    have hn := hfm _ _ hF
    rw [hF] at c5 hfu
    have c5' : w.cell? ⟨g, 5, none⟩ = some (.int .i64 ((n : Int) + 1)) := c5
    have HO : Hid (Only (fun x => x = g) w ((w.setCell ⟨g, 3, none⟩ (.int .i64 ((F.count : Int) + 1))).setCell ⟨g, 5, none⟩ (.int .i64 (n : Int)))) := hid (((Only.refl (fun x => x = g) w).setCell (.inl rfl) _ _).setCell (.inl rfl) _ _)
    have HR : Hid (RAt S g { F with count := F.count + 1, fuse := burnt (some (n + 1, M)) } cm gW cW gV cV ((w.setCell ⟨g, 3, none⟩ (.int .i64 ((F.count : Int) + 1))).setCell ⟨g, 5, none⟩ (.int .i64 (n : Int)))) :=
      hid (h.own ((h.blk.setCell 3 _).setCell 5 _) rfl rfl rfl HO.out hfu)
    have hn0 : ¬ ((n : Int) + 1 = 0) := by omega
    have hn1 : 0 ≤ (n : Int) + 1 := by omega
    clear h ht hfu c5 hF hfm
    go_enter Tryz.func104, Tryz.ntmps104
    go_wp2
    go_ret
    exact ⟨rfl, HR.out, HO.out.mono fun x hx _ => .inl hx⟩
theorem refRead_any {S : Nat → Prop} {g : Nat} {F : Fl} {cm : Value} {gW cW gV cV : Nat} {w : World} (h : RAt S g F cm gW cW gV cV w) (ok : F.Ok) (a : Int) :
    Calls Tryz.prog 110 #[.pointer (some ⟨g, 0, none⟩), .int .i64 a] w (Quiet (.tuple #[.int .u32 ((F.read a).1 : Nat), .int .i64 (F.read a).2]) w) := by
  obtain ⟨c0, _, _, _, c4, _, _⟩ := h.cell
  have hn := ok.ws_le
  have hrow := h.ws
  clear h ok
  cases hd : F.dark with
  | true =>
    rw [hd] at c4
    have e : F.read a = (0, 10) := by rw [Fl.read, if_pos hd]
    rw [e]
    clear hd e hrow c0
    go_enter Tryz.func110, Tryz.ntmps110
    go_wp2
    go_ret2
    exact ⟨rfl, 0, rfl⟩
  | false =>
    rw [hd] at c4
    by_cases h0 : a < 0
    · have e : F.read a = (0, 3) := by rw [Fl.read, if_neg (by simp [hd]), if_pos (.inl h0)]
      rw [e]
      clear hd e hrow
      go_enter Tryz.func110, Tryz.ntmps110
      go_wp2
      go_ret2
      exact ⟨rfl, 0, rfl⟩
    · by_cases h1 : (F.ws.length : Int) ≤ a
      · have e : F.read a = (0, 3) := by rw [Fl.read, if_neg (by simp [hd]), if_pos (.inr h1)]
        rw [e]
        clear hd e hrow
        generalize F.ws.length = n at *
        go_enter Tryz.func110, Tryz.ntmps110
        go_wp2
        go_ret2
        exact ⟨rfl, 0, rfl⟩
      · obtain ⟨k, rfl⟩ := Int.eq_ofNat_of_zero_le (show 0 ≤ a by omega)
        have hk : k < F.ws.length := by omega
        have hc := hrow.get hk
        have e : F.read k = (F.ws.getD k 0, 0) := by rw [Fl.read, if_neg (by simp [hd]), if_neg (by omega), Int.toNat_natCast]
        rw [e]
        have H3 : (k : Int) < F.ws.length := by omega
        clear hd e hrow h1
        generalize F.ws.getD k 0 = x at *
        generalize F.ws.length = n at *
        go_enter Tryz.func110, Tryz.ntmps110
        go_wp2
        go_ret2
        exact ⟨rfl, 0, rfl⟩
theorem refPower_any {S : Nat → Prop} {g : Nat} {F : Fl} {cm : Value} {gW cW gV cV : Nat} {w : World} (h : RAt S g F cm gW cW gV cV w) :
    Calls Tryz.prog 38 #[.pointer (some ⟨g, 0, none⟩)] w (RTurned S g F.power cm gW cW gV cV (.tuple #[]) w) := by
  obtain ⟨_, _, _, _, c4, c5, _⟩ := h.cell
  have f4 := h.blk.frozen 4
  have f5 := h.blk.frozen 5
  have HO : Hid (Only (fun x => x = g) w ((w.setCell ⟨g, 4, none⟩ (.bool false)).setCell ⟨g, 5, none⟩ (.int .i64 (-1)))) := hid (((Only.refl (fun x => x = g) w).setCell (.inl rfl) _ _).setCell (.inl rfl) _ _)
  have HR : Hid (RAt S g F.power cm gW cW gV cV ((w.setCell ⟨g, 4, none⟩ (.bool false)).setCell ⟨g, 5, none⟩ (.int .i64 (-1)))) := hid (h.own ((h.blk.setCell 4 _).setCell 5 _) rfl rfl rfl HO.out trivial)
  clear h
  go_enter Tryz.func38, Tryz.ntmps38
  go_wp2
  exact ret0 rfl rfl ⟨rfl, HR.out, HO.out.mono fun x hx _ => .inl hx⟩
end Go.Proofs.YtphifanacehppaaGreat.flash
/- Contract of the reference's Bits of layer 1, for every 32-bit argument. -/
namespace Go.Proofs.YtphifanacehppaaGreat.word
open Go.RowKit
set_option linter.unusedVariables false

/-- what one bit becomes -/
def setBit (kind : Int) (a b m : Nat) : Nat :=
  if kind = 0 then (if a = 1 ∧ b = 0 then 1 else 0) else if kind = 1 then (if a = 1 ∧ ¬ (b = 0 ∧ m = 1) then 1 else 0) else (if a = 1 ∨ m = 1 then 1 else 0)
theorem mod_step (v k : Nat) : v % 2 ^ (k + 1) = v % 2 ^ k + (v / 2 ^ k % 2) * 2 ^ k := by
  rw [Nat.pow_succ, Nat.mod_mul, Nat.mul_comm (2 ^ k)]
set_option maxHeartbeats 1600000 in
theorem refBits_any (a b m v : Nat) (kind : Int) (hk : kind = 0 ∨ kind = 1 ∨ kind = 2) (ha : a < 4294967296) (hb : b < 4294967296) (hm : m < 4294967296) (hv : v < 4294967296)
    (hbit : ∀ i, i < 32 → v / 2 ^ i % 2 = setBit kind (a / 2 ^ i % 2) (b / 2 ^ i % 2) (m / 2 ^ i % 2)) (w : World) :
    Calls Tryz.prog 87 #[.int .u32 a, .int .u32 b, .int .u32 m, .int .i64 kind] w (Quiet (.int .u32 v) w) := by
  have HB := hid hbit
  clear hbit
  rcases hk with rfl | rfl | rfl
  all_goals
    go_enter Tryz.func87, Tryz.ntmps87
    go_wp2
    go_loopw [9, 10, 11] (fun out worth k wr => ∃ j : Nat, j ≤ 32 ∧ k = .int .i64 j ∧ out = .int .u32 (v % 2 ^ j : Nat) ∧ worth = .int .u32 (2 ^ j % 4294967296 : Nat) ∧ ∃ m, wr = w.drewN m) (fun _ _ k _ => 32 - (intOf k).toNat)
    case atStart => exact ⟨0, Nat.zero_le _, rfl, by simp [Nat.mod_one], by simp, 0, rfl⟩
    case round =>
      obtain ⟨j, hj, rfl, rfl, rfl, n, rfl⟩ := hrel
      by_cases h : j < 32
      · have c1 := fun w' => bit_any a j ha (by omega) w'
        have c2 := fun w' => bit_any b j hb (by omega) w'
        have c3 := fun w' => bit_any m j hm (by omega) w'
        have hs := HB.out j h
        have hms := mod_step v j
        have h1 : a / 2 ^ j % 2 = 0 ∨ a / 2 ^ j % 2 = 1 := by omega
        have h2 : b / 2 ^ j % 2 = 0 ∨ b / 2 ^ j % 2 = 1 := by omega
        have h3 : m / 2 ^ j % 2 = 0 ∨ m / 2 ^ j % 2 = 1 := by omega
        have hp : 2 ^ j < 4294967296 := Nat.pow_lt_pow_right (a := 2) (by decide) (show j < 32 from h)
        have hpp : (2 : Nat) ^ (j + 1) = 2 * 2 ^ j := by rw [Nat.pow_succ, Nat.mul_comm]
        have hvl : v % 2 ^ (j + 1) < 4294967296 := Nat.lt_of_le_of_lt (Nat.mod_le _ _) hv
        rw [hs] at hms
        have hlt := Nat.mod_lt v (show 0 < 2 ^ j from Nat.two_pow_pos j)
        generalize a / 2 ^ j % 2 = pa at *
        generalize b / 2 ^ j % 2 = pb at *
        generalize m / 2 ^ j % 2 = pm at *
        generalize hv2 : v % 2 ^ (j + 1) = v2 at *
        generalize v % 2 ^ j = v1 at *
        generalize hp2 : 2 ^ (j + 1) = p2 at *
        generalize 2 ^ j = p1 at *
        have HV2 := hid hv2
        have HP2 := hid hp2
        clear hs HB hv2 hp2
        rcases h1 with rfl | rfl <;> rcases h2 with rfl | rfl <;> rcases h3 with rfl | rfl
        all_goals
          simp (config := { decide := true }) only [setBit, if_true, if_false, Nat.zero_mul, Nat.one_mul, Nat.add_zero] at hms
          have HM := hid hms
          have HP := hid hpp
          clear hms hpp
          go_wp2_with (go_at_call 109; (first | (with_reducible refine (c1 _).mono ?_) | (with_reducible refine (c2 _).mono ?_) | (with_reducible refine (c3 _).mono ?_)); rintro e w' ⟨rfl, m2, rfl⟩)
          exact ⟨⟨j + 1, by omega, by go_num, congrArg (Value.int .u32) (by have := HM.out; rw [HP2.out, HV2.out]; omega), congrArg (Value.int .u32) (by have := HP.out; rw [HP2.out]; omega), ⟨_, rfl⟩⟩, by simp [intOf]; omega⟩
      · obtain rfl : j = 32 := by omega
        go_wp2
        go_ret
        exact ⟨ret_int (by rw [Nat.mod_eq_of_lt hv]), _, rfl⟩
theorem bit01 (x i : Nat) : x / 2 ^ i % 2 = if x.testBit i then 1 else 0 := by
  rw [Nat.testBit_eq_decide_div_mod_eq]
  by_cases h : x / 2 ^ i % 2 = 1
  · simp [h]
  · simp [h]; omega
theorem bits0 (was x i : Nat) (hw : was < 4294967296) (hx : x < 4294967296) : clr was x / 2 ^ i % 2 = setBit 0 (was / 2 ^ i % 2) (x / 2 ^ i % 2) (0 / 2 ^ i % 2) := by
  simp only [bit01, bit_clr was x i hw hx, setBit]
  cases was.testBit i <;> cases x.testBit i <;> simp
theorem bits1 (was x m i : Nat) (hw : was < 4294967296) (hx : x < 4294967296) (hm : m < 4294967296) : clr was (clr m x) / 2 ^ i % 2 = setBit 1 (was / 2 ^ i % 2) (x / 2 ^ i % 2) (m / 2 ^ i % 2) := by
  simp only [bit01, bit_clr was _ i hw (clr_lt m x hm), bit_clr m x i hm hx, setBit]
  cases was.testBit i <;> cases x.testBit i <;> cases m.testBit i <;> simp
theorem bits2 (was m i : Nat) : (was ||| m) / 2 ^ i % 2 = setBit 2 (was / 2 ^ i % 2) (0 / 2 ^ i % 2) (m / 2 ^ i % 2) := by
  simp only [bit01, Nat.testBit_or, setBit]
  cases was.testBit i <;> cases m.testBit i <;> simp

theorem refClr_any (was x : Nat) (hw : was < 4294967296) (hx : x < 4294967296) (w : World) : Calls Tryz.prog 87 #[.int .u32 was, .int .u32 x, .int .u32 0, .int .i64 0] w (Quiet (.int .u32 (clr was x)) w) :=
  refBits_any was x 0 (clr was x) 0 (Or.inl rfl) hw hx (by decide) (clr_lt _ _ hw) (fun i _ => bits0 was x i hw hx) w
theorem refTorn_any (was x mask : Nat) (hw : was < 4294967296) (hx : x < 4294967296) (hm : mask < 4294967296) (w : World) : Calls Tryz.prog 87 #[.int .u32 was, .int .u32 x, .int .u32 mask, .int .i64 1] w (Quiet (.int .u32 (clr was (clr mask x))) w) :=
  refBits_any was x mask _ 1 (Or.inr (Or.inl rfl)) hw hx hm (clr_lt _ _ hw) (fun i _ => bits1 was x mask i hw hx hm) w
theorem refRaised_any (was mask : Nat) (hw : was < 4294967296) (hm : mask < 4294967296) (w : World) : Calls Tryz.prog 87 #[.int .u32 was, .int .u32 0, .int .u32 mask, .int .i64 2] w (Quiet (.int .u32 (was ||| mask : Nat)) w) :=
  refBits_any was 0 mask _ 2 (Or.inr (Or.inr rfl)) hw (by decide) hm (Nat.or_lt_two_pow (n := 32) hw hm) (fun i _ => bits2 was mask i) w
end Go.Proofs.YtphifanacehppaaGreat.word
/- Contracts of the reference's Program and Arm of layer 7. No condition but masks of at most 2^45. -/
namespace Go.Proofs.YtphifanacehppaaGreat.flash
open Go.RowKit Go.Proofs.YtphifanacehppaaGreat.word
set_option linter.unusedVariables false

/-- the call answers v; the reference's flash becomes F; only what it had in S turns -/
def RDid (S : Nat → Prop) (g : Nat) (F : Fl) (v : Value) (w : World) (e : Ending) (w' : World) : Prop :=
  e = .returned v ∧ ∃ S', RefAt S' g F w' ∧ (∀ x, S' x → x < w'.heap.size ∧ (S x ∨ w.heap.size ≤ x)) ∧ Only S w w'
section
variable {S : Nat → Prop} {g : Nat} {F G : Fl} {cm : Value} {gW cW gV cV : Nat} {w w' : World} {v : Value} {e : Ending}
theorem RTurned.did (h : RAt S g F cm gW cW gV cV w) (k : RTurned S g G cm gW cW gV cV v w e w') : RDid S g G v w e w' := by
  obtain ⟨he, hA, hO⟩ := k
  exact ⟨he, _, ⟨_, _, _, _, _, hA.clip⟩, fun x hx => ⟨hx.2, .inl hx.1⟩, hO.mono fun x hx _ => h.mem x hx⟩
theorem Quiet.rdid (h : RAt S g F cm gW cW gV cV w) (k : Quiet v w e w') : RDid S g F v w e w' := by
  obtain ⟨he, n, rfl⟩ := k
  exact ⟨he, _, ⟨_, _, _, _, _, (h.drewN n).clip⟩, fun x hx => ⟨hx.2, .inl hx.1⟩, (Only.refl _ _).drewN n⟩
end
theorem refProgram_err {S : Nat → Prop} {g : Nat} {F : Fl} {cm : Value} {gW cW gV cV : Nat} {w : World} (h : RAt S g F cm gW cW gV cV w) (a : Int) (x : Nat) (z : Int) (hz : z = 3 ∨ z = 10)
    (hr : Calls Tryz.prog 110 #[.pointer (some ⟨g, 0, none⟩), .int .i64 a] w (Quiet (.tuple #[.int .u32 0, .int .i64 z]) w)) :
    Calls Tryz.prog 88 #[.pointer (some ⟨g, 0, none⟩), .int .i64 a, .int .u32 x] w (RDid S g F (.int .i64 z) w) := by
  have H := hid h
  clear h
  rcases hz with rfl | rfl
  all_goals
    go_enter Tryz.func88, Tryz.ntmps88
    go_wp2_with (go_at_call 110; (with_reducible refine hr.mono ?_); rintro e w' ⟨rfl, m, rfl⟩)
    go_ret
    exact Quiet.rdid H.out ⟨rfl, _, rfl⟩
set_option maxHeartbeats 1600000 in
theorem refProgram_any {S : Nat → Prop} {g : Nat} {F : Fl} {cm : Value} {gW cW gV cV : Nat} {w : World} (h : RAt S g F cm gW cW gV cV w) (ok : F.Ok) (hcount : F.count < 4611686018427387904) (a : Int) (x : Nat) (hx : x < 4294967296) :
    Calls Tryz.prog 88 #[.pointer (some ⟨g, 0, none⟩), .int .i64 a, .int .u32 x] w (RDid S g (F.program a x).2 (.int .i64 (F.program a x).1) w) := by
  have hr := refRead_any h ok a
  by_cases hd : F.dark = true
  · have e1 : F.read a = (0, 10) := by rw [Fl.read, if_pos hd]
    have e2 : F.program a x = (10, F) := by rw [Fl.program, if_pos hd]
    rw [e1] at hr
    rw [e2]
    exact refProgram_err h a x 10 (.inr rfl) hr
  by_cases h0 : a < 0 ∨ (F.ws.length : Int) ≤ a
  · have e1 : F.read a = (0, 3) := by rw [Fl.read, if_neg hd, if_pos h0]
    have e2 : F.program a x = (3, F) := by rw [Fl.program, if_neg hd, if_pos h0]
    rw [e1] at hr
    rw [e2]
    exact refProgram_err h a x 3 (.inl rfl) hr
  obtain ⟨k, rfl⟩ := Int.eq_ofNat_of_zero_le (show 0 ≤ a by omega)
  have hk : k < F.ws.length := by omega
  have e1 : F.read k = (F.ws.getD k 0, 0) := by rw [Fl.read, if_neg hd, if_neg h0, Int.toNat_natCast]
  rw [e1] at hr
  have hu : F.ws.getD k 0 < 4294967296 := getD_lt ok.w (by decide) k
  have hwi := fun w' => refClr_any x (F.ws.getD k 0) hx hu w'
  have HK : Hid ((k : Int) < F.ws.length) := hid (by omega)
  have H := hid h
  by_cases hcl : clr x (F.ws.getD k 0) ≠ 0
  · have e2 : F.program k x = (11, F) := by rw [Fl.program, if_neg hd, if_neg h0, Int.toNat_natCast, if_pos hcl]
    rw [e2]
    have hq : (((clr x (F.ws.getD k 0) : Nat) : Int) != 0) = true := by rw [bne_iff_ne]; omega
    have hq2 : ¬ (((clr x (F.ws.getD k 0) : Nat) : Int) = 0) := by omega
    clear h ok e1 e2 hcl h0 hd
    generalize clr x (F.ws.getD k 0) = cl at *
    generalize F.ws.getD k 0 = u at *
    go_enter Tryz.func88, Tryz.ntmps88
    go_wp2_with (first
      | (go_at_call 110; (with_reducible refine hr.mono ?_); rintro e w' ⟨rfl, m, rfl⟩)
      | (go_at_call 87; (with_reducible refine (hwi _).mono ?_); rintro e w' ⟨rfl, m2, rfl⟩))
    go_ret
    exact Quiet.rdid H.out ⟨rfl, _, rfl⟩
  have hcl' : clr x (F.ws.getD k 0) = 0 := by simpa using hcl
  rw [hcl'] at hwi
  have hwi' : ∀ w', Calls Tryz.prog 87 #[.int .u32 (x : Int), .int .u32 ((F.ws.getD k 0 : Nat) : Int), .int .u32 0, .int .i64 0] w' (Quiet (.int .u32 0) w') := hwi
  clear hwi
  have HOK := hid ok
  cases ht : tears F.fuse with
  | some M =>
    have e2 : F.program k x = (10, F.tore (F.ws.set k (clr (F.ws.getD k 0) (clr (maskAt M 0) x))) F.worn) := by rw [Fl.program, if_neg hd, if_neg h0, Int.toNat_natCast, if_neg hcl, ht]
    rw [e2]
    obtain ⟨hfu, hM⟩ := F.tears_m ok ht
    have hml := maskAt_lt M 0 hM
    have hMl := (ok.m _ _ hfu).2.1
    have hto := fun w' => refTorn_any (F.ws.getD k 0) x (maskAt M 0) hu hx hml w'
    have hn := ok.ws_le
    have hte : ∀ m, Calls Tryz.prog 104 #[.pointer (some ⟨g, 0, none⟩)] (w.drewN m) fun e w' => RTurned S g { F with count := F.count + 1, dark := true, fuse := none } cm gW cW gV cV (.bool true) (w.drewN m) e w' ∧ MasksAt S (at3 g gW gV) M.length M cm w' := fun m => torn_yes (h.drewN m) hcount M hfu
    have HMK : Hid (∀ w', MasksAt S (at3 g gW gV) M.length M cm w' → w'.cell? ⟨g, 6, none⟩ = some cm → ∀ n, Calls Tryz.prog 105 #[.pointer (some ⟨g, 0, none⟩), .int .i64 0] (w'.drewN n) (Quiet (.int .u32 (maskAt M 0 : Nat)) (w'.drewN n))) :=
      hid fun w' hm hc n => refMask_any (hm.only ((Only.refl (fun _ => False) w').drewN n) (fun _ h _ => h.elim)) hc 0 (by omega) hMl
    clear h ok e1 e2 hcl hcl' h0 hd hfu hM ht
    generalize hv : clr (F.ws.getD k 0) (clr (maskAt M 0) x) = v at *
    have HV := hid hv
    clear hv
    generalize hu' : F.ws.getD k 0 = u at *
    have HU := hid hu'
    clear hu'
    generalize hm' : maskAt M 0 = m0 at *
    clear hm'
    go_enter Tryz.func88, Tryz.ntmps88
    go_wp2_with (first
      | (go_at_call 110; (with_reducible refine hr.mono ?_); clear hr; rintro e w' ⟨rfl, m, rfl⟩)
      | (go_at_call 87; (with_reducible refine (hwi' _).mono ?_); rintro e w' ⟨rfl, m2, rfl⟩)
      | (go_at_call 104; (with_reducible refine (hte _).mono ?_); rintro e w4 ⟨⟨rfl, hA, hO⟩, hMA⟩; have d0 : w4.cell? ⟨g, 0, none⟩ = some (.slice (some ⟨gW, 0, none⟩) F.ws.length cW) := hA.cell.1; have hma := HMK.out w4 hMA hA.cell.2.2.2.2.2.2; have hk' : k < F.ws.length := (by have := HK.out; omega); have i1 := HK.out; have hcell : w4.cell? ⟨gW, k, none⟩ = some (.int .u32 (u : Int)) := (by rw [hA.ws.get hk']; exact congrArg (fun x : Nat => some (Value.int .u32 (x : Int))) HU.out); have hfz := hA.ws.frozen k; have HA := hid hA; have HO := hid hO; clear hA hO hMA hte))
    refine tail.region 10 (by kernel_rfl) (by kernel_rfl) ?_
    simp only [List.take_succ_cons, List.take_zero, List.drop_succ_cons, List.drop_zero]
    repeat (go_big_quiet_step (first
      | (go_at_call 105; (with_reducible exact quietAt (hma _)))
      | (go_at_call 87; (with_reducible exact quietAt (hto _)))))
    refine wpQuiet_nil ?_
    rintro _ ⟨nq, rfl⟩
    go_wp2
    go_ret
    exact RTurned.did H.out ⟨rfl, (HA.out.drewN nq).word hk' v, ((((Only.refl (at3 g gW gV) w).drewN _).trans HO.out).drewN nq).setCell (.inl (.inr (.inl rfl))) _ _⟩
  | none =>
    have e2 : F.program k x = (0, F.wrote (F.ws.set k x) F.worn) := by rw [Fl.program, if_neg hd, if_neg h0, Int.toNat_natCast, if_neg hcl, ht]
    rw [e2]
    have hn := ok.ws_le
    have hte : ∀ m, Calls Tryz.prog 104 #[.pointer (some ⟨g, 0, none⟩)] (w.drewN m) (RTurned S g { F with count := F.count + 1, fuse := burnt F.fuse } cm gW cW gV cV (.bool false) (w.drewN m)) := fun m => torn_no (h.drewN m) (fun n M h => (ok.m n M h).1) (by simpa using hd) hcount ht
    clear h ok e1 e2 hcl hcl' h0 hd ht
    generalize hu' : F.ws.getD k 0 = u at *
    have HU := hid hu'
    clear hu'
    go_enter Tryz.func88, Tryz.ntmps88
    go_wp2_with (first
      | (go_at_call 110; (with_reducible refine hr.mono ?_); clear hr; rintro e w' ⟨rfl, m, rfl⟩)
      | (go_at_call 87; (with_reducible refine (hwi' _).mono ?_); rintro e w' ⟨rfl, m2, rfl⟩)
      | (go_at_call 104; (with_reducible refine (hte _).mono ?_); rintro e w4 ⟨rfl, hA, hO⟩; have d0 : w4.cell? ⟨g, 0, none⟩ = some (.slice (some ⟨gW, 0, none⟩) F.ws.length cW) := hA.cell.1; have hk' : k < F.ws.length := (by have := HK.out; omega); have i1 := HK.out; have hcell : w4.cell? ⟨gW, k, none⟩ = some (.int .u32 (u : Int)) := (by rw [hA.ws.get hk']; exact congrArg (fun x : Nat => some (Value.int .u32 (x : Int))) HU.out); have hfz := hA.ws.frozen k; have HA := hid hA; have HO := hid hO; clear hA hO hte))
    go_ret
    exact RTurned.did H.out ⟨rfl, HA.out.word hk' x, (((Only.refl (at3 g gW gV) w).drewN _).trans HO.out).setCell (.inl (.inr (.inl rfl))) _ _⟩
end Go.Proofs.YtphifanacehppaaGreat.flash
/- Contract of the reference's Erase of layer 7, for every argument. No condition. -/
namespace Go.Proofs.YtphifanacehppaaGreat.flash
open Go.RowKit Go.Proofs.YtphifanacehppaaGreat.word
set_option linter.unusedVariables false

set_option maxHeartbeats 16000000 in
theorem refErase_any {S : Nat → Prop} {g : Nat} {F : Fl} {cm : Value} {gW cW gV cV : Nat} {w : World} (h : RAt S g F cm gW cW gV cV w) (ok : F.Ok) (hcount : F.count < 4611686018427387904) (s : Int) :
    Calls Tryz.prog 80 #[.pointer (some ⟨g, 0, none⟩), .int .i64 s] w (RDid S g (F.erase s).2 (.int .i64 (F.erase s).1) w) := by
  obtain ⟨c0, c1, c2, _, c4, _, _⟩ := h.cell
  have H := hid h
  by_cases hd : F.dark = true
  · have e2 : F.erase s = (10, F) := by rw [Fl.erase, if_pos hd]
    rw [e2]
    rw [hd] at c4
    clear h ok e2 c0 c1 c2 hd
    go_enter Tryz.func80, Tryz.ntmps80
    go_wp2
    go_ret
    exact Quiet.rdid H.out ⟨rfl, 0, rfl⟩
  have hd' : F.dark = false := by simpa using hd
  rw [hd'] at c4
  have hs2 := ok.s2
  by_cases h0 : s < 0
  · have e2 : F.erase s = (3, F) := by rw [Fl.erase, if_neg hd, if_pos (.inl h0)]
    rw [e2]
    clear h ok e2 hd hd'
    go_enter Tryz.func80, Tryz.ntmps80
    go_wp2
    go_ret
    exact Quiet.rdid H.out ⟨rfl, 0, rfl⟩
  by_cases h1 : (F.worn.length : Int) ≤ s
  · have e2 : F.erase s = (3, F) := by rw [Fl.erase, if_neg hd, if_pos (.inr h1)]
    rw [e2]
    clear h ok e2 hd hd'
    go_enter Tryz.func80, Tryz.ntmps80
    go_wp2
    go_ret
    exact Quiet.rdid H.out ⟨rfl, 0, rfl⟩
  obtain ⟨k, rfl⟩ := Int.eq_ofNat_of_zero_le (show 0 ≤ s by omega)
  have hk : k < F.worn.length := by omega
  have i1 : (k : Int) < F.worn.length := by omega
  have hwv := h.wn.get hk
  have hu : F.worn.getD k 0 ≤ F.count := by
    have := getD_lt (B := F.count + 1) (fun x hx => by have := ok.c x hx; omega) (by omega) (l := F.worn) k
    omega
  have hsec := ok.sector hk
  have hA1 : RAt S g { F with worn := F.worn1 k } cm gW cW gV cV (w.setCell ⟨gV, k, none⟩ (.int .i64 ((F.worn.getD k 0 : Nat) + 1))) := h.wear hk (F.worn.getD k 0 + 1)
  have HO : Hid (Only (at3 g gW gV) w (w.setCell ⟨gV, k, none⟩ (.int .i64 ((F.worn.getD k 0 : Nat) + 1)))) := hid ((Only.refl _ w).setCell (.inl (.inr (.inr rfl))) _ _)
  have ok1 : Hid (Fl.Ok { F with worn := F.worn1 k, count := F.count + 1 }) := hid ⟨ok.l1, ok.l2, by rw [Fl.worn1_length]; exact ok.s1, by rw [Fl.worn1_length]; exact ok.s2, by rw [Fl.worn1_length]; exact ok.n, ok.w, Fl.worn1_le ok k, ok.m⟩
  have f2 : w.frozen? ⟨gV, k, none⟩ = false := h.wn.frozen k
  have HOK := hid ok
  have hl1 := ok.l1
  have hl2 := ok.l2
  have hwl := ok.ws_le
  have ec : F.erase k = (match tears F.fuse with
      | some M => (10, F.tore (run (tornWord M) (k * F.long) F.long F.ws) (F.worn1 k))
      | none => (0, F.wrote (run blank (k * F.long) F.long F.ws) (F.worn1 k))) := by
    rw [Fl.erase, if_neg hd, if_neg (by omega)]
    cases tears F.fuse <;> rfl
  rw [ec]
  have hpl : (k : Int) * (F.long : Int) = ((k * F.long : Nat) : Int) := by simp
  generalize hP : k * F.long = p at *
  have HS := hid hsec
  cases ht : tears F.fuse with
  | none =>
    have hte : Calls Tryz.prog 104 #[.pointer (some ⟨g, 0, none⟩)] (w.setCell ⟨gV, k, none⟩ (.int .i64 ((F.worn.getD k 0 : Nat) + 1))) (RTurned S g { F with worn := F.worn1 k, count := F.count + 1, fuse := burnt F.fuse } cm gW cW gV cV (.bool false) (w.setCell ⟨gV, k, none⟩ (.int .i64 ((F.worn.getD k 0 : Nat) + 1)))) :=
      torn_no hA1 (fun n M h => (ok.m n M h).1) hd' hcount ht
    clear h ok hd hd' ec h0 hA1 ok1
    generalize F.worn.getD k 0 = u at *
    go_enter Tryz.func80, Tryz.ntmps80
    go_wp2_with (go_at_call 104; (with_reducible refine hte.mono ?_); clear hte; rintro e w4 ⟨rfl, hA, hO⟩)
    have HA4 : Hid (RAt S g (F.wrote (run blank p 0 F.ws) (F.worn1 k)) cm gW cW gV cV w4) := hid hA
    have HO4 := hid (HO.out.trans hO)
    clear hA hO HO c0 c1 c2 c4 hwv f2 hcount hu i1
    go_loopw [6] (fun i wr => ∃ j : Nat, j ≤ F.long ∧ i = .int .i64 (j : Int) ∧ Hid (RAt S g (F.wrote (run blank p j F.ws) (F.worn1 k)) cm gW cW gV cV wr) ∧ Hid (Only (at3 g gW gV) w wr)) (fun i _ => F.long - (intOf i).toNat)
    case atStart => exact ⟨0, Nat.zero_le _, rfl, HA4, HO4⟩
    case round =>
      obtain ⟨j, hj, rfl, hA, hO⟩ := hrel
      have d1 : wr.cell? ⟨g, 1, none⟩ = some (.int .i64 (F.long : Int)) := hA.out.cell.2.1
      by_cases hlt : j < F.long
      · have hpj : p + j < (F.wrote (run blank p j F.ws) (F.worn1 k)).ws.length := by
          show p + j < (run blank p j F.ws).length
          rw [run_length]; have := HS.out; omega
        have d0 : wr.cell? ⟨g, 0, none⟩ = some (.slice (some ⟨gW, 0, none⟩) F.ws.length cW) := by
          have := hA.out.cell.1
          rwa [show (F.wrote (run blank p j F.ws) (F.worn1 k)).ws.length = F.ws.length from run_length _ _ _ _] at this
        have hcell := hA.out.ws.get hpj
        generalize (F.wrote (run blank p j F.ws) (F.worn1 k)).ws.getD (p + j) 0 = z at hcell
        have hfz := hA.out.ws.frozen (p + j)
        have i1 : (j : Int) < F.long := by omega
        have i2 : (p : Int) + j < F.ws.length := by have := HS.out; omega
        go_wp2
        exact ⟨⟨j + 1, by omega, by go_num, hid (hA.out.word hpj 4294967295), hid (hO.out.setCell (.inl (.inr (.inl rfl))) _ _)⟩, by simp [intOf]; omega⟩
      · obtain rfl : j = F.long := by omega
        go_wp2
        go_ret
        exact RTurned.did H.out ⟨rfl, hA.out, hO.out⟩
  | some M =>
    obtain ⟨hfu, hM⟩ := F.tears_m HOK.out ht
    have hMl := (HOK.out.m _ _ hfu).2.1
    have hte := torn_yes hA1 hcount M hfu
    have HM := hid hM
    clear h ok hd hd' ec h0 hA1 ok1 hfu hM ht
    generalize F.worn.getD k 0 = u at *
    go_enter Tryz.func80, Tryz.ntmps80
    go_wp2_with (go_at_call 104; (with_reducible refine hte.mono ?_); clear hte; rintro e w4 ⟨⟨rfl, hA, hO⟩, hMA⟩)
    have HA4 : Hid (RAt S g (F.tore (run (tornWord M) p 0 F.ws) (F.worn1 k)) cm gW cW gV cV w4) := hid hA
    have HO4 := hid (HO.out.trans hO)
    have HMA := hid hMA
    clear hA hO HO hMA c0 c1 c2 c4 hwv f2 hcount hu i1
    go_loopw [6] (fun i wr => ∃ j : Nat, j ≤ F.long ∧ i = .int .i64 (j : Int) ∧ Hid (RAt S g (F.tore (run (tornWord M) p j F.ws) (F.worn1 k)) cm gW cW gV cV wr) ∧ Hid (MasksAt S (at3 g gW gV) M.length M cm wr) ∧ Hid (Only (at3 g gW gV) w wr)) (fun i _ => F.long - (intOf i).toNat)
    case atStart => exact ⟨0, Nat.zero_le _, rfl, HA4, HMA, HO4⟩
    case round =>
      obtain ⟨j, hj, rfl, hA, hMA, hO⟩ := hrel
      have d1 : wr.cell? ⟨g, 1, none⟩ = some (.int .i64 (F.long : Int)) := hA.out.cell.2.1
      by_cases hlt : j < F.long
      · have hpj : p + j < (run (tornWord M) p j F.ws).length := by
          rw [run_length]; have := HS.out; omega
        have d0 : wr.cell? ⟨g, 0, none⟩ = some (.slice (some ⟨gW, 0, none⟩) F.ws.length cW) := by
          have := hA.out.cell.1
          rwa [show (F.tore (run (tornWord M) p j F.ws) (F.worn1 k)).ws.length = F.ws.length from run_length _ _ _ _] at this
        have hcell : wr.cell? ⟨gW, p + j, none⟩ = some (.int .u32 (((run (tornWord M) p j F.ws).getD (p + j) 0 : Nat) : Int)) := hA.out.ws.get hpj
        have hz : (run (tornWord M) p j F.ws).getD (p + j) 0 = F.ws.getD (p + j) 0 := by
          rw [run_getD _ _ _ _ _ (by have := HS.out; omega), if_neg (by omega)]
        rw [hz] at hcell
        have hzl : F.ws.getD (p + j) 0 < 4294967296 := getD_lt HOK.out.w (by decide) _
        have hml := maskAt_lt M j HM.out
        have hra := fun w' => refRaised_any (F.ws.getD (p + j) 0) (maskAt M j) hzl hml w'
        have HX : Hid (run (tornWord M) p (j + 1) F.ws = (run (tornWord M) p j F.ws).set (p + j) (F.ws.getD (p + j) 0 ||| maskAt M j)) := hid rfl
        have hma : ∀ n, Calls Tryz.prog 105 #[.pointer (some ⟨g, 0, none⟩), .int .i64 (j : Int)] (wr.drewN n) (Quiet (.int .u32 (maskAt M j : Nat)) (wr.drewN n)) :=
          fun n => refMask_any (hMA.out.only ((Only.refl (fun _ => False) wr).drewN n) (fun _ h _ => h.elim)) hA.out.cell.2.2.2.2.2.2 j (by omega) hMl
        clear hz
        generalize (F.ws.getD (p + j) 0 ||| maskAt M j) = y at *
        generalize maskAt M j = y2 at *
        generalize F.ws.getD (p + j) 0 = z at *
        have hfz := hA.out.ws.frozen (p + j)
        have i1 : (j : Int) < F.long := by omega
        have i2 : (p : Int) + j < F.ws.length := by have := HS.out; omega
        go_wp2
        refine tail.region 16 (by kernel_rfl) (by kernel_rfl) ?_
        simp only [List.take_succ_cons, List.take_zero, List.drop_succ_cons, List.drop_zero]
        repeat (go_big_quiet_step (first
          | (go_at_call 105; (with_reducible exact quietAt (hma _)))
          | (go_at_call 87; (with_reducible exact quietAt (hra _)))))
        refine wpQuiet_nil ?_
        rintro _ ⟨nq, rfl⟩
        go_wp2
        refine ⟨⟨j + 1, by omega, by go_num, ?_, ?_, hid ((hO.out.drewN nq).setCell (.inl (.inr (.inl rfl))) _ _)⟩, by simp [intOf]; omega⟩
        · rw [HX.out]
          exact hid ((hA.out.drewN nq).word hpj y)
        · exact hid (hMA.out.only (((Only.refl (fun x => x = gW) wr).drewN nq).setCell (.inl rfl) _ _) (by rintro x rfl _; exact .inr (.inl rfl)))
      · obtain rfl : j = F.long := by omega
        go_wp2
        go_ret
        exact RTurned.did H.out ⟨rfl, hA.out, hO.out⟩
end Go.Proofs.YtphifanacehppaaGreat.flash
/- Contracts of the reference's Arm and of the law file's told of layer 7. No condition but masks of at most 2^45. -/
namespace Go.Proofs.YtphifanacehppaaGreat.flash
open Go.RowKit Go.Proofs.YtphifanacehppaaGreat.word
set_option linter.unusedVariables false

set_option maxHeartbeats 1600000 in
theorem refArm_any {S : Nat → Prop} {g : Nat} {F : Fl} {cm : Value} {gW cW gV cV : Nat} {w : World} (h : RAt S g F cm gW cW gV cV w) (n : Int) (hn : n ≤ 9223372036854775807) (hn2 : -9223372036854775808 ≤ n) (a : Option Addr) (len cap : Nat) (M : List Nat) (hr : Reads .u32 w a len M) (hlen : len * 4 ≤ 140737488355328)
    (hsep : len = 0 ∨ ∃ x, a = some x ∧ ¬ S x.block) :
    Calls Tryz.prog 35 #[.pointer (some ⟨g, 0, none⟩), .int .i64 n, .slice a len cap] w (RDid S g (F.arm n M) (.tuple #[]) w) := by
  obtain ⟨i0, hi, hz0, hz1, hz2⟩ := info_parts u32_info
  obtain ⟨mx, hmx⟩ : ∃ mx : Int, mx = (if n < 0 then -1 else n) := ⟨_, rfl⟩
  have em : ∀ ts t W, (Builtin.max_ ts t #[.int .i64 n, .int .i64 (-1)]).run Tryz.prog W = .ok (.int .i64 mx) W := fun ts t W => by
    rw [run_max_int2, show (if (-1 : Int) > n then (-1 : Int) else n) = mx by rw [hmx]; split <;> split <;> omega]
  have haf : afterOf (F.arm n M).fuse = mx := by
    unfold Fl.arm
    rw [hmx]
    by_cases h0 : n < 0
    · simp only [if_pos h0]; rfl
    · simp only [if_neg h0]
      show (n.toNat : Int) = n
      omega
  have c5 : w.cell? ⟨g, 5, none⟩ = some (.int .i64 (afterOf F.fuse)) := h.cell.2.2.2.2.2.1
  have f5 := h.blk.frozen 5
  have ho1 : Only (fun x => x = g) w (w.setCell ⟨g, 5, none⟩ (.int .i64 mx)) := h.put 5 _
  have hr1 : Reads .u32 (w.setCell ⟨g, 5, none⟩ (.int .i64 mx)) a len M := reads_only hr ho1 (hsep.imp id fun ⟨x, hx, hS⟩ => ⟨x, hx, fun e => hS (by rw [e]; exact h.s1)⟩)
  have HB1 := hid (h.blk.setCell 5 (.int .i64 mx))
  have HN := hid (reads_news hr1)
  have HM : Hid (M.length = len) := hid hr.1
  have HU := hid (nums_length .u32 M)
  have HN2 : Hid (0 + len ≤ maxLen) := hid (by unfold maxLen; omega)
  have HN3 : Hid ((0 + len) * 4 ≤ 140737488355328) := hid (by omega)
  have HBS : Hid (w.heap.size ≤ (w.setCell ⟨g, 5, none⟩ (.int .i64 mx)).heap.size) := hid (by simp)
  have HO1 := hid ho1
  have HH := hid h
  have HAF := hid haf
  clear hr hr1 hsep hlen ho1 haf hmx h
  go_enter Tryz.func35, Tryz.ntmps35
  go_wp2_with (at_builtin; refine wpList_append_from rfl _ _ 24 rfl w.heap.size 43 i0 (.int .u32 0) 4 Tryz.underlying24 hi hz0 hz1 hz2 rfl (.slice none 0 0) 0 [] rfl (World.ownsRow_nil _ _ _ _) a len cap (nums .u32 M) rfl (by rw [HU.out, HM.out]) HN.out (nums_one .u32 M) HN2.out HN3.out HBS.out ?_)
  intro v' w3 ho hg
  have ho' : w3.ownsRow w.heap.size 43 1 v' len (nums .u32 M) := by simpa using ho
  obtain ⟨av, cv, rfl, hcv⟩ := ownsRow_slice ho'
  have hb3 : Below w.heap.size (w.setCell ⟨g, 5, none⟩ (.int .i64 mx)) w3 := Below.grown (Below.refl _ _) hg HBS.out (fun k hk => by cases hk)
  have B3 := HB1.out.below hb3 (by have := HH.out.blk.lt; exact this)
  have e6 := B3.cell 6
  have f6 := B3.frozen 6
  have HO3 := hid ho'
  have HB3 := hid hb3
  have HBB := hid (B3.setCell 6 (.slice av len cv))
  have HCV := hid hcv
  clear ho ho' hg hb3 B3
  go_wp2
  refine ret0 rfl rfl ?_
  have hb3' : Below (w.setCell ⟨g, 5, none⟩ (.int .i64 mx)).heap.size (w.setCell ⟨g, 5, none⟩ (.int .i64 mx)) w3 := by
    rw [show (w.setCell ⟨g, 5, none⟩ (.int .i64 mx)).heap.size = w.heap.size by simp]
    exact HB3.out
  have hO2 : Only (fun x => x = g) (w.setCell ⟨g, 5, none⟩ (.int .i64 mx)) (w3.setCell ⟨g, 6, none⟩ (.slice av len cv)) := (Only.of (S := fun x => x = g) hb3').setCell (.inl rfl) _ _
  have hO : Only (fun x => x = g) w (w3.setCell ⟨g, 6, none⟩ (.slice av len cv)) := HO1.out.trans hO2
  have h0 := HH.out
  have hA : RAt (up S w) g (F.arm n M) (.slice av len cv) gW cW gV cV (w3.setCell ⟨g, 6, none⟩ (.slice av len cv)) := by
    refine ⟨?_, ?_, h0.ws.only hO h0.n1.symm, h0.wn.only hO h0.n2.symm, h0.n1, h0.n2, h0.n3, .inl h0.s1, .inl h0.s2, .inl h0.s3⟩
    · have := HBB.out
      rw [← HAF.out] at this
      exact this
    · unfold RFuse
      split
      · trivial
      · rename_i k M' e
        have eM : M' = M := by
          simp only [Fl.arm] at e
          split at e
          · cases e
          · cases e; rfl
        subst eM
        have ho := HO3.out
        have hcv := HCV.out
        rw [← HM.out] at ho hcv
        have ho2 : (w3.setCell ⟨g, 6, none⟩ (.slice av len cv)).ownsRow w.heap.size 43 1 (.slice av M'.length cv) M'.length (nums .u32 M') := ownsRow_same ho fun x hx => Below.heap_setCell w3 ⟨g, 6, none⟩ _ x (by
          have := (World.ownsRow.lt ho x hx).1
          have := h0.blk.lt
          show x ≠ g
          omega)
        refine ⟨av, cv, by rw [Nat.min_self, HM.out], by rw [Nat.min_self]; exact hcv, ?_, ?_⟩
        · rw [Nat.min_self, List.take_of_length_le (Nat.le_refl _)]
          exact Reads.own ho2
        · rw [Nat.min_self]
          by_cases hz : M'.length = 0
          · exact .inl hz
          · right
            obtain ⟨q, c', hv, hq, _⟩ := ownsRow_form ho2 (by omega)
            cases hv
            refine ⟨_, rfl, .inr hq, ?_⟩
            have := h0.blk.lt
            have := h0.ws.lt
            have := h0.wn.lt
            rintro (e | e | e) <;> simp at e <;> omega
  exact ⟨rfl, _, ⟨_, _, _, _, _, hA.clip⟩, fun x hx => ⟨hx.2, hx.1⟩, hO.mono fun x hx _ => by rw [hx]; exact h0.s1⟩
theorem RDid.before {S : Nat → Prop} {g : Nat} {G : Fl} {v : Value} {w w1 w' : World} {e : Ending} (hb : Below w.heap.size w w1) (k : RDid S g G v w1 e w') : RDid S g G v w e w' := by
  obtain ⟨he, S', h1, h2, h3⟩ := k
  exact ⟨he, S', h1, fun x hx => ⟨(h2 x hx).1, (h2 x hx).2.imp id fun h => Nat.le_trans hb.size h⟩, (Only.of hb).next h3 fun x hx _ => hx⟩
end Go.Proofs.YtphifanacehppaaGreat.flash
/- Contracts of layer 8's reference: between, Right, Map. No condition. -/
namespace Go.Proofs.YtphifanacehppaaGreat.geom
open Go.RowKit
set_option linter.unusedVariables false

theorem between_yes (n lo hi : Int) (w : World) (h1 : lo ≤ n) (h2 : n ≤ hi) : Calls Tryz.prog 57 #[.int .i64 n, .int .i64 lo, .int .i64 hi] w fun e w' => e = .returned (.bool true) ∧ w = w' := by
  go_enter Tryz.func57, Tryz.ntmps57
  go_wp2
  go_ret
  exact ⟨rfl, rfl⟩
theorem between_no (n lo hi : Int) (w : World) (h : n < lo ∨ hi < n) : Calls Tryz.prog 57 #[.int .i64 n, .int .i64 lo, .int .i64 hi] w fun e w' => e = .returned (.bool false) ∧ w = w' := by
  by_cases h1 : n < lo
  · clear h
    go_enter Tryz.func57, Tryz.ntmps57
    go_wp2
    go_ret
    exact ⟨rfl, rfl⟩
  · have h2 : hi < n := by omega
    have h3 : lo ≤ n := by omega
    have hd : decide (n ≤ hi) = false := decide_eq_false (by omega)
    clear h h1
    go_enter Tryz.func57, Tryz.ntmps57
    go_wp2
    go_ret
    exact ⟨rfl, rfl⟩
theorem right_yes (g : Geo) (h : g.Right) (w : World) : Calls Tryz.prog 32 #[.agg #[.int .i64 g.sector, .int .i64 g.slot, .int .i64 g.data, .int .i64 g.quota, .int .i64 g.tries, .int .i64 g.life]] w fun e w' => e = .returned (.bool true) ∧ Below w.heap.size w w' := by
  obtain ⟨⟨h1, h2⟩, ⟨h3, h4⟩, ⟨h5, h6⟩, ⟨h7, h8⟩, ⟨h9, h10⟩, ⟨h11, h12⟩⟩ := h
  go_enter Tryz.func32, Tryz.ntmps32
  go_wp2_with (go_at_call 57; (with_reducible refine (between_yes _ _ _ _ (by omega) (by omega)).mono ?_); rintro e w' ⟨rfl, rfl⟩)
  go_ret
  exact ⟨rfl, (Below.refl _ _).alloc (Nat.le_refl _) _⟩
theorem right_no (g : Geo) (h : ¬ g.Right) (w : World) : Calls Tryz.prog 32 #[.agg #[.int .i64 g.sector, .int .i64 g.slot, .int .i64 g.data, .int .i64 g.quota, .int .i64 g.tries, .int .i64 g.life]] w fun e w' => e = .returned (.bool false) ∧ Below w.heap.size w w' := by
  rcases Geo.wrong h with h | h | h | h | h | h
  all_goals
    rename_i hr
    clear hr
    go_enter Tryz.func32, Tryz.ntmps32
    go_wp2_with (go_at_call 57; (first
      | ((with_reducible refine (between_yes _ _ _ _ (by omega) (by omega)).mono ?_); rintro e w' ⟨rfl, rfl⟩)
      | ((with_reducible refine (between_no _ _ _ _ (by omega)).mono ?_); rintro e w' ⟨rfl, rfl⟩)))
    go_ret
    exact ⟨rfl, (Below.refl _ _).alloc (Nat.le_refl _) _⟩
theorem right_yes_at (g : Geo) (h : g.Right) (w0 w : World) (hb : Below w0.heap.size w0 w) : Calls Tryz.prog 32 #[.agg #[.int .i64 g.sector, .int .i64 g.slot, .int .i64 g.data, .int .i64 g.quota, .int .i64 g.tries, .int .i64 g.life]] w fun e w' => e = .returned (.bool true) ∧ Below w0.heap.size w0 w' :=
  (right_yes g h w).mono fun _ _ ⟨he, hw⟩ => ⟨he, hb.trans (hw.mono hb.size)⟩
theorem right_no_at (g : Geo) (h : ¬ g.Right) (w0 w : World) (hb : Below w0.heap.size w0 w) : Calls Tryz.prog 32 #[.agg #[.int .i64 g.sector, .int .i64 g.slot, .int .i64 g.data, .int .i64 g.quota, .int .i64 g.tries, .int .i64 g.life]] w fun e w' => e = .returned (.bool false) ∧ Below w0.heap.size w0 w' :=
  (right_no g h w).mono fun _ _ ⟨he, hw⟩ => ⟨he, hb.trans (hw.mono hb.size)⟩

/-- the cells of a row of triples -/
def tri : List (Int × Int × Int) → List Value
  | [] => []
  | t :: l => .int .i64 t.1 :: .int .i64 t.2.1 :: .int .i64 t.2.2 :: tri l
theorem tri_append : ∀ a b, tri (a ++ b) = tri a ++ tri b
  | [], b => rfl
  | t :: a, b => by rw [List.cons_append, tri, tri, tri_append a b]; rfl
theorem tri_length : ∀ l, (tri l).length = l.length * 3
  | [] => rfl
  | t :: l => by rw [tri]; simp only [List.length_cons, tri_length l]; omega
theorem tri_at : ∀ (l : List (Int × Int × Int)) (k : Nat) t, l[k]? = some t → (tri l)[k * 3]? = some (.int .i64 t.1) ∧ (tri l)[k * 3 + 1]? = some (.int .i64 t.2.1) ∧ (tri l)[k * 3 + 2]? = some (.int .i64 t.2.2)
  | [], k, t, h => by simp at h
  | x :: l, 0, t, h => by simp at h; subst h; exact ⟨rfl, rfl, rfl⟩
  | x :: l, k + 1, t, h => by
    have := tri_at l k t (by simpa using h)
    rw [tri, show (k + 1) * 3 = k * 3 + 1 + 1 + 1 by omega]
    simp only [List.getElem?_cons_succ]
    exact this
/-- the first k sectors -/
def Geo.rows (g : Geo) (k : Nat) : List (Int × Int × Int) := (List.range k).map fun j : Nat => g.at (j : Int)
theorem Geo.rows_succ (g : Geo) (k : Nat) : g.rows (k + 1) = g.rows k ++ [g.at (k : Int)] := by
  unfold Geo.rows
  rw [List.range_succ, List.map_append]; rfl
theorem Geo.rows_length (g : Geo) (k : Nat) : (g.rows k).length = k := by unfold Geo.rows; simp

theorem info_tri : (Tryz.prog.info? 105).map (fun i => (i.zero, i.size, i.bytes)) = some (some (.agg #[.int .i64 0, .int .i64 0, .int .i64 0]), 3, 24) := by kernel_rfl
theorem info_tri_parts : ∃ i, Tryz.prog.info? 105 = some i ∧ i.zero = some (.agg #[.int .i64 0, .int .i64 0, .int .i64 0]) ∧ i.size = 3 ∧ i.bytes = 24 := by
  obtain ⟨i, hi, he⟩ := Option.map_eq_some_iff.1 info_tri
  simp only [Prod.mk.injEq] at he
  exact ⟨i, hi, he.1, he.2.1, he.2.2⟩
/-- the row as it grows: the first k sectors -/
def Row3 (g : Geo) (w0 : World) (k : Nat) (v : Value) (wr : World) : Prop := wr.ownsRow w0.heap.size 105 3 v k (tri (g.rows k)) ∧ Below w0.heap.size w0 wr
theorem wpList_append_tri {ops : Array Oper} {rest : List Oper} {o : Oper} {a : Act} {Q : Exit → Act → World → Prop} {w0 wr : World} (hgd : o.guard = none) (s x : Operand)
    (ho : o.op = .call { callee := .builtin .append, args := #[s, x], argTypes := #[68, 68] })
    (g : Geo) (k : Nat) (v : Value) (hs : a.eval s = v) (hx : a.eval x = .slice (some ⟨wr.heap.size, 0, none⟩) 1 1) (h : Hid (Row3 g w0 k v wr)) (hk : k ≤ 1000) (n1 n2 n3 : Int) (hat : Hid (g.at (k : Int) = (n1, n2, n3)))
    (hq : ∀ v' w', Hid (Row3 g w0 (k + 1) v' w') → wpList Tryz.prog ops Q rest (a.put o.dst v') w') : wpList Tryz.prog ops Q (o :: rest) a (wr.alloc (.cells #[.int .i64 n1, .int .i64 n2, .int .i64 n3] 105)) := by
  obtain ⟨i0, hi, hz0, hz1, hz2⟩ := info_tri_parts
  obtain ⟨ho1, hb⟩ := h.out
  refine wpList_append_own_at _ hgd s x 68 ho w0.heap.size 105 i0 _ 3 24 Tryz.underlying68 hi hz0 hz1 hz2 (by simp [Value.cells]) (by decide) v k (tri (g.rows k)) hs (ownsRow_same ho1 fun x hx => Below.heap_alloc wr _ x (World.ownsRow.lt ho1 x hx).2) ⟨wr.heap.size, 0, none⟩ 1 1 (tri [(n1, n2, n3)]) hx rfl (cells_new wr _ _) (by intro u hu; simp [tri] at hu; rcases hu with rfl | rfl | rfl <;> rfl) (by unfold maxLen; omega) (by omega) (by have := hb.size; simp; omega) ?_
  intro v' w' h1 h2 _ _
  refine hq v' w' (hid ⟨?_, ?_⟩)
  · rw [Geo.rows_succ, tri_append, hat.out]; exact h1
  · exact (hb.alloc hb.size _).grown h2 (by have := hb.size; simp; omega) (fun k hk => (World.ownsRow.lt ho1 k hk).1)
/-- the slice at a reads as the first n sectors -/
def Tris (g : Geo) (w : World) (a : Option Addr) (n : Nat) : Prop :=
  n = 0 ∨ ∃ b, a = some ⟨b, 0, none⟩ ∧ b < w.heap.size ∧ ∀ k : Nat, k < n → w.cell? ⟨b, k * 3, none⟩ = some (.int .i64 (g.at (k : Int)).1) ∧ w.cell? ⟨b, k * 3 + 1, none⟩ = some (.int .i64 (g.at (k : Int)).2.1) ∧ w.cell? ⟨b, k * 3 + 2, none⟩ = some (.int .i64 (g.at (k : Int)).2.2)
theorem Tris.below {g : Geo} {w w' : World} {a : Option Addr} {n : Nat} (h : Tris g w a n) (hb : Below w.heap.size w w') : Tris g w' a n := by
  rcases h with h | ⟨b, ha, hlt, hc⟩
  · exact .inl h
  · refine .inr ⟨b, ha, Nat.lt_of_lt_of_le hlt hb.size, fun k hk => ?_⟩
    rw [hb.cell (p := ⟨b, k * 3, none⟩) hlt, hb.cell (p := ⟨b, k * 3 + 1, none⟩) hlt, hb.cell (p := ⟨b, k * 3 + 2, none⟩) hlt]
    exact hc k hk
theorem Row3.tris {g : Geo} {w0 wr : World} {n cap : Nat} {a : Option Addr} (h : Row3 g w0 n (.slice a n cap) wr) : Tris g wr a n := by
  obtain ⟨⟨hl, hr⟩, _⟩ := h
  rcases hr with ⟨hv, h0⟩ | ⟨b, cap', cur, hv, _, hg, _, _, _, htake⟩
  · exact .inl h0
  · cases hv
    refine .inr ⟨b, rfl, (Array.getElem?_eq_some_iff.1 hg).1, fun k hk => ?_⟩
    have ht := tri_at (g.rows n) k (g.at (k : Int)) (by unfold Geo.rows; simp [hk])
    have h2 : ∀ j, j < n * 3 → cur[j]? = (tri (g.rows n))[j]? := fun j hj => by
      have : (cur.toList.take (n * 3))[j]? = (tri (g.rows n))[j]? := by rw [htake]
      rwa [List.getElem?_take, if_pos hj, Array.getElem?_toList] at this
    rw [cell_of_row wr b _ cur _ (0, 0) hg, cell_of_row wr b _ cur _ (0, 0) hg, cell_of_row wr b _ cur _ (0, 0) hg, h2 _ (by omega), h2 _ (by omega), h2 _ (by omega)]
    exact ht
def MapRes (g : Geo) (w : World) (e : Ending) (w' : World) : Prop := ∃ a cap n, e = .returned (.slice a n cap) ∧ (n : Int) = g.sectors ∧ Tris g w' a n ∧ Below w.heap.size w w'
theorem Row3.slice {g : Geo} {w0 wr : World} {n : Nat} {v : Value} (h : Row3 g w0 n v wr) : ∃ a cap, v = .slice a n cap := by
  obtain ⟨a, cap, hv, _⟩ := ownsRow_slice h.1
  exact ⟨a, cap, hv⟩
theorem row3_start (g : Geo) (h : g.Right) (w0 : World) : Row3 g w0 2 (.slice (some ⟨w0.heap.size, 0, none⟩) 2 2) (w0.alloc (.cells #[.int .i64 0, .int .i64 0, .int .i64 0, .int .i64 0, .int .i64 0, .int .i64 1] 105)) := by
  refine ⟨⟨by rw [tri_length, Geo.rows_length], .inr ⟨w0.heap.size, 2, _, rfl, Nat.le_refl _, heap_alloc_last w0 _, Nat.le_refl _, by unfold maxLen; omega, rfl, ?_⟩⟩, (Below.refl _ _).alloc (Nat.le_refl _) _⟩
  rfl
end Go.Proofs.YtphifanacehppaaGreat.geom
