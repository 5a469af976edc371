/- Contracts and lemmas that the claims of this seat share: JournalLoads, JournalTakes, FlashHold, FlashLooks, FlashWrite, JournalPart. Each says its own conditions. -/
import Derived.Test.YtphifanacehppaaGreatCmB
import Derived.Test.YtphifanacehppaaGreatCmC
import Derived.Handy
import Derived.Deep.RegionLaw
import Derived.Deep.AppendLies
/- Loads and lists of loads in memory. No condition. -/
namespace Go.Proofs.YtphifanacehppaaGreat.journal
open Go.RowKit
set_option linter.unusedVariables false

/-- what lies in X stands -/
structure Stays (X : Nat → Prop) (w w' : World) : Prop where
  size : w.heap.size ≤ w'.heap.size
  block : ∀ x, X x → x < w.heap.size → w'.heap[x]? = w.heap[x]?
section
variable {X Y S : Nat → Prop} {w w' w2 : World}
theorem Stays.refl (X : Nat → Prop) (w : World) : Stays X w w := ⟨Nat.le_refl _, fun _ _ _ => rfl⟩
theorem Stays.below (h : Below w.heap.size w w') : Stays X w w' := ⟨h.size, fun x _ hx => h.block x hx⟩
theorem Stays.only (h : Only S w w') (k : ∀ x, X x → ¬ S x) : Stays X w w' := ⟨h.size, fun x hx hl => h.block x hl (k x hx)⟩
theorem Stays.trans (h : Stays X w w') (k : Stays X w' w2) : Stays X w w2 := ⟨Nat.le_trans h.size k.size, fun x hx hl => (k.block x hx (Nat.lt_of_lt_of_le hl h.size)).trans (h.block x hx hl)⟩
theorem Stays.setCell {b : Nat} (h : Stays X w w') (hb : ¬ X b) (o : Nat) (v : Value) : Stays X w (w'.setCell ⟨b, o, none⟩ v) :=
  h.trans ⟨by simp, fun x hx hl => Below.heap_setCell w' ⟨b, o, none⟩ v x (fun e => hb (by have e' : x = b := e; rwa [e'] at hx))⟩
end
/-- a load in memory: nothing, or a row in X -/
def LoadAt (X : Nat → Prop) (w : World) (v : Value) (L : List Nat) : Prop :=
  (v = .slice none 0 0 ∧ L = []) ∨ ∃ q c, v = .slice (some ⟨q, 0, none⟩) L.length c ∧ X q ∧ Row w 43 .u32 q c L
section
variable {X Y S : Nat → Prop} {w w' w2 : World} {v : Value} {L : List Nat}
theorem LoadAt.nil : LoadAt X w (.slice none 0 0) [] := .inl ⟨rfl, rfl⟩
theorem LoadAt.stays (h : LoadAt X w v L) (k : Stays X w w') : LoadAt X w' v L := by
  rcases h with h | ⟨q, c, h1, h2, h3⟩
  · exact .inl h
  · exact .inr ⟨q, c, h1, h2, h3.heap (k.block q h2 h3.lt)⟩
theorem LoadAt.wide (h : LoadAt X w v L) (k : ∀ x, X x → x < w.heap.size → Y x) : LoadAt Y w v L := by
  rcases h with h | ⟨q, c, h1, h2, h3⟩
  · exact .inl h
  · exact .inr ⟨q, c, h1, k q h2 h3.lt, h3⟩
theorem LoadAt.row {q c : Nat} (h : Row w 43 .u32 q c L) (hq : X q) : LoadAt X w (.slice (some ⟨q, 0, none⟩) L.length c) L := .inr ⟨q, c, rfl, hq, h⟩
theorem LoadAt.reads (h : LoadAt X w v L) : ∃ a c, v = .slice a L.length c ∧ L.length ≤ c ∧ c ≤ maxLen ∧ Reads .u32 w a L.length L ∧ (L.length = 0 ∨ ∃ y, a = some y ∧ X y.block ∧ y.block < w.heap.size) ∧ (a = none → L = []) := by
  rcases h with ⟨rfl, rfl⟩ | ⟨q, c, rfl, h2, h3⟩
  · exact ⟨none, 0, rfl, Nat.le_refl _, Nat.zero_le _, Reads.nil, .inl rfl, fun _ => rfl⟩
  · have h4 := h3
    obtain ⟨pad, hb, hl, hc⟩ := h3
    exact ⟨_, c, rfl, hl, hc, h4.reads, .inr ⟨_, rfl, h2, h4.lt⟩, fun h => by cases h⟩
theorem LoadAt.one (h : LoadAt X w v L) : v.oneCell' = true := by
  rcases h with ⟨rfl, rfl⟩ | ⟨q, c, rfl, _⟩ <;> rfl
/-- a load's row is no row of loads -/
theorem LoadAt.apart {g : Nat} {cur : Array Value} (h : LoadAt X w v L) (hg : w.heap[g]? = some (.cells cur 24 (0, 0))) : LoadAt (fun x => X x ∧ x ≠ g) w v L := by
  rcases h with h | ⟨q, c, h1, h2, h3⟩
  · exact .inl h
  · refine .inr ⟨q, c, h1, ⟨h2, fun e => ?_⟩, h3⟩
    subst e
    obtain ⟨pad, hb, _⟩ := h3
    have : w.heap[q]? = _ := hb
    rw [hg] at this
    simp at this
end
/-- a list of loads in memory -/
def LoadsAt (X : Nat → Prop) (w : World) (v : Value) (Ls : List (List Nat)) : Prop :=
  ∃ vs, w.ownsRow 0 24 1 v Ls.length vs ∧ (∀ b, v.ownBlock = some b → X b) ∧ ∀ i, i < Ls.length → ∃ u, vs[i]? = some u ∧ LoadAt X w u (Ls.getD i [])
section
variable {X Y S : Nat → Prop} {w w' w2 : World} {v : Value} {Ls : List (List Nat)}
theorem LoadsAt.nil : LoadsAt X w (.slice none 0 0) [] := ⟨[], World.ownsRow_nil _ _ _ _, fun b h => (by cases h), fun i hi => absurd hi (Nat.not_lt_zero i)⟩
theorem LoadsAt.stays (h : LoadsAt X w v Ls) (k : Stays X w w') : LoadsAt X w' v Ls := by
  obtain ⟨vs, h1, h2, h3⟩ := h
  refine ⟨vs, ownsRow_same h1 fun b hb => k.block b (h2 b hb) (World.ownsRow.lt h1 b hb).2, h2, fun i hi => ?_⟩
  obtain ⟨u, hu, hl⟩ := h3 i hi
  exact ⟨u, hu, hl.stays k⟩
theorem LoadsAt.wide (h : LoadsAt X w v Ls) (k : ∀ x, X x → x < w.heap.size → Y x) : LoadsAt Y w v Ls := by
  obtain ⟨vs, h1, h2, h3⟩ := h
  refine ⟨vs, h1, fun b hb => k b (h2 b hb) (World.ownsRow.lt h1 b hb).2, fun i hi => ?_⟩
  obtain ⟨u, hu, hl⟩ := h3 i hi
  exact ⟨u, hu, hl.wide k⟩
theorem LoadsAt.slice (h : LoadsAt X w v Ls) : ∃ a c, v = .slice a Ls.length c ∧ Ls.length ≤ c := by
  obtain ⟨vs, h1, _⟩ := h
  exact ownsRow_slice h1
theorem own_heap {base e n : Nat} {v : Value} {vs : List Value} (h : w.ownsRow base e 1 v n vs) {g : Nat} (hg : v.ownBlock = some g) : ∃ cur, w.heap[g]? = some (.cells cur e (0, 0)) := by
  rcases h.2 with ⟨rfl, _⟩ | ⟨g', cap, cur, rfl, _, h2, _⟩
  · cases hg
  · cases hg
    exact ⟨cur, h2⟩
/-- the loads behind an append of one -/
theorem LoadsAt.snoc {v' u : Value} {vs : List Value} {L : List Nat} (h1 : w.ownsRow 0 24 1 v Ls.length vs) (h2 : ∀ b, v.ownBlock = some b → X b) (h3 : ∀ i, i < Ls.length → ∃ u, vs[i]? = some u ∧ LoadAt X w u (Ls.getD i []))
    (hu : LoadAt X w u L) (ho : w'.ownsRow 0 24 1 v' (Ls.length + 1) (vs ++ [u])) (hg : w.grownBy w' v.ownBlock) (hb : v'.ownBlock = v.ownBlock ∨ v'.ownBlock = some w.heap.size) :
    LoadsAt (fun x => X x ∨ x = w.heap.size) w' v' (Ls ++ [L]) ∧ ∀ {u2 : Value} {L2 : List Nat}, LoadAt X w u2 L2 → LoadAt (fun x => X x ∨ x = w.heap.size) w' u2 L2 := by
  have key : ∀ {u2 : Value} {L2 : List Nat}, LoadAt X w u2 L2 → LoadAt (fun x => X x ∨ x = w.heap.size) w' u2 L2 := fun {u2 L2} hl => by
    rcases hl with h | ⟨q, c, e, hx, hr⟩
    · exact .inl h
    · refine .inr ⟨q, c, e, .inl hx, hr.heap (hg.block q hr.lt fun e2 => ?_)⟩
      obtain ⟨cur, hc⟩ := own_heap h1 e2.symm
      obtain ⟨pad, hb, _⟩ := hr
      have : w.heap[q]? = _ := hb
      rw [hc] at this
      simp at this
  have hlen : vs.length = Ls.length := by have := h1.1; omega
  refine ⟨⟨vs ++ [u], ?_, fun b hv => ?_, fun i hi => ?_⟩, key⟩
  · rw [List.length_append, List.length_singleton]; exact ho
  · rcases hb with hb | hb
    · exact .inl (h2 b (hb.symm.trans hv))
    · rw [hb] at hv; cases hv; exact .inr rfl
  · rw [List.length_append, List.length_singleton] at hi
    by_cases hlt : i < Ls.length
    · obtain ⟨x, hx, hl⟩ := h3 i hlt
      refine ⟨x, by rw [List.getElem?_append_left (by omega)]; exact hx, ?_⟩
      rw [List.getD_eq_getElem?_getD, List.getElem?_append_left hlt, ← List.getD_eq_getElem?_getD]
      exact key hl
    · obtain rfl : i = Ls.length := by omega
      refine ⟨u, by rw [← hlen, List.getElem?_append_right (Nat.le_refl _), Nat.sub_self]; rfl, ?_⟩
      rw [List.getD_eq_getElem?_getD, List.getElem?_append_right (Nat.le_refl _), Nat.sub_self]
      exact key hu
end
/-- four values laid over a list from a place on -/
def part4 (cs : List Value) (o : Nat) (s x c t : Value) : List Value := (((cs.set o s).set (o + 1) x).set (o + 2) c).set (o + 3) t
section
variable {cs : List Value} {o : Nat} {s x c t : Value}
theorem part4_length : (part4 cs o s x c t).length = cs.length := by simp [part4]
theorem part4_get (i : Nat) (h : o + 3 < cs.length) : (part4 cs o s x c t)[i]? = if i = o then some s else if i = o + 1 then some x else if i = o + 2 then some c else if i = o + 3 then some t else cs[i]? := by
  unfold part4
  rw [List.getElem?_set, List.getElem?_set, List.getElem?_set, List.getElem?_set]
  simp only [List.length_set]
  by_cases h3 : i = o + 3
  · subst h3
    rw [if_pos rfl, if_pos h, if_neg (by omega), if_neg (by omega), if_neg (by omega), if_pos rfl]
  · rw [if_neg (fun e => h3 e.symm)]
    by_cases h2 : i = o + 2
    · subst h2
      rw [if_pos rfl, if_pos (by omega), if_neg (by omega), if_neg (by omega), if_pos rfl]
    · rw [if_neg (fun e => h2 e.symm)]
      by_cases h1 : i = o + 1
      · subst h1
        rw [if_pos rfl, if_pos (by omega), if_neg (by omega), if_pos rfl]
      · rw [if_neg (fun e => h1 e.symm)]
        by_cases h0 : i = o
        · subst h0
          rw [if_pos rfl, if_pos (by omega), if_pos rfl]
        · rw [if_neg (fun e => h0 e.symm), if_neg h0, if_neg h1, if_neg h2, if_neg h3]
theorem part4_ext {cs' : List Value} (h : o + 3 < cs.length) (hl : cs'.length = cs.length) (k : ∀ i, cs'[i]? = if i = o then some s else if i = o + 1 then some x else if i = o + 2 then some c else if i = o + 3 then some t else cs[i]?) : cs' = part4 cs o s x c t := by
  apply List.ext_getElem?
  intro i
  rw [k i, part4_get i h]
theorem part4_self (h : o + 3 < cs.length) (h0 : cs[o]? = some s) (h1 : cs[o + 1]? = some x) (h2 : cs[o + 2]? = some c) (h3 : cs[o + 3]? = some t) : cs = part4 cs o s x c t :=
  part4_ext h rfl fun i => by
    split
    · rename_i e; rw [e, h0]
    · split
      · rename_i e; rw [e, h1]
      · split
        · rename_i e; rw [e, h2]
        · split
          · rename_i e; rw [e, h3]
          · rfl
theorem part4_set0 {v : Value} (h : o + 3 < cs.length) : (part4 cs o s x c t).set o v = part4 cs o v x c t := by
  refine part4_ext h (by rw [List.length_set, part4_length]) fun i => ?_
  rw [List.getElem?_set, part4_length, part4_get i h]
  by_cases e : o = i
  · subst e
    rw [if_pos rfl, if_pos (by omega)]
    (repeat' split) <;> first | rfl | (exfalso; omega)
  · rw [if_neg e]
    (repeat' split) <;> first | rfl | (exfalso; omega)
theorem part4_set1 {v : Value} (h : o + 3 < cs.length) : (part4 cs o s x c t).set (o + 1) v = part4 cs o s v c t := by
  refine part4_ext h (by rw [List.length_set, part4_length]) fun i => ?_
  rw [List.getElem?_set, part4_length, part4_get i h]
  by_cases e : o + 1 = i
  · subst e
    rw [if_pos rfl, if_pos (by omega)]
    (repeat' split) <;> first | rfl | (exfalso; omega)
  · rw [if_neg e]
    (repeat' split) <;> first | rfl | (exfalso; omega)
theorem part4_set2 {v : Value} (h : o + 3 < cs.length) : (part4 cs o s x c t).set (o + 2) v = part4 cs o s x v t := by
  refine part4_ext h (by rw [List.length_set, part4_length]) fun i => ?_
  rw [List.getElem?_set, part4_length, part4_get i h]
  by_cases e : o + 2 = i
  · subst e
    rw [if_pos rfl, if_pos (by omega)]
    (repeat' split) <;> first | rfl | (exfalso; omega)
  · rw [if_neg e]
    (repeat' split) <;> first | rfl | (exfalso; omega)
theorem part4_set3 {v : Value} (h : o + 3 < cs.length) : (part4 cs o s x c t).set (o + 3) v = part4 cs o s x c v := by
  refine part4_ext h (by rw [List.length_set, part4_length]) fun i => ?_
  rw [List.getElem?_set, part4_length, part4_get i h]
  by_cases e : o + 3 = i
  · subst e
    rw [if_pos rfl, if_pos (by omega)]
    (repeat' split) <;> first | rfl | (exfalso; omega)
  · rw [if_neg e]
    (repeat' split) <;> first | rfl | (exfalso; omega)
end
end Go.Proofs.YtphifanacehppaaGreat.journal
/- Contract of a part's takes. No condition. -/
namespace Go.Proofs.YtphifanacehppaaGreat.journal
open Go.RowKit
set_option linter.unusedVariables false

theorem takes_any (b o q k s : Nat) (x : Option Addr) (n c : Nat) (w : World) (hc : w.cell? ⟨b, o, none⟩ = some (.int .i64 (q : Int))) (hlt : b < w.heap.size) (hq : q ≤ 1073741823) :
    Calls Tryz.prog 70 #[.pointer (some ⟨b, o, none⟩), .agg #[.int .i64 (k : Int), .int .i64 (s : Int), .slice x n c]] w fun e w' => e = .returned (.bool (if q = 0 then decide (k = 1) else decide (s = q + 1))) ∧ Below w.heap.size w w' := by
  have hb : Below w.heap.size w (w.alloc (.cells #[.int .i64 (k : Int), .int .i64 (s : Int), .slice x n c] 127)) := (Below.refl _ _).alloc (Nat.le_refl _) _
  have h1 : (w.alloc (.cells #[.int .i64 (k : Int), .int .i64 (s : Int), .slice x n c] 127)).cell? ⟨b, o, none⟩ = some (.int .i64 (q : Int)) := (hb.cell (p := ⟨b, o, none⟩) hlt).trans hc
  have HB := hid hb
  clear hb hc
  obtain ⟨v, hv⟩ : ∃ v, Hid ((if q = 0 then decide (k = 1) else decide (s = q + 1)) = v) := ⟨_, rfl⟩
  rw [hv.out]
  by_cases hz : q = 0
  · subst hz
    have hv2 : Hid (decide (k = 1) = v) := hid (by rw [← hv.out, if_pos rfl])
    clear hv
    go_enter Tryz.func70, Tryz.ntmps70
    go_wp2
    go_ret
    exact ⟨ret_bool (by rw [← hv2.out]; rw [Bool.eq_iff_iff]; simp; try omega), HB.out⟩
  · have hv2 : Hid (decide (s = q + 1) = v) := hid (by rw [← hv.out, if_neg hz])
    have hq0 : ((q : Int) == 0) = false := by simp; omega
    clear hv hz
    go_enter Tryz.func70, Tryz.ntmps70
    go_wp2
    go_quiet (fail)
    go_wp2
    go_ret
    exact ⟨ret_bool (by rw [← hv2.out]; rw [Bool.eq_iff_iff]; simp; omega), below_drewN HB.out _⟩
end Go.Proofs.YtphifanacehppaaGreat.journal
/- A flash in the memory: its block, its fuse, its rows of words and of wear. No condition. -/
namespace Go.Proofs.YtphifanacehppaaGreat.flash
open Go.RowKit Go.Proofs.YtphifanacehppaaGreat.word
set_option linter.unusedVariables false

/-- the slice of masks M, in memory that is not the flash's other blocks; of them only the first L are there -/
def MasksAt (S : Nat → Prop) (no : Nat → Prop) (L : Nat) (M : List Nat) (cm : Value) (w : World) : Prop :=
  ∃ a c, cm = .slice a (min M.length L) c ∧ min M.length L ≤ c ∧ Reads .u32 w a (min M.length L) (M.take L) ∧ (min M.length L = 0 ∨ ∃ x, a = some x ∧ S x.block ∧ ¬ no x.block)
def FuseAt (S : Nat → Prop) (no : Nat → Prop) (L : Nat) (fuse : Option (Nat × List Nat)) (ca cb cm : Value) (w : World) : Prop :=
  match fuse with
  | none => ca = .bool false ∧ cb = .int .i64 0 ∧ cm = .slice none 0 0
  | some (n, M) => ca = .bool true ∧ cb = .int .i64 (n : Int) ∧ MasksAt S no L M cm w
theorem MasksAt.only {S no T : Nat → Prop} {L : Nat} {M : List Nat} {cm : Value} {w w' : World} (h : MasksAt S no L M cm w) (k : Only T w w') (hT : ∀ x, T x → S x → no x) : MasksAt S no L M cm w' := by
  obtain ⟨a, c, h1, h0, h2, h3⟩ := h
  refine ⟨a, c, h1, h0, reads_only h2 k ?_, h3⟩
  rcases h3 with h | ⟨x, hx, h4, h5⟩
  · exact .inl h
  · exact .inr ⟨x, hx, fun ht => h5 (hT _ ht h4)⟩
theorem FuseAt.only {S no T : Nat → Prop} {L : Nat} {fuse : Option (Nat × List Nat)} {ca cb cm : Value} {w w' : World} (h : FuseAt S no L fuse ca cb cm w) (k : Only T w w') (hT : ∀ x, T x → S x → no x) : FuseAt S no L fuse ca cb cm w' := by
  match fuse, h with
  | none, h => exact h
  | some (n, M), ⟨h1, h2, h3⟩ => exact ⟨h1, h2, h3.only k hT⟩
def at3 (b bw bv : Nat) (x : Nat) : Prop := x = b ∨ x = bw ∨ x = bv
/-- the flash's values in the blocks b, bw (words), bv (wear); all that it may turn or that it needs lies in S -/
structure At (S : Nat → Prop) (b : Nat) (F : Fl) (ca cb cm : Value) (bw cw bv cv : Nat) (w : World) : Prop where
  blk : Block w b 90 [ca, cb, cm, .slice (some ⟨bw, 0, none⟩) F.ws.length cw, .int .i64 (F.long : Int), .slice (some ⟨bv, 0, none⟩) F.worn.length cv, .int .i64 (F.count : Int), .bool F.dark]
  fuse : FuseAt S (at3 b bw bv) F.long F.fuse ca cb cm w
  ws : Row w 43 .u32 bw cw F.ws
  wn : Row w 3 .i64 bv cv F.worn
  n1 : b ≠ bw
  n2 : b ≠ bv
  n3 : bw ≠ bv
  s1 : S b
  s2 : S bw
  s3 : S bv
def FlashAt (S : Nat → Prop) (b : Nat) (F : Fl) (w : World) : Prop := ∃ ca cb cm bw cw bv cv, At S b F ca cb cm bw cw bv cv w
section
variable {S T : Nat → Prop} {b : Nat} {F : Fl} {ca cb cm : Value} {bw cw bv cv : Nat} {w w' : World}
theorem At.lt (h : At S b F ca cb cm bw cw bv cv w) : b < w.heap.size := h.blk.lt
theorem At.mem (h : At S b F ca cb cm bw cw bv cv w) (x : Nat) (hx : at3 b bw bv x) : S x := by
  rcases hx with e | e | e
  · rw [e]; exact h.s1
  · rw [e]; exact h.s2
  · rw [e]; exact h.s3
theorem At.only (h : At S b F ca cb cm bw cw bv cv w) (k : Only T w w') (hT : ∀ x, T x → ¬ S x) : At S b F ca cb cm bw cw bv cv w' :=
  ⟨h.blk.only k (fun ht => hT _ ht h.s1), h.fuse.only k (fun x ht hs => absurd hs (hT x ht)), h.ws.only k (fun ht => hT _ ht h.s2), h.wn.only k (fun ht => hT _ ht h.s3), h.n1, h.n2, h.n3, h.s1, h.s2, h.s3⟩
theorem At.later (h : At S b F ca cb cm bw cw bv cv w) (k : Below w.heap.size w w') : At S b F ca cb cm bw cw bv cv w' :=
  h.only (T := fun _ => False) (Only.of k) (fun _ h => h.elim)
theorem At.wide (h : At S b F ca cb cm bw cw bv cv w) (hS : ∀ x, S x → T x) : At T b F ca cb cm bw cw bv cv w := by
  refine ⟨h.blk, ?_, h.ws, h.wn, h.n1, h.n2, h.n3, hS _ h.s1, hS _ h.s2, hS _ h.s3⟩
  have hf := h.fuse
  unfold FuseAt at hf ⊢
  split
  · rename_i e; rw [e] at hf; exact hf
  · rename_i n M e
    rw [e] at hf
    obtain ⟨h1, h2, a, c, h3, h0, h4, h5⟩ := hf
    exact ⟨h1, h2, a, c, h3, h0, h4, h5.imp id fun ⟨x, hx, h6, h7⟩ => ⟨x, hx, hS _ h6, h7⟩⟩
theorem FlashAt.only (h : FlashAt S b F w) (k : Only T w w') (hT : ∀ x, T x → ¬ S x) : FlashAt S b F w' := by
  obtain ⟨ca, cb, cm, bw, cw, bv, cv, h⟩ := h
  exact ⟨ca, cb, cm, bw, cw, bv, cv, h.only k hT⟩
theorem FlashAt.later (h : FlashAt S b F w) (k : Below w.heap.size w w') : FlashAt S b F w' := by
  obtain ⟨ca, cb, cm, bw, cw, bv, cv, h⟩ := h
  exact ⟨ca, cb, cm, bw, cw, bv, cv, h.later k⟩
theorem FlashAt.wide (h : FlashAt S b F w) (hS : ∀ x, S x → T x) : FlashAt T b F w := by
  obtain ⟨ca, cb, cm, bw, cw, bv, cv, h⟩ := h
  exact ⟨ca, cb, cm, bw, cw, bv, cv, h.wide hS⟩
/-- a cell of the flash's own block turned -/
theorem At.put (h : At S b F ca cb cm bw cw bv cv w) (o : Nat) (v : Value) : Only (fun x => x = b) w (w.setCell ⟨b, o, none⟩ v) := (Only.refl (fun x => x = b) w).setCell (.inl rfl) o v
theorem only_b (h : At S b F ca cb cm bw cw bv cv w) : ∀ x, x = b → S x → at3 b bw bv x := by rintro x rfl _; exact .inl rfl
theorem At.counted (h : At S b F ca cb cm bw cw bv cv w) (n : Nat) : At S b { F with count := n } ca cb cm bw cw bv cv (w.setCell ⟨b, 6, none⟩ (.int .i64 (n : Int))) :=
  ⟨h.blk.setCell 6 _, h.fuse.only (h.put 6 _) (only_b h), h.ws.apart _ _ _ h.n1.symm, h.wn.apart _ _ _ h.n2.symm, h.n1, h.n2, h.n3, h.s1, h.s2, h.s3⟩
theorem At.burnt (h : At S b F ca cb cm bw cw bv cv w) {n : Nat} {M : List Nat} (hf : F.fuse = some (n, M)) : At S b { F with fuse := some (n - 1, M) } ca (.int .i64 ((n - 1 : Nat) : Int)) cm bw cw bv cv (w.setCell ⟨b, 1, none⟩ (.int .i64 ((n - 1 : Nat) : Int))) := by
  refine ⟨h.blk.setCell 1 _, ?_, h.ws.apart _ _ _ h.n1.symm, h.wn.apart _ _ _ h.n2.symm, h.n1, h.n2, h.n3, h.s1, h.s2, h.s3⟩
  have h2 := h.fuse.only (h.put 1 (.int .i64 ((n - 1 : Nat) : Int))) (only_b h)
  rw [hf] at h2
  exact ⟨h2.1, rfl, h2.2.2⟩
theorem At.darkened (h : At S b F ca cb cm bw cw bv cv w) (d : Bool) : At S b { F with dark := d } ca cb cm bw cw bv cv (w.setCell ⟨b, 7, none⟩ (.bool d)) :=
  ⟨h.blk.setCell 7 _, h.fuse.only (h.put 7 _) (only_b h), h.ws.apart _ _ _ h.n1.symm, h.wn.apart _ _ _ h.n2.symm, h.n1, h.n2, h.n3, h.s1, h.s2, h.s3⟩
theorem At.word (h : At S b F ca cb cm bw cw bv cv w) {i : Nat} (hi : i < F.ws.length) (v : Nat) : At S b { F with ws := F.ws.set i v } ca cb cm bw cw bv cv (w.setCell ⟨bw, i, none⟩ (.int .u32 (v : Int))) := by
  have ho : Only (fun x => x = bw) w (w.setCell ⟨bw, i, none⟩ (.int .u32 (v : Int))) := (Only.refl (fun x => x = bw) w).setCell (.inl rfl) i _
  refine ⟨?_, h.fuse.only ho (by rintro x rfl _; exact .inr (.inl rfl)), h.ws.set hi v, h.wn.apart _ _ _ h.n3.symm, h.n1, h.n2, h.n3, h.s1, h.s2, h.s3⟩
  have := h.blk.apart bw i (.int .u32 (v : Int)) h.n1
  simpa using this
theorem At.wear (h : At S b F ca cb cm bw cw bv cv w) {i : Nat} (hi : i < F.worn.length) (v : Nat) : At S b { F with worn := F.worn.set i v } ca cb cm bw cw bv cv (w.setCell ⟨bv, i, none⟩ (.int .i64 (v : Int))) := by
  have ho : Only (fun x => x = bv) w (w.setCell ⟨bv, i, none⟩ (.int .i64 (v : Int))) := (Only.refl (fun x => x = bv) w).setCell (.inl rfl) i _
  refine ⟨?_, h.fuse.only ho (by rintro x rfl _; exact .inr (.inr rfl)), h.ws.apart _ _ _ h.n3, h.wn.set hi v, h.n1, h.n2, h.n3, h.s1, h.s2, h.s3⟩
  have := h.blk.apart bv i (.int .i64 (v : Int)) h.n2
  simpa using this
/-- the fuse's three cells made new: none -/
theorem At.unfused (h : At S b F ca cb cm bw cw bv cv w) (hx : w' = ((w.setCell ⟨b, 0, none⟩ (.bool false)).setCell ⟨b, 1, none⟩ (.int .i64 0)).setCell ⟨b, 2, none⟩ (.slice none 0 0)) : At S b { F with fuse := none } (.bool false) (.int .i64 0) (.slice none 0 0) bw cw bv cv w' ∧ Only (fun x => x = b) w w' := by
  subst hx
  have ho : Only (fun x => x = b) w (((w.setCell ⟨b, 0, none⟩ (.bool false)).setCell ⟨b, 1, none⟩ (.int .i64 0)).setCell ⟨b, 2, none⟩ (.slice none 0 0)) := (((Only.refl (fun x => x = b) w).setCell (.inl rfl) 0 _).setCell (.inl rfl) 1 _).setCell (.inl rfl) 2 _
  exact ⟨⟨((h.blk.setCell 0 _).setCell 1 _).setCell 2 _, ⟨rfl, rfl, rfl⟩, h.ws.only ho h.n1.symm, h.wn.only ho h.n2.symm, h.n1, h.n2, h.n3, h.s1, h.s2, h.s3⟩, ho⟩
theorem At.cell (h : At S b F ca cb cm bw cw bv cv w) : w.cell? ⟨b, 0, none⟩ = some ca ∧ w.cell? ⟨b, 1, none⟩ = some cb ∧ w.cell? ⟨b, 2, none⟩ = some cm ∧ w.cell? ⟨b, 3, none⟩ = some (.slice (some ⟨bw, 0, none⟩) F.ws.length cw) ∧
    w.cell? ⟨b, 4, none⟩ = some (.int .i64 (F.long : Int)) ∧ w.cell? ⟨b, 5, none⟩ = some (.slice (some ⟨bv, 0, none⟩) F.worn.length cv) ∧ w.cell? ⟨b, 6, none⟩ = some (.int .i64 (F.count : Int)) ∧ w.cell? ⟨b, 7, none⟩ = some (.bool F.dark) := by
  simp only [h.blk.cell]
  exact ⟨rfl, rfl, rfl, rfl, rfl, rfl, rfl, rfl⟩
end
end Go.Proofs.YtphifanacehppaaGreat.flash
/- Contracts of the flash's calls that only read: ready, Read, Gone, Writes, Size, and of the fuse's mask. No condition. -/
namespace Go.Proofs.YtphifanacehppaaGreat.flash
open Go.RowKit Go.Proofs.YtphifanacehppaaGreat.word
set_option linter.unusedVariables false

theorem ready_nil (w : World) : Calls Tryz.prog 91 #[.pointer none] w (Quiet (.int .i64 1) w) := by
  go_enter Tryz.func91, Tryz.ntmps91
  go_wp2
  go_ret
  exact ⟨rfl, 0, rfl⟩
theorem ready_any (b : Nat) (d : Bool) (w : World) (h : w.cell? ⟨b, 7, none⟩ = some (.bool d)) : Calls Tryz.prog 91 #[.pointer (some ⟨b, 0, none⟩)] w (Quiet (.int .i64 (if d = true then 10 else 0)) w) := by
  cases d
  all_goals
    go_enter Tryz.func91, Tryz.ntmps91
    go_wp2
    go_ret
    exact ⟨rfl, 0, rfl⟩
theorem gone_nil (w : World) : Calls Tryz.prog 90 #[.pointer none] w (Quiet (.bool true) w) := by
  go_enter Tryz.func90, Tryz.ntmps90
  go_wp2
  go_ret
  exact ⟨rfl, 0, rfl⟩
theorem gone_any (b : Nat) (d : Bool) (w : World) (h : w.cell? ⟨b, 7, none⟩ = some (.bool d)) : Calls Tryz.prog 90 #[.pointer (some ⟨b, 0, none⟩)] w (Quiet (.bool d) w) := by
  go_enter Tryz.func90, Tryz.ntmps90
  go_wp2
  go_ret
  exact ⟨rfl, 0, rfl⟩
theorem writes_nil (w : World) : Calls Tryz.prog 24 #[.pointer none] w (Quiet (.int .i64 0) w) := by
  go_enter Tryz.func24, Tryz.ntmps24
  go_wp2
  go_ret
  exact ⟨rfl, 0, rfl⟩
theorem writes_any (b : Nat) (n : Int) (w : World) (h : w.cell? ⟨b, 6, none⟩ = some (.int .i64 n)) : Calls Tryz.prog 24 #[.pointer (some ⟨b, 0, none⟩)] w (Quiet (.int .i64 n) w) := by
  go_enter Tryz.func24, Tryz.ntmps24
  go_wp2
  go_ret
  exact ⟨rfl, 0, rfl⟩
theorem size_nil (w : World) : Calls Tryz.prog 53 #[.pointer none] w (Quiet (.tuple #[.int .i64 0, .int .i64 0]) w) := by
  go_enter Tryz.func53, Tryz.ntmps53
  go_wp2
  go_ret2
  exact ⟨rfl, 0, rfl⟩
theorem size_any (b : Nat) (l n c : Nat) (a : Option Addr) (w : World) (h1 : w.cell? ⟨b, 4, none⟩ = some (.int .i64 (l : Int))) (h2 : w.cell? ⟨b, 5, none⟩ = some (.slice a n c)) :
    Calls Tryz.prog 53 #[.pointer (some ⟨b, 0, none⟩)] w (Quiet (.tuple #[.int .i64 (n : Int), .int .i64 (l : Int)]) w) := by
  go_enter Tryz.func53, Tryz.ntmps53
  go_wp2
  go_quiet (fail)
  go_wp2
  go_ret2
  exact ⟨rfl, nq, rfl⟩
theorem read_nil (a : Int) (w : World) : Calls Tryz.prog 67 #[.pointer none, .int .i64 a] w (Quiet (.tuple #[.int .u32 0, .int .i64 1]) w) := by
  go_enter Tryz.func67, Tryz.ntmps67
  go_wp2_with (go_at_call 91; (with_reducible refine (ready_nil _).mono ?_); rintro e w' ⟨rfl, m, rfl⟩)
  go_ret2
  exact ⟨rfl, _, rfl⟩
theorem read_any {S : Nat → Prop} {b : Nat} {F : Fl} {ca cb cm : Value} {bw cw bv cv : Nat} {w : World} (h : At S b F ca cb cm bw cw bv cv w) (ok : F.Ok) (a : Int) :
    Calls Tryz.prog 67 #[.pointer (some ⟨b, 0, none⟩), .int .i64 a] w (Quiet (.tuple #[.int .u32 ((F.read a).1 : Nat), .int .i64 (F.read a).2]) w) := by
  obtain ⟨_, _, _, c3, _, _, _, c7⟩ := h.cell
  have hn := ok.ws_le
  have hr := ready_any b F.dark w c7
  have hrow := h.ws
  clear h ok c7
  cases hd : F.dark with
  | true =>
    rw [hd] at hr
    simp only [if_true] at hr
    have e : F.read a = (0, 10) := by rw [Fl.read, if_pos hd]
    rw [e]
    clear hd e hrow c3
    go_enter Tryz.func67, Tryz.ntmps67
    go_wp2_with (go_at_call 91; (with_reducible refine hr.mono ?_); rintro e w' ⟨rfl, m, rfl⟩)
    go_ret2
    exact ⟨rfl, _, rfl⟩
  | false =>
    rw [hd] at hr
    simp only [Bool.false_eq_true, if_false] at hr
    by_cases h0 : a < 0
    · have e : F.read a = (0, 3) := by rw [Fl.read, if_neg (by simp [hd]), if_pos (.inl h0)]
      rw [e]
      clear hd e hrow
      go_enter Tryz.func67, Tryz.ntmps67
      go_wp2_with (go_at_call 91; (with_reducible refine hr.mono ?_); rintro e w' ⟨rfl, m, rfl⟩)
      go_ret2
      exact ⟨rfl, _, rfl⟩
    · by_cases h1 : (F.ws.length : Int) ≤ a
      · have e : F.read a = (0, 3) := by rw [Fl.read, if_neg (by simp [hd]), if_pos (.inr h1)]
        rw [e]
        clear hd e hrow
        generalize F.ws.length = n at *
        go_enter Tryz.func67, Tryz.ntmps67
        go_wp2_with (go_at_call 91; (with_reducible refine hr.mono ?_); rintro e w' ⟨rfl, m, rfl⟩)
        go_ret2
        exact ⟨rfl, _, rfl⟩
      · obtain ⟨k, rfl⟩ := Int.eq_ofNat_of_zero_le (show 0 ≤ a by omega)
        have hk : k < F.ws.length := by omega
        have hc := hrow.get hk
        have e : F.read k = (F.ws.getD k 0, 0) := by rw [Fl.read, if_neg (by simp [hd]), if_neg (by omega), Int.toNat_natCast]
        rw [e]
        have H3 : (k : Int) < F.ws.length := by omega
        clear hd e hrow h1
        generalize F.ws.getD k 0 = x at *
        generalize F.ws.length = n at *
        go_enter Tryz.func67, Tryz.ntmps67
        go_wp2_with (go_at_call 91; (with_reducible refine hr.mono ?_); rintro e w' ⟨rfl, m, rfl⟩)
        go_ret2
        exact ⟨rfl, _, rfl⟩
theorem mask_any {S no : Nat → Prop} {b L : Nat} {M : List Nat} {cm : Value} {w : World} (hm : MasksAt S no L M cm w) (hc : w.cell? ⟨b, 2, none⟩ = some cm) (i : Nat) (hi : i < L) (hL : L ≤ 1024) (hx : ∀ x ∈ M, x < 4294967296) :
    Calls Tryz.prog 102 #[.pointer (some ⟨b, 0, none⟩), .int .i64 (i : Int)] w (Quiet (.int .u32 (maskAt M i : Nat)) w) := by
  obtain ⟨a, c, rfl, _, hr, _⟩ := hm
  rw [← maskAt_take M L i hi]
  have hl : (M.take L).length = min M.length L := hr.1
  by_cases h0 : min M.length L = 0
  · rw [maskAt, if_pos (by omega)]
    rw [h0] at hc
    clear hr hl hx
    go_enter Tryz.func102, Tryz.ntmps102
    go_wp2
    go_ret
    exact ⟨rfl, 0, rfl⟩
  · rw [maskAt, if_neg (by omega), hl]
    generalize hn : min M.length L = n at *
    have hlt : i % n < n := Nat.mod_lt _ (by omega)
    obtain ⟨b2, off, rfl, _, hcell⟩ := hr.at hlt
    have c2 := hcell (i % n) hlt
    have hn2 : n ≤ 1024 := by omega
    have hpos : 0 < n := by omega
    clear hr hcell hl hx
    generalize (M.take L).getD (i % n) 0 = x at *
    generalize hq : i % n = q at *
    have hq2 : (i : Int) % (n : Int) = (q : Int) := by omega
    have HQ := hid hq
    clear hn hq h0
    go_enter Tryz.func102, Tryz.ntmps102
    go_wp2
    go_quiet (fail)
    go_wp2
    go_ret
    exact ⟨rfl, nq, rfl⟩
end Go.Proofs.YtphifanacehppaaGreat.flash
/- Contracts of the fuse's tears, of fail, Power and Program of layer 7 (flash). No condition. -/
namespace Go.Proofs.YtphifanacehppaaGreat.flash
open Go.RowKit Go.Proofs.YtphifanacehppaaGreat.word
set_option linter.unusedVariables false

/-- a function without results ends -/
theorem ret0 {P : Program} {fn : Func} {R : Ending → World → Prop} {a : Act} {w : World} (h : fn.results = #[]) (hd : a.defers = []) (hR : R (.returned (.tuple #[])) w) : bodyPost P fn R .normal a w :=
  ⟨hd, .tuple #[], by simp [results, h], hR⟩
theorem tears_yes {S : Nat → Prop} {b : Nat} {F : Fl} {ca cb cm : Value} {bw cw bv cv : Nat} {w : World} (h : At S b F ca cb cm bw cw bv cv w) (M : List Nat) (ht : F.fuse = some (0, M)) :
    Calls Tryz.prog 100 #[.pointer (some ⟨b, 0, none⟩)] w (Quiet (.bool true) w) := by
  obtain ⟨c0, c1, _⟩ := h.cell
  have hf := h.fuse
  rw [ht] at hf
  obtain ⟨rfl, rfl, _⟩ := hf
  clear h ht
  go_enter Tryz.func100, Tryz.ntmps100
  go_wp2
  go_ret
  exact ⟨rfl, 0, rfl⟩
/-- the call answers v; the flash becomes F; what turns is the flash's own -/
def Turned (S : Nat → Prop) (b : Nat) (F : Fl) (bw cw bv cv : Nat) (v : Value) (w : World) (e : Ending) (w' : World) : Prop :=
  e = .returned v ∧ ∃ ca cb cm, At S b F ca cb cm bw cw bv cv w' ∧ Only (at3 b bw bv) w w'
theorem tears_no {S : Nat → Prop} {b : Nat} {F : Fl} {ca cb cm : Value} {bw cw bv cv : Nat} {w : World} (h : At S b F ca cb cm bw cw bv cv w) (ok : F.Ok) (ht : tears F.fuse = none) :
    Calls Tryz.prog 100 #[.pointer (some ⟨b, 0, none⟩)] w (Turned S b { F with fuse := burnt F.fuse } bw cw bv cv (.bool false) w) := by
  obtain ⟨c0, c1, _⟩ := h.cell
  have f1 := h.blk.frozen 1
  have hf := h.fuse
  match hF : F.fuse with
  | none =>
    rw [hF] at hf
    obtain ⟨rfl, rfl, rfl⟩ := hf
    have HH : Hid (At S b { F with fuse := burnt none } (.bool false) (.int .i64 0) (.slice none 0 0) bw cw bv cv w) := by
      have e : { F with fuse := burnt none } = F := by rw [show burnt none = F.fuse from hF.symm]
      rw [e]; exact h
    clear h ht
    go_enter Tryz.func100, Tryz.ntmps100
    go_wp2
    go_ret
    exact ⟨rfl, _, _, _, HH.out, Only.refl _ _⟩
  | some (0, M) => rw [hF] at ht; cases ht
  | some (n + 1, M) =>
    rw [hF] at hf
    obtain ⟨rfl, rfl, _⟩ := hf
    have hn := (ok.m _ _ hF).1
    have HB := hid (h.burnt hF)
    have HO : Hid (Only (at3 b bw bv) w (w.setCell ⟨b, 1, none⟩ (.int .i64 ((n + 1 - 1 : Nat) : Int)))) := (h.put 1 _).mono fun x hx _ => .inl hx
    have e1 : ((n + 1 : Nat) : Int) - 1 = (n : Int) := by omega
    clear h ht ok
    simp only [Nat.add_sub_cancel] at HB HO
    go_enter Tryz.func100, Tryz.ntmps100
    go_wp2
    go_ret
    exact ⟨rfl, .bool true, .int .i64 (n : Int), cm, HB.out, HO.out⟩
theorem fail_any {S : Nat → Prop} {b : Nat} {F : Fl} {ca cb cm : Value} {bw cw bv cv : Nat} {w : World} (h : At S b F ca cb cm bw cw bv cv w) :
    Calls Tryz.prog 103 #[.pointer (some ⟨b, 0, none⟩)] w (Turned S b { F with dark := true, fuse := none } bw cw bv cv (.int .i64 10) w) := by
  have h1 := h.darkened true
  have h2 := h1.unfused (w' := _) rfl
  have HA := hid h2.1
  have HO := hid (((h.put 7 (.bool true)).trans h2.2).mono (T := at3 b bw bv) fun x hx _ => .inl hx)
  obtain ⟨c0, c1, c2, _, _, _, _, c7⟩ := h.cell
  have f7 := h.blk.frozen 7
  have f0 := h1.blk.frozen 0
  have f1 := h1.blk.frozen 1
  have f2 := h1.blk.frozen 2
  obtain ⟨d0, d1, d2, _⟩ := h1.cell
  clear h h1 h2
  go_enter Tryz.func103, Tryz.ntmps103
  go_wp2
  go_ret
  exact ⟨rfl, _, _, _, HA.out, HO.out⟩
theorem power_nil (w : World) : Calls Tryz.prog 15 #[.pointer none] w (Quiet (.tuple #[]) w) := by
  go_enter Tryz.func15, Tryz.ntmps15
  go_wp2
  exact ret0 rfl rfl ⟨rfl, 0, rfl⟩
theorem power_any {S : Nat → Prop} {b : Nat} {F : Fl} {ca cb cm : Value} {bw cw bv cv : Nat} {w : World} (h : At S b F ca cb cm bw cw bv cv w) :
    Calls Tryz.prog 15 #[.pointer (some ⟨b, 0, none⟩)] w (Turned S b F.power bw cw bv cv (.tuple #[]) w) := by
  have h1 := h.darkened false
  have h2 := h1.unfused (w' := _) rfl
  have HA := hid h2.1
  have HO := hid (((h.put 7 (.bool false)).trans h2.2).mono (T := at3 b bw bv) fun x hx _ => .inl hx)
  obtain ⟨c0, c1, c2, _, _, _, _, c7⟩ := h.cell
  have f7 := h.blk.frozen 7
  have f0 := h1.blk.frozen 0
  have f1 := h1.blk.frozen 1
  have f2 := h1.blk.frozen 2
  obtain ⟨d0, d1, d2, _⟩ := h1.cell
  clear h h1 h2
  go_enter Tryz.func15, Tryz.ntmps15
  go_wp2
  exact ret0 rfl rfl ⟨rfl, _, _, _, HA.out, HO.out⟩
end Go.Proofs.YtphifanacehppaaGreat.flash
/- Contract of a part's read: the frames at the beginning of words, as far as each may be the next one. No condition. -/
namespace Go.Proofs.YtphifanacehppaaGreat.journal
open Go.RowKit Go.Proofs.YtphifanacehppaaGreat.flash
set_option linter.unusedVariables false

/-- a function without results returns -/
theorem ret1 {P : Program} {fn : Func} {R : Ending → World → Prop} {a : Act} {w : World} (h : fn.results = #[]) (hd : a.defers = []) (hR : R (.returned (.tuple #[])) w) : bodyPost P fn R .ret a w :=
  ⟨hd, .tuple #[], by simp [results, h], hR⟩
def lenOf : Value → Nat
  | .slice _ n _ => n
  | _ => 0
/-- where a part of a slice from k on lies -/
def shift (a : Option Addr) (k cap : Nat) : Option Addr := if cap = k then a else a.map (·.add k)
theorem cut_from (W : World) (a : Option Addr) (len cap k : Nat) (h : k ≤ len) : (Instr.slice 24 (.slice a len cap) (some (.int .i64 (k : Int))) none none).run Tryz.prog W = .ok (.slice (shift a k cap) (len - k) (cap - k)) W := by
  rw [run_slice_l W 24 a len cap (by kernel_rfl) .i64 k (by omega) (by omega)]
  rw [show (sizeOf (Tryz.prog.elem 24)).run Tryz.prog W = .ok 1 W by kernel_rfl]
  simp [Result.andThen, sliced, shift]
theorem shift_block {a : Option Addr} {k cap : Nat} {P : Nat → Prop} (h : ∀ x, a = some x → P x.block) : ∀ x, shift a k cap = some x → P x.block := by
  intro x hx
  unfold shift at hx
  split at hx
  · exact h x hx
  · cases a with
    | none => cases hx
    | some y =>
      cases hx
      have := h y rfl
      unfold Addr.add
      split <;> exact this
theorem reads_shift {w : World} {a : Option Addr} {len cap k : Nat} {xs : List Nat} (h : Reads .u32 w a len xs) (hk : k ≤ len) (hc : len ≤ cap) : Reads .u32 w (shift a k cap) (len - k) (xs.drop k) := by
  refine ⟨by rw [List.length_drop, h.1], ?_⟩
  by_cases h0 : len - k = 0
  · exact .inl h0
  · obtain ⟨b, off, rfl, hb, hcell⟩ := h.at (i := 0) (by omega)
    refine .inr ⟨b, off + k, ?_, hb, fun i hi => ?_⟩
    · rw [shift, if_neg (by omega), Option.map_some, Addr.add_lit]
    · have := hcell (k + i) (by omega)
      rw [Nat.add_assoc, this, List.getD_eq_getElem?_getD, List.getD_eq_getElem?_getD, List.getElem?_drop]
/-- what stands at the head of the loop: the words from v on are still to be read -/
structure ReadAt (X0 : Nat → Prop) (b o : Nat) (T : TypeId) (cs : List Value) (R : Part) (w : World) (X : Nat → Prop) (p : Part) (wv cv : Value) (a : Option Addr) (len cap : Nat) (W : List Nat) (wr : World) : Prop where
  blk : Block wr b T (part4 cs o (.int .i64 (p.seq : Int)) wv cv (.int .i64 (p.tail : Int)))
  wh : LoadAt X wr wv p.whole
  ch : LoadsAt X wr cv p.changes
  nb : ¬ X b
  so : p.Sound
  rd : Reads .u32 wr a len W
  lt : ∀ y ∈ W, y < 4294967296
  lc : len ≤ cap
  cm : cap ≤ maxLen
  fit : p.tail + len ≤ 8192
  sep : ∀ y, a = some y → y.block < w.heap.size ∧ y.block ≠ b ∧ ¬ X y.block
  mem : ∀ y, X y → y < wr.heap.size ∧ (X0 y ∨ w.heap.size ≤ y)
  only : Only (fun y => y = b ∨ X0 y) w wr
  res : scan len p W = R
def ReadInv (X0 : Nat → Prop) (b o : Nat) (T : TypeId) (cs : List Value) (R : Part) (w : World) (v : Value) (wr : World) : Prop :=
  ∃ X p wv cv a len cap W, v = .slice a len cap ∧ ReadAt X0 b o T cs R w X p wv cv a len cap W wr
/-- what read makes of the part -/
def ReadDone (X : Nat → Prop) (b o : Nat) (T : TypeId) (cs : List Value) (R : Part) (w : World) (w' : World) : Prop :=
  ∃ X' wv cv, Block w' b T (part4 cs o (.int .i64 (R.seq : Int)) wv cv (.int .i64 (R.tail : Int))) ∧ LoadAt X' w' wv R.whole ∧ LoadsAt X' w' cv R.changes ∧
    (∀ y, X' y → y < w'.heap.size ∧ (X y ∨ w.heap.size ≤ y)) ∧ ¬ X' b ∧ Only (fun y => y = b ∨ X y) w w'
section
variable {X0 X : Nat → Prop} {b o : Nat} {T : TypeId} {cs : List Value} {R p : Part} {w wr w' : World} {wv cv : Value} {a : Option Addr} {len cap : Nat} {W : List Nat}
theorem ReadAt.later (h : ReadAt X0 b o T cs R w X p wv cv a len cap W wr) (k : Below wr.heap.size wr w') : ReadAt X0 b o T cs R w X p wv cv a len cap W w' :=
  ⟨h.blk.later k, h.wh.stays (.below k), h.ch.stays (.below k), h.nb, h.so, h.rd.below k, h.lt, h.lc, h.cm, h.fit, h.sep, fun y hy => ⟨Nat.lt_of_lt_of_le (h.mem y hy).1 k.size, (h.mem y hy).2⟩, h.only.later k, h.res⟩
theorem ReadAt.done (h : ReadAt X0 b o T cs R w X p wv cv a len cap W wr) (hs : scan len p W = p) : ReadDone X0 b o T cs R w wr := by
  have e : p = R := hs.symm.trans h.res
  subst e
  exact ⟨X, wv, cv, h.blk, h.wh, h.ch, h.mem, h.nb, h.only⟩
theorem ReadAt.cells (h : ReadAt X0 b o T cs R w X p wv cv a len cap W wr) (ho : o + 3 < cs.length) : wr.cell? ⟨b, o, none⟩ = some (.int .i64 (p.seq : Int)) ∧ wr.cell? ⟨b, o + 1, none⟩ = some wv ∧ wr.cell? ⟨b, o + 2, none⟩ = some cv ∧ wr.cell? ⟨b, o + 3, none⟩ = some (.int .i64 (p.tail : Int)) := by
  simp only [h.blk.cell, part4_get _ ho]
  refine ⟨by simp, by simp, by simp, by simp⟩
end
theorem Only.grown {S : Nat → Prop} {a b c : World} {row : Option Nat} (h : Only S a b) (hg : b.grownBy c row) (hr : ∀ k, row = some k → S k ∨ a.heap.size ≤ k) : Only S a c := by
  refine h.next (T := fun x => some x = row) ⟨hg.os, hg.tape, hg.output, hg.size, fun k hk hn => hg.block k hk hn⟩ ?_
  intro x hx hlt
  rcases hr x hx.symm with k | k
  · exact k
  · omega
section
variable {X0 X : Nat → Prop} {b o : Nat} {T : TypeId} {cs : List Value} {R p : Part} {w wr w2 : World} {wv cv : Value} {a : Option Addr} {len cap : Nat} {W : List Nat} {k s g c' m : Nat} {L : List Nat}
/-- behind a Whole frame -/
theorem ReadAt.whole (h : ReadAt X0 b o T cs R w X p wv cv a len cap W wr) (ho : o + 3 < cs.length) (hb : Below wr.heap.size wr w2) (hg : wr.heap.size ≤ g) (hrow : Row w2 43 .u32 g c' L)
    (hok : frame.okB (k : Int) (s : Int) L.length = true) (hL : ∀ x ∈ L, x < 4294967296) (ht : p.takes k s = true) (hk : k = 1) (hm : L.length + 3 = m) (hml : m ≤ len) (hres : scan (len - m) (p.add k s L) (W.drop m) = R) :
    ReadAt X0 b o T cs R w (fun y => X y ∨ y = g) (p.add k s L) (.slice (some ⟨g, 0, none⟩) L.length c') (.slice none 0 0) (shift a m cap) (len - m) (cap - m) (W.drop m)
      ((((w2.setCell ⟨b, o, none⟩ (.int .i64 (s : Int))).setCell ⟨b, o + 3, none⟩ (.int .i64 ((p.tail : Int) + (m : Int)))).setCell ⟨b, o + 1, none⟩ (.slice (some ⟨g, 0, none⟩) L.length c')).setCell ⟨b, o + 2, none⟩ (.slice none 0 0)) := by
  have hlt := h.blk.lt
  have hgb : g ≠ b := by omega
  have h2 := h.later hb
  have hsep : ∀ y, shift a m cap = some y → y.block < w.heap.size ∧ y.block ≠ b ∧ ¬ X y.block := shift_block (P := fun z => z < w.heap.size ∧ z ≠ b ∧ ¬ X z) h.sep
  have hbw := h.only.size
  have hO : Only (fun y => y = b ∨ X0 y) w w2 := h2.only
  refine ⟨?_, ?_, ?_, fun hx => ?_, h.so.add hok hL ht, ?_, fun y hy => h.lt y (List.mem_of_mem_drop hy), by have := h.lc; omega, by have := h.cm; omega, ?_, fun y hy => ⟨(hsep y hy).1, (hsep y hy).2.1, fun hx => ?_⟩, fun y hy => ?_, ?_, hres⟩
  · have hB := ((((h2.blk.setCell o (.int .i64 (s : Int))).setCell (o + 3) (.int .i64 ((p.tail : Int) + (m : Int)))).setCell (o + 1) (.slice (some ⟨g, 0, none⟩) L.length c')).setCell (o + 2) (.slice none 0 0))
    rw [part4_set0 ho, part4_set3 ho, part4_set1 ho, part4_set2 ho] at hB
    rw [Part.add_seq, Part.add_tail, hm]
    exact hB
  · have e : (p.add k s L).whole = L := by unfold Part.add; rw [if_pos hk]
    rw [e]
    exact LoadAt.row (hrow.apart _ _ _ hgb |>.apart _ _ _ hgb |>.apart _ _ _ hgb |>.apart _ _ _ hgb) (.inr rfl)
  · have e : (p.add k s L).changes = [] := by unfold Part.add; rw [if_pos hk]
    rw [e]
    exact LoadsAt.nil
  · rcases hx with hx | hx
    · exact h.nb hx
    · omega
  · have hr := reads_only (S := fun y => y = b) (w' := ((((w2.setCell ⟨b, o, none⟩ (.int .i64 (s : Int))).setCell ⟨b, o + 3, none⟩ (.int .i64 ((p.tail : Int) + (m : Int)))).setCell ⟨b, o + 1, none⟩ (.slice (some ⟨g, 0, none⟩) L.length c')).setCell ⟨b, o + 2, none⟩ (.slice none 0 0)))
      (reads_shift h2.rd hml h2.lc) (((((Only.refl (fun y => y = b) w2).setCell (g := b) (.inl rfl) o _).setCell (g := b) (.inl rfl) (o + 3) _).setCell (g := b) (.inl rfl) (o + 1) _).setCell (g := b) (.inl rfl) (o + 2) _) (by
        cases hs : shift a m cap with
        | none => 
          have := (reads_shift h2.rd hml h2.lc).2
          rcases this with h0 | ⟨_, _, h0, _⟩
          · exact .inl h0
          · rw [hs] at h0; cases h0
        | some y => exact .inr ⟨y, rfl, (hsep y hs).2.1⟩)
    exact hr
  · rw [Part.add_tail, hm]; have := h.fit; omega
  · rcases hx with hx | hx
    · exact (hsep y hy).2.2 hx
    · have := (hsep y hy).1; omega
  · have hsz : ((((w2.setCell ⟨b, o, none⟩ (.int .i64 (s : Int))).setCell ⟨b, o + 3, none⟩ (.int .i64 ((p.tail : Int) + (m : Int)))).setCell ⟨b, o + 1, none⟩ (.slice (some ⟨g, 0, none⟩) L.length c')).setCell ⟨b, o + 2, none⟩ (.slice none 0 0)).heap.size = w2.heap.size := by simp
    rw [hsz]
    rcases hy with hy | rfl
    · exact ⟨Nat.lt_of_lt_of_le (h.mem y hy).1 hb.size, (h.mem y hy).2⟩
    · exact ⟨hrow.lt, .inr (by omega)⟩
  · exact (((hO.setCell (.inl (.inl rfl)) o _).setCell (.inl (.inl rfl)) (o + 3) _).setCell (.inl (.inl rfl)) (o + 1) _).setCell (.inl (.inl rfl)) (o + 2) _
/-- behind a Change frame -/
theorem ReadAt.change {w4 wa w5 : World} {vs : List Value} {v' : Value} (h : ReadAt X0 b o T cs R w X p wv cv a len cap W wr) (ho : o + 3 < cs.length) (hb : Below wr.heap.size wr w2) (hg : wr.heap.size ≤ g) (hrow : Row w2 43 .u32 g c' L)
    (hok : frame.okB (k : Int) (s : Int) L.length = true) (hL : ∀ x ∈ L, x < 4294967296) (ht : p.takes k s = true) (hk : k ≠ 1) (hm : L.length + 3 = m) (hml : m ≤ len) (hres : scan (len - m) (p.add k s L) (W.drop m) = R)
    (hw4 : (w2.setCell ⟨b, o, none⟩ (.int .i64 (s : Int))).setCell ⟨b, o + 3, none⟩ (.int .i64 ((p.tail : Int) + (m : Int))) = w4) (hwa : Below w4.heap.size w4 wa)
    (hv1 : w4.ownsRow 0 24 1 cv p.changes.length vs) (hv2 : ∀ b, cv.ownBlock = some b → X b) (hv3 : ∀ i, i < p.changes.length → ∃ u, vs[i]? = some u ∧ LoadAt X w4 u (p.changes.getD i []))
    (hov : w5.ownsRow 0 24 1 v' (p.changes.length + 1) (vs ++ [.slice (some ⟨g, 0, none⟩) L.length c'])) (hgr : wa.grownBy w5 cv.ownBlock) (hbv : v'.ownBlock = cv.ownBlock ∨ v'.ownBlock = some wa.heap.size) :
    ReadAt X0 b o T cs R w (fun y => ((X y ∨ y = g) ∨ y = wa.heap.size) ∧ y < w5.heap.size) (p.add k s L) wv v' (shift a m cap) (len - m) (cap - m) (W.drop m) (w5.setCell ⟨b, o + 2, none⟩ v') := by
  have hlt := h.blk.lt
  have hgb : g ≠ b := by omega
  have h2 := h.later hb
  have hsep : ∀ y, shift a m cap = some y → y.block < w.heap.size ∧ y.block ≠ b ∧ ¬ X y.block := shift_block (P := fun z => z < w.heap.size ∧ z ≠ b ∧ ¬ X z) h.sep
  have hbw := h.only.size
  have hbw2 := hb.size
  have hbw4 : w4.heap.size = w2.heap.size := by rw [← hw4]; simp
  have hbwa := hwa.size
  have hbw5 := hgr.size
  have hcb : cv.ownBlock ≠ some b := fun e => h.nb (hv2 b e)
  have hO4 : Only (fun y => y = b ∨ X y) wr w4 := by
    rw [← hw4]
    exact ((Only.of hb).setCell (g := b) (.inl (.inl rfl)) o _).setCell (g := b) (.inl (.inl rfl)) (o + 3) _
  have hO5 : Only (fun y => y = b ∨ X y) wr w5 := Only.grown (hO4.later hwa) hgr fun y hy => .inl (.inr (hv2 y hy))
  have hO6 : Only (fun y => y = b ∨ X y) wr (w5.setCell ⟨b, o + 2, none⟩ v') := hO5.setCell (g := b) (.inl (.inl rfl)) (o + 2) _
  have hB4 : Block w4 b T (part4 cs o (.int .i64 (s : Int)) wv cv (.int .i64 ((p.tail : Int) + (m : Int)))) := by
    have hB := (h2.blk.setCell o (.int .i64 (s : Int))).setCell (o + 3) (.int .i64 ((p.tail : Int) + (m : Int)))
    rw [part4_set0 ho, part4_set3 ho, hw4] at hB
    exact hB
  have hB5 : Block w5 b T (part4 cs o (.int .i64 (s : Int)) wv cv (.int .i64 ((p.tail : Int) + (m : Int)))) := (hgr.block b (by omega) (fun e => hcb e.symm)).trans (hB4.later hwa)
  have hrow4 : Row w4 43 .u32 g c' L := by rw [← hw4]; exact (hrow.apart _ _ _ hgb).apart _ _ _ hgb
  have hS4a : Stays (fun y => X y ∨ y = g) w4 wa := .below hwa
  have hw' : LoadAt X w4 wv p.whole := by
    rw [← hw4]
    exact h2.wh.stays (((Stays.refl X w2).setCell h.nb o _).setCell h.nb (o + 3) _)
  have hmemX : ∀ y, X y → y < w4.heap.size := fun y hy => by have := (h.mem y hy).1; omega
  have wide : ∀ {u : Value} {M : List Nat}, LoadAt X w4 u M → LoadAt (fun y => X y ∨ y = g) wa u M := fun hl => (hl.wide fun y hy _ => .inl hy).stays hS4a
  have sn := LoadsAt.snoc (X := fun y => X y ∨ y = g) (w := wa) (w' := w5) (Ls := p.changes) (L := L) (v := cv) (v' := v') (vs := vs) (u := .slice (some ⟨g, 0, none⟩) L.length c')
    (ownsRow_same hv1 fun y hy => hwa.block y (World.ownsRow.lt hv1 y hy).2) (fun y hy => .inl (hv2 y hy)) (fun i hi => by obtain ⟨u, hu, hl⟩ := hv3 i hi; exact ⟨u, hu, wide hl⟩)
    (LoadAt.row (hrow4.later hwa) (.inr rfl)) hov hgr hbv
  have hnb : ¬ ((fun y => ((X y ∨ y = g) ∨ y = wa.heap.size) ∧ y < w5.heap.size) b) := by
    rintro ⟨(hx | hx) | hx, _⟩
    · exact h.nb hx
    · omega
    · omega
  refine ⟨?_, ?_, ?_, hnb, h.so.add hok hL ht, ?_, fun y hy => h.lt y (List.mem_of_mem_drop hy), by have := h.lc; omega, by have := h.cm; omega, ?_, fun y hy => ⟨(hsep y hy).1, (hsep y hy).2.1, fun hx => ?_⟩, fun y hy => ?_, ?_, hres⟩
  · have hB := hB5.setCell (o + 2) v'
    rw [part4_set2 ho] at hB
    rw [Part.add_seq, Part.add_tail, hm]
    exact hB
  · have e : (p.add k s L).whole = p.whole := by unfold Part.add; rw [if_neg hk]
    rw [e]
    exact ((sn.2 (wide hw')).wide (fun y hy hl => ⟨hy, hl⟩)).stays ((Stays.refl _ _).setCell hnb (o + 2) v')
  · have e : (p.add k s L).changes = p.changes ++ [L] := by unfold Part.add; rw [if_neg hk]
    rw [e]
    exact (sn.1.wide (fun y hy hl => ⟨hy, hl⟩)).stays ((Stays.refl _ _).setCell hnb (o + 2) v')
  · exact reads_only (S := fun y => y = b ∨ X y) (reads_shift h.rd hml h.lc) hO6 (by
      cases hs : shift a m cap with
      | none =>
        rcases (reads_shift h.rd hml h.lc).2 with h0 | ⟨_, _, h0, _⟩
        · exact .inl h0
        · rw [hs] at h0; cases h0
      | some y =>
        refine .inr ⟨y, rfl, fun hx => ?_⟩
        rcases hx with hx | hx
        · exact (hsep y hs).2.1 hx
        · exact (hsep y hs).2.2 hx)
  · rw [Part.add_tail, hm]; have := h.fit; omega
  · rcases hx with ⟨(hx | hx) | hx, _⟩
    · exact (hsep y hy).2.2 hx
    · have := (hsep y hy).1; omega
    · have := (hsep y hy).1; omega
  · have hsz : (w5.setCell ⟨b, o + 2, none⟩ v').heap.size = w5.heap.size := by simp
    rw [hsz]
    refine ⟨hy.2, ?_⟩
    rcases hy.1 with (hy | hy) | hy
    · exact (h.mem y hy).2
    · exact .inr (by omega)
    · exact .inr (by omega)
  · refine h.only.next hO6 fun y hy hl => ?_
    rcases hy with hy | hy
    · exact .inl hy
    · rcases (h.mem y hy).2 with hy | hy
      · exact .inr hy
      · omega
end
theorem slice_info : (Tryz.prog.info? 24).map (fun i => (i.zero, i.size, i.bytes)) = some (some (.slice none 0 0), 1, 24) := by kernel_rfl
set_option maxRecDepth 20000 in
set_option maxHeartbeats 3200000 in
theorem read_part {X : Nat → Prop} {b o : Nat} {T : TypeId} {cs : List Value} {wv cv : Value} (p : Part) (x : Option Addr) (n c : Nat) (W : List Nat) (w : World)
    (hB : Block w b T cs) (ho : o + 3 < cs.length) (h0 : cs[o]? = some (.int .i64 (p.seq : Int))) (h1 : cs[o + 1]? = some wv) (h2 : cs[o + 2]? = some cv) (h3 : cs[o + 3]? = some (.int .i64 (p.tail : Int)))
    (hw : LoadAt X w wv p.whole) (hc : LoadsAt X w cv p.changes) (hnb : ¬ X b) (hX : ∀ y, X y → y < w.heap.size) (hs : p.Sound) (hr : Reads .u32 w x n W) (hW : ∀ y ∈ W, y < 4294967296) (hnc : n ≤ c) (hcm : c ≤ maxLen) (hn : p.tail + n ≤ 8192)
    (hsep : ∀ y, x = some y → y.block < w.heap.size ∧ y.block ≠ b ∧ ¬ X y.block) :
    Calls Tryz.prog 45 #[.pointer (some ⟨b, o, none⟩), .slice x n c] w fun e w' => e = .returned (.tuple #[]) ∧ ReadDone X b o T cs (scan n p W) w w' := by
  obtain ⟨R, hR⟩ : ∃ R, Hid (scan n p W = R) := ⟨_, rfl⟩
  have hI : ReadInv X b o T cs R w (.slice x n c) w := ⟨X, p, wv, cv, x, n, c, W, rfl, ⟨by rw [← part4_self ho h0 h1 h2 h3]; exact hB, hw, hc, hnb, hs, hr, hW, hnc, hcm, hn, hsep, fun y hy => ⟨hX y hy, .inl hy⟩, Only.refl _ _, hR.out⟩⟩
  rw [hR.out]
  have HI := hid hI
  have HO := hid ho
  clear hI hB ho h0 h1 h2 h3 hw hc hnb hX hs hr hW hnc hcm hn hsep hR p W
  go_enter Tryz.func45, Tryz.ntmps45
  go_wp2
  go_loopw [1] (fun v wr => ReadInv X b o T cs R w v wr) (fun v _ => lenOf v)
  case atStart => exact HI.out
  case round =>
    obtain ⟨X2, p, wv, cv, a, len, cap, W, rfl, h⟩ := hrel
    obtain ⟨ca, cc, rfl, hcc⟩ := h.ch.slice
    have HK : Hid (∀ w', Below wr.heap.size wr w' → (w'.cell? ⟨b, o, none⟩ = some (.int .i64 (p.seq : Int)) ∧ w'.cell? ⟨b, o + 1, none⟩ = some wv ∧ w'.cell? ⟨b, o + 2, none⟩ = some (.slice ca p.changes.length cc) ∧ w'.cell? ⟨b, o + 3, none⟩ = some (.int .i64 (p.tail : Int))) ∧
      (w'.frozen? ⟨b, o, none⟩ = false ∧ w'.frozen? ⟨b, o + 1, none⟩ = false ∧ w'.frozen? ⟨b, o + 2, none⟩ = false ∧ w'.frozen? ⟨b, o + 3, none⟩ = false) ∧ b < w'.heap.size) :=
      hid fun w' k => ⟨(h.later k).cells HO.out, ⟨(h.later k).blk.frozen _, (h.later k).blk.frozen _, (h.later k).blk.frozen _, (h.later k).blk.frozen _⟩, (h.later k).blk.lt⟩
    have cr := frame.read_any a len cap W wr h.rd h.lt h.lc h.cm
    have hq1 := h.so.seq
    have H := hid h
    clear h
    cases hread : frame.readN W with
    | none =>
      rw [hread] at cr
      have HS := hid (scan_none (n := len) (p := p) hread)
      clear hread
      go_wp2_with (first
        | (go_at_call 69; ((with_reducible refine cr.mono ?_); rintro e w1 ⟨rfl, hb1⟩)))
      refine ret1 rfl rfl ⟨rfl, (H.out.later (hb1.alloc hb1.size _)).done HS.out⟩
    | some f =>
      obtain ⟨k, s, L⟩ := f
      rw [hread] at cr
      unfold frame.ReadsAs at cr
      obtain ⟨r1, r2, r3⟩ := frame.readN_some hread
      have HL := hid (readN_load hread H.out.lt)
      have HOKF := hid r1
      have hlW : W.length = len := H.out.rd.1
      rw [hlW] at r3
      cases ht : p.takes k s with
      | false =>
        have HS := hid (scan_stop (n := len) (p := p) hread ht)
        have ct : ∀ w' (g c' : Nat), Below wr.heap.size wr w' → Calls Tryz.prog 70 #[.pointer (some ⟨b, o, none⟩), .agg #[.int .i64 (k : Int), .int .i64 (s : Int), .slice (some ⟨g, 0, none⟩) L.length c']] w' fun e w2 => e = .returned (.bool false) ∧ Below w'.heap.size w' w2 := fun w' g c' hb => by
          have := takes_any b o p.seq k s (some ⟨g, 0, none⟩) L.length c' w' (HK.out w' hb).1.1 (HK.out w' hb).2.2 hq1
          unfold Part.takes at ht
          rwa [ht] at this
        clear hread ht r1 r2 r3 hlW
        go_wp2_with (first
          | (go_at_call 69; ((with_reducible refine cr.mono ?_); rintro e w1 ⟨g, c', rfl, hg, hrow, hb1⟩))
          | (go_at_call 70; ((with_reducible refine (ct _ _ _ (hb1.alloc hb1.size _)).mono ?_); rintro e w2 ⟨rfl, hb2⟩)))
        refine ret1 rfl rfl ⟨rfl, (H.out.later ((hb1.alloc hb1.size _).trans (hb2.mono (by have := hb1.size; simp; omega)))).done HS.out⟩
      | true =>
        have ct : ∀ w' (g c' : Nat), Below wr.heap.size wr w' → Calls Tryz.prog 70 #[.pointer (some ⟨b, o, none⟩), .agg #[.int .i64 (k : Int), .int .i64 (s : Int), .slice (some ⟨g, 0, none⟩) L.length c']] w' fun e w2 => e = .returned (.bool true) ∧ Below w'.heap.size w' w2 := fun w' g c' hb => by
          have := takes_any b o p.seq k s (some ⟨g, 0, none⟩) L.length c' w' (HK.out w' hb).1.1 (HK.out w' hb).2.2 hq1
          unfold Part.takes at ht
          rwa [ht] at this
        have hst := scan_some (n := len - 1) (p := p) hread ht
        obtain ⟨m, hm⟩ : ∃ m, Hid (L.length + 3 = m) := ⟨_, rfl⟩
        have HT := hid ht
        simp only [hm.out] at cr
        have hml : m ≤ len := by have := hm.out; omega
        have hm3 : 3 ≤ m := by have := hm.out; omega
        have HRES : Hid (scan (len - m) (p.add k s L) (W.drop m) = R) := hid (by
          have h1 := H.out.res
          rw [show len = len - 1 + 1 by omega, hst, hm.out] at h1
          rw [← h1]
          exact scan_fuel _ _ _ _ (by rw [List.length_drop]; omega) (by rw [List.length_drop]; omega))
        have i1 : (p.tail : Int) + (m : Int) ≤ 8192 := by have := H.out.fit; omega
        have i2 : (m : Int) ≤ len := by omega
        have HML := hid hml
        have HM3 := hid hm3
        have hcut := fun W' => cut_from W' a len cap m hml
        clear hread ht r1 r2 r3 hlW hst hml hm3
        by_cases hk1 : k = 1
        · have HK1 := hid hk1
          have hkb : ((k : Int) == 1) = true := by simp; omega
          clear hk1
          go_wp2_with (first
            | (go_at_call 69; ((with_reducible refine cr.mono ?_); rintro e w1 ⟨g, c', rfl, hg, hrow, hb1⟩))
            | (go_at_call 70; ((with_reducible refine (ct _ _ _ (hb1.alloc hb1.size _)).mono ?_); rintro e w2 ⟨rfl, hb2⟩; have HB2 := hid ((hb1.alloc hb1.size _).trans (hb2.mono (by have := hb1.size; simp; omega))); have hk2 := HK.out w2 HB2.out; have hfb := (Block.new w1 127 [.int .i64 (k : Int), .int .i64 (s : Int), .slice (some ⟨g, 0, none⟩) L.length c']).later hb2; have d0 := hfb.cell 0; have d1 := hfb.cell 1; have d2 := hfb.cell 2; have hne : w1.heap.size ≠ b := (by have := (HK.out wr (Below.refl _ _)).2.2; have := hb1.size; omega); have hne2 : b ≠ w1.heap.size := hne.symm; have HROW := hid hrow; have HG := hid hg; have HB1 := hid hb1; have HB12 := hid hb2; clear hfb hrow hg hb2)))
          have hrow2 : Row w2 43 .u32 g c' L := (HROW.out.later ((Below.refl _ _).alloc (Nat.le_refl _) _)).later HB12.out
          refine ⟨⟨_, _, _, _, _, _, _, _, rfl, H.out.whole HO.out HB2.out HG.out hrow2 HOKF.out HL.out HT.out HK1.out hm.out HML.out HRES.out⟩, ?_⟩
          have := HML.out
          have := HM3.out
          simp only [lenOf]; omega
        · have HK1 := hid hk1
          have hkb : ((k : Int) == 1) = false := by simp; omega
          clear hk1
          go_wp2_with (first
            | (go_at_call 69; ((with_reducible refine cr.mono ?_); rintro e w1 ⟨g, c', rfl, hg, hrow, hb1⟩))
            | (go_at_call 70; ((with_reducible refine (ct _ _ _ (hb1.alloc hb1.size _)).mono ?_); rintro e w2 ⟨rfl, hb2⟩; have HB2 := hid ((hb1.alloc hb1.size _).trans (hb2.mono (by have := hb1.size; simp; omega))); have hk2 := HK.out w2 HB2.out; have hfb := (Block.new w1 127 [.int .i64 (k : Int), .int .i64 (s : Int), .slice (some ⟨g, 0, none⟩) L.length c']).later hb2; have d0 := hfb.cell 0; have d1 := hfb.cell 1; have d2 := hfb.cell 2; have hne : w1.heap.size ≠ b := (by have := (HK.out wr (Below.refl _ _)).2.2; have := hb1.size; omega); have hne2 : b ≠ w1.heap.size := hne.symm; have HROW := hid hrow; have HG := hid hg; have HB1 := hid hb1; have HB12 := hid hb2; have HFB := hid hfb; clear hfb hrow hg hb2)))
          obtain ⟨w4, hw4⟩ : ∃ x, Hid ((w2.setCell ⟨b, o, none⟩ (.int .i64 (s : Int))).setCell ⟨b, o + 3, none⟩ (.int .i64 ((p.tail : Int) + (m : Int))) = x) := ⟨_, rfl⟩
          have hL4 : LoadsAt X2 w4 (.slice ca p.changes.length cc) p.changes := by
            rw [← hw4.out]
            exact (H.out.later HB2.out).ch.stays (((Stays.refl X2 w2).setCell H.out.nb o _).setCell H.out.nb (o + 3) _)
          obtain ⟨vs, hv1, hv2, hv3⟩ := hL4
          have HV1 := hid hv1
          have HV2 := hid hv2
          have HV3 := hid hv3
          have hB4 := ((H.out.later HB2.out).blk.setCell o (.int .i64 (s : Int))).setCell (o + 3) (.int .i64 ((p.tail : Int) + (m : Int)))
          rw [part4_set0 HO.out, part4_set3 HO.out, hw4.out] at hB4
          have hF4 := (HFB.out.apart b o (.int .i64 (s : Int)) hne).apart b (o + 3) (.int .i64 ((p.tail : Int) + (m : Int))) hne
          rw [hw4.out] at hF4
          have q2 : w4.cell? ⟨b, o + 2, none⟩ = some (.slice ca p.changes.length cc) := by rw [hB4.cell, part4_get _ HO.out]; simp
          have q3 : w4.frozen? ⟨b, o + 2, none⟩ = false := hB4.frozen _
          have q4 : w4.cell? ⟨w1.heap.size, 2, none⟩ = some (.slice (some ⟨g, 0, none⟩) L.length c') := hF4.cell 2
          have HB4 := hid hB4
          have HF4 := hid hF4
          have hcn : (Value.slice ca p.changes.length cc).ownBlock ≠ some b := fun e => H.out.nb (hv2 b e)
          have hcw : (Value.slice ca p.changes.length cc).ownBlock ≠ some w1.heap.size := fun e => by
            have h1 := (H.out.mem _ (hv2 _ e)).1
            have h2 := HB1.out.size
            omega
          have HCN := hid hcn
          have HCW := hid hcw
          have hpl : p.changes.length ≤ 8192 := by
            have h1 := H.out.so.count
            have h2 := H.out.fit
            omega
          have hn1 : p.changes.length + 1 ≤ maxLen := by unfold maxLen; omega
          have hn2 : (p.changes.length + 1) * 24 ≤ 140737488355328 := by omega
          have HL4 := hid (show b < w4.heap.size ∧ w1.heap.size < w4.heap.size from ⟨hB4.lt, hF4.lt⟩)
          obtain ⟨j0, hj, hy0, hy1, hy2⟩ := info_parts slice_info
          rw [hw4.out]
          clear hB4 hF4 hk2 d0 d1 d2 hv1 hv2 hv3 hcn hcw hpl ct cr
          generalize hnl : p.changes.length = N at *
          have HNL := hid hnl
          clear hnl
          have q5 : (w4.alloc (.cells #[.slice (some ⟨g, 0, none⟩) L.length c'] 24)).cell? ⟨b, o + 2, none⟩ = some (.slice ca N cc) := (((Below.refl w4.heap.size w4).alloc (Nat.le_refl _) (.cells #[.slice (some ⟨g, 0, none⟩) L.length c'] 24)).cell (p := ⟨b, o + 2, none⟩) HL4.out.1).trans q2
          have q6 : (w4.alloc (.cells #[.slice (some ⟨g, 0, none⟩) L.length c'] 24)).cell? ⟨w1.heap.size, 2, none⟩ = some (.slice (some ⟨g, 0, none⟩) L.length c') := (((Below.refl w4.heap.size w4).alloc (Nat.le_refl _) (.cells #[.slice (some ⟨g, 0, none⟩) L.length c'] 24)).cell (p := ⟨w1.heap.size, 2, none⟩) HL4.out.2).trans q4
          go_region_law
            ((refine step_append_lies _ (by rfl) _ _ _ (by rfl) 0 24 j0 _ 1 24 Tryz.underlying46 hj hy0 hy1 hy2 rfl (by omega) (.slice ca N cc) N vs (by rfl) ((HV1.out.alloc _).drew)
                ⟨w4.heap.size, 0, none⟩ 1 1 [.slice (some ⟨g, 0, none⟩) L.length c'] (by rfl) (by rfl) (World.news_of_block (cs := #[.slice (some ⟨g, 0, none⟩) L.length c']) (t := 24) (fr := (0, 0)) (heap_alloc_new w4 _)) (by simp [Value.oneCell'])
                (by omega) hn1 hn2 (by simp) (w4.heap.size + 1) (by simp) ?_; intro g5 cap5 w5 hown5 hgrow hat hlt; have hB5 : Block w5 b T (part4 cs o (.int .i64 (s : Int)) wv (.slice ca N cc) (.int .i64 ((p.tail : Int) + (m : Int)))) := (hgrow.block b (by have := HL4.out.1; simp; omega) (fun e => HCN.out e.symm)).trans (HB4.out.alloc _); have c5 : w5.cell? ⟨b, o + 2, none⟩ = some (.slice ca N cc) := (by rw [hB5.cell, part4_get _ HO.out]; simp); have f5 : w5.frozen? ⟨b, o + 2, none⟩ = false := hB5.frozen _; have hF5 : Block w5 w1.heap.size 127 [.int .i64 (k : Int), .int .i64 (s : Int), .slice (some ⟨g, 0, none⟩) L.length c'] := (hgrow.block w1.heap.size (by have := HL4.out.2; simp; omega) (fun e => HCW.out e.symm)).trans (HF4.out.alloc _); have d5 : w5.cell? ⟨w1.heap.size, 2, none⟩ = some (.slice (some ⟨g, 0, none⟩) L.length c') := hF5.cell 2; have HG5 := hid hgrow; have HO5 := hid hown5; have HA5 := hid hat; clear hB5 hF5))
          all_goals
            clear q2 q3 q4 q5 q6 c5 d5 f5 hn1 hn2
            go_wp2
            have hrow2 : Row w2 43 .u32 g c' L := (HROW.out.later ((Below.refl _ _).alloc (Nat.le_refl _) _)).later HB12.out
            have hwa : Below w4.heap.size w4 ((w4.alloc (.cells #[.slice (some ⟨g, 0, none⟩) L.length c'] 24)).drew) := below_drewN ((Below.refl _ _).alloc (Nat.le_refl _) _) 1
            refine ⟨⟨_, _, _, _, _, _, _, _, rfl, H.out.change HO.out HB2.out HG.out hrow2 HOKF.out HL.out HT.out HK1.out hm.out HML.out HRES.out hw4.out hwa (by rw [HNL.out]; exact HV1.out) HV2.out (by rw [HNL.out]; exact HV3.out) (by rw [HNL.out]; exact HO5.out) HG5.out ?_⟩, ?_⟩
            · rcases HA5.out with h1 | h1
              · exact .inl h1.symm
              · right; rw [h1]; simp [Value.ownBlock]
            · have := HML.out
              have := HM3.out
              simp only [lenOf]; omega
end Go.Proofs.YtphifanacehppaaGreat.journal
