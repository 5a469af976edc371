/- Contracts and lemmas that the claims of this seat share: CloneOwn, IntRows, StepOpen, ValueEq, StepMath, TypingMath, FieldSpan, FieldSpanFrom. Each says its own conditions. -/
import Derived.Test.YtiajpjkkopdmgaaCmE
import Derived.Test.YtiajpjkkopdmgaaCmA
import Derived.Deep.Slices
import Derived.Deep.Strs
import Derived.Lib.SmallJoins
import Derived.Test.YtiajpjkkopdmgaaCmD
import Derived.Laws.Strings

namespace Go.Proofs.Ytiajpjkkopdmgaa.schema
open Go.RowKit
set_option linter.unusedVariables false

theorem fmV_one : ∀ L, ∀ u ∈ fmV L, u.oneCell' = true
  | [], u, h => by simp [fmV] at h
  | p :: L, u, h => by
    rw [fmV, List.mem_append] at h
    rcases h with h | h
    · simp [fmC] at h; rcases h with rfl | rfl <;> rfl
    · exact fmV_one L u h
theorem fmV_get : ∀ (L : List Fm) (j : Nat) (u : Value), (fmV L)[j]? = some u → ∃ i p c, L[i]? = some p ∧ j = i * 2 + c ∧ c < 2 ∧ (fmC p)[c]? = some u
  | [], j, u, h => by simp [fmV] at h
  | p :: L, j, u, h => by
    rw [fmV] at h
    by_cases hj : j < 2
    · rw [List.getElem?_append_left (by simp [fmC]; omega)] at h
      exact ⟨0, p, j, rfl, by omega, hj, h⟩
    · rw [List.getElem?_append_right (by simp [fmC]; omega)] at h
      obtain ⟨i, q, c, h1, h2, h3, h4⟩ := fmV_get L _ u h
      simp only [fmC, List.length_cons, List.length_nil] at h2
      exact ⟨i + 1, q, c, by simpa using h1, by omega, h3, h4⟩
theorem fms_news {w : World} {a : Option Addr} {L : List Fm} (h : Fms w a L) : L.length = 0 ∨ ∃ ad, a = some ad ∧ ∀ j u, (fmV L)[j]? = some u → w.cell? (ad.add j) = some u := by
  rcases h with h | ⟨b, off, ha, hlt, hc⟩
  · exact .inl (by rw [h]; rfl)
  · refine .inr ⟨_, ha, fun j u hj => ?_⟩
    obtain ⟨i, p, c, h1, rfl, h3, h4⟩ := fmV_get L j u hj
    obtain ⟨c0, c1⟩ := hc i p h1
    rw [Addr.add_lit]
    match c, h3, h4 with
    | 0, _, h4 => rw [show (some u) = some (.int .i64 p.id) from h4.symm.trans rfl]; exact c0
    | 1, _, h4 => rw [show (some u) = some (.slice p.f p.fL.length p.fCap) from h4.symm.trans rfl, ← Nat.add_assoc]; exact c1
theorem fms_nil (W : World) (a : Option Addr) (n c : Nat) : (binOp .eql 22 (.slice a n c) (.slice none 0 0)).run Try.prog W = .ok (.bool a.isNone) W := by
  have h := run_equal_slice_nil (P := Try.prog) W 22 52 a n c Try.underlying22
  simp [binOp, h, Result.andThen]
/-- the call returns a row of its own that holds L -/
def OwnsF (L : List field.Fd) (w : World) (e : Ending) (w' : World) : Prop := ∃ v, e = .returned v ∧ w'.ownsRow w.heap.size 26 5 v L.length (fdV L) ∧ Below w.heap.size w w'
theorem cloneF_any (a : Option Addr) (cap : Nat) (L : List field.Fd) (w : World) (h : field.Fds w a L) (hL : L.length ≤ 1000000) :
    Calls Try.prog 50 #[.slice a L.length cap] w (OwnsF L w) := by
  obtain ⟨i0, hi, hz0, hz1, hz2⟩ := fd_info_parts
  cases a with
  | none =>
    have en := fds_nil w none L.length cap
    simp only [Option.isNone_none] at en
    have hl : L = [] := by
      rcases h with h | ⟨b, off, h, _⟩
      · exact h
      · cases h
    have HR : Hid (OwnsF L w (.returned (.slice none 0 0)) w) := hid ⟨_, rfl, by rw [hl]; exact World.ownsRow_nil _ _ _ _, Below.refl _ _⟩
    clear h hl hL
    generalize OwnsF L w = R at *
    generalize L.length = n at *
    go_enter Try.func50, Try.ntmps50
    go_wp2
    exact HR.out
  | some ad =>
    have en := fds_nil w (some ad) L.length cap
    simp only [Option.isNone_some] at en
    have hb : Below w.heap.size w (w.alloc (.cells #[] 26)) := (Below.refl _ _).alloc (Nat.le_refl _) _
    have HB := hid hb
    have HN := hid (fds_news (h.below hb))
    have HU := hid (fdV_length L)
    have HN2 : Hid (0 + L.length ≤ maxLen) := by show _ ≤ _; unfold maxLen; omega
    have HN3 : Hid ((0 + L.length) * 40 ≤ 140737488355328) := by show _ ≤ _; omega
    have HO := hid (World.ownsRow_made (base := w.heap.size) (e := 26) (size := 5) w #[] 0 (Nat.le_refl _) (Nat.zero_le _) rfl)
    have H1 := hid (fdV_one L)
    clear h hb hL
    unfold OwnsF
    generalize hX : fdV L = X at *
    clear hX
    generalize hn : L.length = n at *
    clear hn
    go_enter Try.func50, Try.ntmps50
    go_wp2_with (at_builtin; refine wpList_append_fromN rfl _ _ 30 rfl w.heap.size 26 i0 _ 5 40 Try.underlying30 hi hz0 hz1 hz2 (by simp [Value.cells]) (by omega) (.slice (some ⟨w.heap.size, 0, none⟩) 0 0) 0 [] rfl HO.out (some ad) n cap X rfl HU.out HN.out H1.out HN2.out HN3.out HB.out.size ?_)
    intro v' w1 ho hg
    have hbl : Below w.heap.size w w1 := HB.out.grown hg HB.out.size (fun k hk => by cases hk; exact Nat.le_refl _)
    have ho' : w1.ownsRow w.heap.size 26 5 v' n X := by simpa using ho
    have HO2 := hid ho'
    have HB2 := hid hbl
    clear ho ho' hbl hg
    go_wp2
    go_ret
    exact ⟨_, rfl, HO2.out, HB2.out⟩
/-- the call returns a row of its own that holds L -/
def OwnsM (L : List Fm) (w : World) (e : Ending) (w' : World) : Prop := ∃ v, e = .returned v ∧ w'.ownsRow w.heap.size 52 2 v L.length (fmV L) ∧ Below w.heap.size w w'
theorem cloneM_any (a : Option Addr) (cap : Nat) (L : List Fm) (w : World) (h : Fms w a L) (hL : L.length ≤ 1000000) :
    Calls Try.prog 62 #[.slice a L.length cap] w (OwnsM L w) := by
  obtain ⟨i0, hi, hz0, hz1, hz2⟩ := fm_info_parts
  cases a with
  | none =>
    have en := fms_nil w none L.length cap
    simp only [Option.isNone_none] at en
    have hl : L = [] := by
      rcases h with h | ⟨b, off, h, _⟩
      · exact h
      · cases h
    have HR : Hid (OwnsM L w (.returned (.slice none 0 0)) w) := hid ⟨_, rfl, by rw [hl]; exact World.ownsRow_nil _ _ _ _, Below.refl _ _⟩
    clear h hl hL
    generalize OwnsM L w = R at *
    generalize L.length = n at *
    go_enter Try.func62, Try.ntmps62
    go_wp2
    exact HR.out
  | some ad =>
    have en := fms_nil w (some ad) L.length cap
    simp only [Option.isNone_some] at en
    have hb : Below w.heap.size w (w.alloc (.cells #[] 52)) := (Below.refl _ _).alloc (Nat.le_refl _) _
    have HB := hid hb
    have HN := hid (fms_news (h.below hb))
    have HU := hid (fmV_length L)
    have HN2 : Hid (0 + L.length ≤ maxLen) := by show _ ≤ _; unfold maxLen; omega
    have HN3 : Hid ((0 + L.length) * 32 ≤ 140737488355328) := by show _ ≤ _; omega
    have HO := hid (World.ownsRow_made (base := w.heap.size) (e := 52) (size := 2) w #[] 0 (Nat.le_refl _) (Nat.zero_le _) rfl)
    have H1 := hid (fmV_one L)
    clear h hb hL
    unfold OwnsM
    generalize hX : fmV L = X at *
    clear hX
    generalize hn : L.length = n at *
    clear hn
    go_enter Try.func62, Try.ntmps62
    go_wp2_with (at_builtin; refine wpList_append_fromN rfl _ _ 22 rfl w.heap.size 52 i0 _ 2 32 Try.underlying22 hi hz0 hz1 hz2 (by simp [Value.cells]) (by omega) (.slice (some ⟨w.heap.size, 0, none⟩) 0 0) 0 [] rfl HO.out (some ad) n cap X rfl HU.out HN.out H1.out HN2.out HN3.out HB.out.size ?_)
    intro v' w1 ho hg
    have hbl : Below w.heap.size w w1 := HB.out.grown hg HB.out.size (fun k hk => by cases hk; exact Nat.le_refl _)
    have ho' : w1.ownsRow w.heap.size 52 2 v' n X := by simpa using ho
    have HO2 := hid ho'
    have HB2 := hid hbl
    clear ho ho' hbl hg
    go_wp2
    go_ret
    exact ⟨_, rfl, HO2.out, HB2.out⟩
end Go.Proofs.Ytiajpjkkopdmgaa.schema

namespace Go.Proofs.Ytiajpjkkopdmgaa.step
open Go.ChangeShapes Go.WideShapes Go.ChangeAt Go.RowKit Go.Deep
set_option linter.unusedVariables false

/-- the slice at a reads as the numbers l -/
def Ins (w : World) (a : Option Addr) (l : List Int) : Prop :=
  l = [] ∨ ∃ b off, a = some ⟨b, off, none⟩ ∧ b < w.heap.size ∧ ∀ (i : Nat) (n : Int), l[i]? = some n → w.cell? ⟨b, off + i, none⟩ = some (.int .i64 n)
theorem Ins.below {w w' : World} {a : Option Addr} {l : List Int} (h : Ins w a l) (hb : Below w.heap.size w w') : Ins w' a l := by
  rcases h with h | ⟨b, off, ha, hlt, hc⟩
  · exact .inl h
  · refine .inr ⟨b, off, ha, Nat.lt_of_lt_of_le hlt hb.size, fun i p hp => ?_⟩
    rw [hb.cell (p := ⟨b, off + i, none⟩) hlt]
    exact hc i p hp
theorem Ins.at {w : World} {a : Option Addr} {l : List Int} (h : Ins w a l) {i : Nat} (hi : i < l.length) :
    ∃ b off p, a = some ⟨b, off, none⟩ ∧ b < w.heap.size ∧ l[i]? = some p ∧ w.cell? ⟨b, off + i, none⟩ = some (.int .i64 p) := by
  rcases h with rfl | ⟨b, off, ha, hlt, hc⟩
  · simp at hi
  · have hp := List.getElem?_eq_getElem hi
    exact ⟨b, off, _, ha, hlt, hp, hc i _ hp⟩
/-- a number of the type int -/
def InOk (n : Int) : Prop := -9223372036854775808 ≤ n ∧ n ≤ 9223372036854775807
section
variable {H : Type} {enc : TypeId × Value → H} {P : Program} {W : World}
/-- all that is asked of the type of such a slice -/
def InRow (P : Program) (t : TypeId) : Prop := ∃ e, P.underlying t = some (.slice e) ∧ P.underlying e = some (.int .i64) ∧ P.cellsOf e = 1
theorem open_InRow {t : TypeId} {v : Value} {fuel : Nat} {y : DataW H × List MemPlace} (hR : InRow P t)
    (hf : DataW.trod enc P W 0 (fun _ => true) true fuel t [v] = some y) :
    ∃ (a : Option Addr) (cap : Nat) (M : List Int), v = .slice a M.length cap ∧ Ins W a M ∧ (∀ x ∈ M, InOk x) ∧ M.length ≤ cap ∧ cap ≤ maxLen := by
  obtain ⟨e, ht, he, hc⟩ := hR
  rcases open_ints ht he hc hf with ⟨hcs, _⟩ | ⟨x, l, c, zs, hcs, _, hl, hm, hz, hx, hcell, hwz⟩
  · exact ⟨none, 0, [], by simpa using hcs, .inl rfl, by simp, Nat.le_refl _, by unfold maxLen; omega⟩
  · simp only [if_true] at hz
    have hlen : (zs.take l).length = l := by simp; omega
    refine ⟨some x, c, zs.take l, by rw [hlen]; simpa using hcs, ?_, fun y hy => wf_i64 _ (hwz _ (List.mem_of_mem_take hy)), by rw [hlen]; exact hl, hm⟩
    by_cases h : l = 0
    · exact .inl (by subst h; rfl)
    · right
      obtain ⟨b, off, spot⟩ := x
      have hspot : spot = none := by simpa [Addr.add] using World.cell?_spot (hcell 0 (by omega))
      subst hspot
      have hb : b < W.heap.size := by
        have := World.block_lt_of_cell? W _ (hcell 0 (by omega))
        simpa [Addr.add] using this
      refine ⟨b, off, rfl, hb, fun i n hi => ?_⟩
      have hil : i < l := by have := (List.getElem?_eq_some_iff.1 hi).1; omega
      have h1 := hcell i (by omega)
      rw [Addr.add_lit] at h1
      rw [h1]
      have hi' : i < zs.length := by omega
      rw [List.getElem?_take, if_pos hil] at hi
      simp [List.getD, hi]
end
theorem inRow : InRow Try.prog 29 := ⟨_, Try.underlying29, by kernel_rfl, by kernel_rfl⟩
end Go.Proofs.Ytiajpjkkopdmgaa.step

namespace Go.Proofs.Ytiajpjkkopdmgaa.step
open Go.ChangeShapes Go.WideShapes Go.ChangeAt Go.RowKit Go.Deep
set_option linter.unusedVariables false

/-- a step by its values -/
structure Sp where
  (op fm fd pl tt a b : Int) (f : field.Fd) (v : field.Va) (t : List Int) (l : List field.Fd)
/-- a step as it lies in memory: its values, and where its two lists lie -/
structure St where
  (s : Sp) (ta : Option Addr) (tc : Nat) (la : Option Addr) (lc : Nat)
instance : Inhabited St := ⟨⟨⟨0, 0, 0, 0, 0, 0, 0, ⟨0, 0, 0, 0, 0⟩, ⟨0, ⟨#[]⟩⟩, [], []⟩, none, 0, none, 0⟩⟩
/-- the sixteen cells of a step whose two lists are the slices x and y -/
def spC (s : Sp) (x y : Value) : List Value := [.int .i64 s.op, .int .i64 s.fm, .int .i64 s.fd, .int .i64 s.pl, .int .i64 s.tt, .int .i64 s.a, .int .i64 s.b, .int .i64 s.f.id, .int .i64 s.f.kind, .int .i64 s.f.lo, .int .i64 s.f.hi, .int .i64 s.f.most, .int .i64 s.v.n, .string s.v.s, x, y]
def St.C (p : St) : List Value := spC p.s (.slice p.ta p.s.t.length p.tc) (.slice p.la p.s.l.length p.lc)
def St.val (p : St) : Value := .agg ⟨p.C⟩
structure Sp.Ints (s : Sp) : Prop where
  bop : InOk s.op
  bfm : InOk s.fm
  bfd : InOk s.fd
  bpl : InOk s.pl
  btt : InOk s.tt
  ba : InOk s.a
  bb : InOk s.b
  bn : InOk s.v.n
  bt : ∀ n ∈ s.t, InOk n
structure St.Good (W : World) (p : St) : Prop where
  ints : p.s.Ints
  bf : p.s.f.Good W
  rt : Ins W p.ta p.s.t
  ct : p.s.t.length ≤ p.tc
  dt : p.tc ≤ maxLen
  rl : field.Fds W p.la p.s.l
  ml : ∀ y ∈ p.s.l, y.Good W
  cl : p.s.l.length ≤ p.lc
  dl : p.lc ≤ maxLen
theorem St.Good.below {W W' : World} {p : St} (h : p.Good W) (hb : Below W.heap.size W W') : p.Good W' :=
  ⟨h.ints, h.bf.below hb, h.rt.below hb, h.ct, h.dt, h.rl.below hb, fun y hy => (h.ml y hy).below hb, h.cl, h.dl⟩
/-- the slice at a reads as the list l -/
def Sts (w : World) (a : Option Addr) (l : List St) : Prop :=
  l = [] ∨ ∃ b off, a = some ⟨b, off, none⟩ ∧ b < w.heap.size ∧ ∀ (i : Nat) p, l[i]? = some p → ∀ (j : Nat) v, p.C[j]? = some v → w.cell? ⟨b, off + i * 16 + j, none⟩ = some v
theorem Sts.below {w w' : World} {a : Option Addr} {l : List St} (h : Sts w a l) (hb : Below w.heap.size w w') : Sts w' a l := by
  rcases h with h | ⟨b, off, ha, hlt, hc⟩
  · exact .inl h
  · refine .inr ⟨b, off, ha, Nat.lt_of_lt_of_le hlt hb.size, fun i p hp j v hv => ?_⟩
    rw [hb.cell (p := ⟨b, off + i * 16 + j, none⟩) hlt]
    exact hc i p hp j v hv
section
variable {H : Type} {enc : TypeId × Value → H} {P : Program} {W : World}
/-- all that is asked of the type of a step -/
structure StShape (P : Program) (t : TypeId) (F : List Field) : Prop where
  hs : P.underlying t = some (.struct F.toArray)
  hC : P.cellsOf t = 16
  ho : F.map (fun f => (f.offset, P.cellsOf f.type)) = [(0, 1), (1, 1), (2, 1), (3, 1), (4, 1), (5, 1), (6, 1), (7, 5), (12, 2), (14, 1), (15, 1)]
  hi : ∀ i, i < 7 → ∀ f, F[i]? = some f → P.underlying f.type = some (.int .i64)
  hf : ∀ f, F[7]? = some f → ∃ f0 f1 f2 f3 f4, P.underlying f.type = some (.struct #[f0, f1, f2, f3, f4]) ∧ oneCellFields P #[f0, f1, f2, f3, f4] = true ∧ P.underlying f0.type = some (.int .i64) ∧ P.underlying f1.type = some (.int .i64) ∧ P.underlying f2.type = some (.int .i64) ∧ P.underlying f3.type = some (.int .i64) ∧ P.underlying f4.type = some (.int .i64)
  hv : ∀ f, F[8]? = some f → ∃ g0 g1, P.underlying f.type = some (.struct #[g0, g1]) ∧ oneCellFields P #[g0, g1] = true ∧ P.underlying g0.type = some (.int .i64) ∧ P.underlying g1.type = some .string
  ht : ∀ f, F[9]? = some f → InRow P f.type
  hl : ∀ f, F[10]? = some f → field.FdRow P f.type
def StType (P : Program) (t : TypeId) : Prop := ∃ F, StShape P t F
theorem take_one {cs : List Value} {i : Nat} {c : Value} (h : cs[i]? = some c) : (cs.drop i).take 1 = [c] := by
  rw [List.take_one, List.head?_drop, h]; rfl
theorem one_cells {t : TypeId} {fs : Array Field} {n : Nat} {cs : List Value} {y : DataW H × List MemPlace} (hs : P.underlying t = some (.struct fs)) (hone : oneCellFields P fs = true) (h : DataW.trod enc P W 0 (fun _ => true) true n t cs = some y) :
    ∃ m, ∀ (i : Nat) (f : Field) (c : Value), fs[i]? = some f → cs[i]? = some c → ∃ y, DataW.trod enc P W 0 (fun _ => true) true m f.type [c] = some y := by
  obtain ⟨ys, m, _, _, hl, hlen, hx⟩ := DataW.trod_struct hs h
  refine ⟨m, fun i f c hi hc => ?_⟩
  obtain ⟨o, k⟩ := hone_of hone i f hi
  have h1 := hx i f hi
  rw [o, k, take_one hc] at h1
  have hi6 : i < fs.size := (Array.getElem?_eq_some_iff.1 hi).1
  exact ⟨_, h1.trans (List.getElem?_eq_getElem (by rw [hlen]; exact hi6))⟩
theorem some_cells {t : TypeId} {fs : Array Field} {n : Nat} {cs : List Value} {y : DataW H × List MemPlace} (hs : P.underlying t = some (.struct fs)) (h : DataW.trod enc P W 0 (fun _ => true) true n t cs = some y) :
    ∃ m, ∀ (i : Nat) (f : Field), fs[i]? = some f → ∃ y, DataW.trod enc P W 0 (fun _ => true) true m f.type ((cs.drop f.offset).take (P.cellsOf f.type)) = some y := by
  obtain ⟨ys, m, _, _, hl, hlen, hx⟩ := DataW.trod_struct hs h
  refine ⟨m, fun i f hi => ?_⟩
  have hi6 : i < fs.size := (Array.getElem?_eq_some_iff.1 hi).1
  exact ⟨_, (hx i f hi).trans (List.getElem?_eq_getElem (by rw [hlen]; exact hi6))⟩
theorem St_cells {t : TypeId} {n : Nat} {c0 c1 c2 c3 c4 c5 c6 c7 c8 c9 c10 c11 c12 c13 c14 c15 : Value} {y : DataW H × List MemPlace} (hT : StType P t)
    (h : DataW.trod enc P W 0 (fun _ => true) true n t [c0, c1, c2, c3, c4, c5, c6, c7, c8, c9, c10, c11, c12, c13, c14, c15] = some y) :
    ∃ p : St, p.Good W ∧ [c0, c1, c2, c3, c4, c5, c6, c7, c8, c9, c10, c11, c12, c13, c14, c15] = p.C := by
  obtain ⟨F, S⟩ := hT
  have hlen : F.length = 11 := by have := congrArg List.length S.ho; simpa using this
  match F, hlen, S with
  | [F0, F1, F2, F3, F4, F5, F6, F7, F8, F9, F10], _, S =>
    have ho := S.ho
    simp only [List.map_cons, List.map_nil, List.cons.injEq, Prod.mk.injEq, and_true] at ho
    obtain ⟨m, hx⟩ := some_cells S.hs h
    have e0 := hx 0 F0 rfl
    have e1 := hx 1 F1 rfl
    have e2 := hx 2 F2 rfl
    have e3 := hx 3 F3 rfl
    have e4 := hx 4 F4 rfl
    have e5 := hx 5 F5 rfl
    have e6 := hx 6 F6 rfl
    have e7 := hx 7 F7 rfl
    have e8 := hx 8 F8 rfl
    have e9 := hx 9 F9 rfl
    have e10 := hx 10 F10 rfl
    obtain ⟨⟨o0, k0⟩, ⟨o1, k1⟩, ⟨o2, k2⟩, ⟨o3, k3⟩, ⟨o4, k4⟩, ⟨o5, k5⟩, ⟨o6, k6⟩, ⟨o7, k7⟩, ⟨o8, k8⟩, ⟨o9, k9⟩, ⟨o10, k10⟩⟩ := ho
    rw [o0, k0] at e0
    rw [o1, k1] at e1
    rw [o2, k2] at e2
    rw [o3, k3] at e3
    rw [o4, k4] at e4
    rw [o5, k5] at e5
    rw [o6, k6] at e6
    rw [o7, k7] at e7
    rw [o8, k8] at e8
    rw [o9, k9] at e9
    rw [o10, k10] at e10
    obtain ⟨y0, e0⟩ := e0
    obtain ⟨y1, e1⟩ := e1
    obtain ⟨y2, e2⟩ := e2
    obtain ⟨y3, e3⟩ := e3
    obtain ⟨y4, e4⟩ := e4
    obtain ⟨y5, e5⟩ := e5
    obtain ⟨y6, e6⟩ := e6
    obtain ⟨y7, e7⟩ := e7
    obtain ⟨y8, e8⟩ := e8
    obtain ⟨y9, e9⟩ := e9
    obtain ⟨y10, e10⟩ := e10
    replace e0 : DataW.trod enc P W 0 (fun _ => true) true m F0.type [c0] = some y0 := e0
    replace e1 : DataW.trod enc P W 0 (fun _ => true) true m F1.type [c1] = some y1 := e1
    replace e2 : DataW.trod enc P W 0 (fun _ => true) true m F2.type [c2] = some y2 := e2
    replace e3 : DataW.trod enc P W 0 (fun _ => true) true m F3.type [c3] = some y3 := e3
    replace e4 : DataW.trod enc P W 0 (fun _ => true) true m F4.type [c4] = some y4 := e4
    replace e5 : DataW.trod enc P W 0 (fun _ => true) true m F5.type [c5] = some y5 := e5
    replace e6 : DataW.trod enc P W 0 (fun _ => true) true m F6.type [c6] = some y6 := e6
    replace e7 : DataW.trod enc P W 0 (fun _ => true) true m F7.type [c7, c8, c9, c10, c11] = some y7 := e7
    replace e8 : DataW.trod enc P W 0 (fun _ => true) true m F8.type [c12, c13] = some y8 := e8
    replace e9 : DataW.trod enc P W 0 (fun _ => true) true m F9.type [c14] = some y9 := e9
    replace e10 : DataW.trod enc P W 0 (fun _ => true) true m F10.type [c15] = some y10 := e10
    obtain ⟨x0, q0, _, w0⟩ := DataW.trod_int (S.hi 0 (by omega) F0 rfl) e0
    obtain ⟨x1, q1, _, w1⟩ := DataW.trod_int (S.hi 1 (by omega) F1 rfl) e1
    obtain ⟨x2, q2, _, w2⟩ := DataW.trod_int (S.hi 2 (by omega) F2 rfl) e2
    obtain ⟨x3, q3, _, w3⟩ := DataW.trod_int (S.hi 3 (by omega) F3 rfl) e3
    obtain ⟨x4, q4, _, w4⟩ := DataW.trod_int (S.hi 4 (by omega) F4 rfl) e4
    obtain ⟨x5, q5, _, w5⟩ := DataW.trod_int (S.hi 5 (by omega) F5 rfl) e5
    obtain ⟨x6, q6, _, w6⟩ := DataW.trod_int (S.hi 6 (by omega) F6 rfl) e6
    obtain ⟨f0, f1, f2, f3, f4, hf, hfo, a0, a1, a2, a3, a4⟩ := S.hf F7 rfl
    obtain ⟨m7, r7⟩ := one_cells hf hfo e7
    obtain ⟨z0, r70⟩ := r7 0 f0 c7 rfl rfl
    obtain ⟨z1, r71⟩ := r7 1 f1 c8 rfl rfl
    obtain ⟨z2, r72⟩ := r7 2 f2 c9 rfl rfl
    obtain ⟨z3, r73⟩ := r7 3 f3 c10 rfl rfl
    obtain ⟨z4, r74⟩ := r7 4 f4 c11 rfl rfl
    obtain ⟨pf, hpf, rfl, rfl, rfl, rfl, rfl⟩ := field.Fd_cells a0 a1 a2 a3 a4 r70 r71 r72 r73 r74
    obtain ⟨g0, g1, hv, hvo, b0, b1⟩ := S.hv F8 rfl
    obtain ⟨m8, r8⟩ := one_cells hv hvo e8
    obtain ⟨z5, r80⟩ := r8 0 g0 c12 rfl rfl
    obtain ⟨z6, r81⟩ := r8 1 g1 c13 rfl rfl
    obtain ⟨pv, hpv, rfl, rfl⟩ := field.Va_cells b0 b1 r80 r81
    obtain ⟨ta, tc, tL, rfl, t1, t2, t3, t4⟩ := open_InRow (S.ht F9 rfl) e9
    obtain ⟨la, lc, lL, rfl, l1, l2, l3, l4⟩ := field.open_FdRow (S.hl F10 rfl) e10
    refine ⟨⟨⟨x0, x1, x2, x3, x4, x5, x6, pf, pv, tL, lL⟩, ta, tc, la, lc⟩, ⟨⟨wf_i64 _ w0, wf_i64 _ w1, wf_i64 _ w2, wf_i64 _ w3, wf_i64 _ w4, wf_i64 _ w5, wf_i64 _ w6, hpv.bn, t2⟩, hpf, t1, t3, t4, l1, l2, l3, l4⟩, ?_⟩
    simp only [List.cons.injEq, and_true] at q0 q1 q2 q3 q4 q5 q6
    rw [q0, q1, q2, q3, q4, q5, q6]
    rfl
theorem open_St_arg {r : Reach} {b0 : Nat} {t : TypeId} {v : Value} {d : DataW H} {pl : List MemPlace} (hT : StType P t)
    (hv : Value.okWide P W r b0 t v) (h : DataW.Trod enc P W 0 (fun _ => true) true t v d pl) : ∃ p : St, p.Good W ∧ v = p.val := by
  obtain ⟨F, S⟩ := id hT
  obtain ⟨cs, rfl, hsz⟩ := okWide_struct S.hs hv
  obtain ⟨fuel, hf⟩ := h
  rw [S.hC] at hsz
  obtain ⟨l⟩ := cs
  match l, hsz with
  | [c0, c1, c2, c3, c4, c5, c6, c7, c8, c9, c10, c11, c12, c13, c14, c15], _ =>
    obtain ⟨p, hp, he⟩ := St_cells hT (y := (d, pl)) (show DataW.trod enc P W 0 (fun _ => true) true fuel t [c0, c1, c2, c3, c4, c5, c6, c7, c8, c9, c10, c11, c12, c13, c14, c15] = some (d, pl) from hf)
    exact ⟨p, hp, by rw [he]; rfl⟩
theorem open_Sts {t e : TypeId} {a : Option Addr} {len cap : Nat} {d : DataW H} {pl : List MemPlace} (ht : P.underlying t = some (.slice e)) (hT : StType P e)
    (h0 : DataW.Trod enc P W 0 (fun _ => true) true t (.slice a len cap) d pl) : ∃ l : List St, len = l.length ∧ Sts W a l ∧ (∀ p ∈ l, p.Good W) ∧ len ≤ cap ∧ cap ≤ maxLen := by
  obtain ⟨fuel, hf⟩ := h0
  have hf2 : DataW.trod enc P W 0 (fun _ => true) true fuel t [.slice a len cap] = some (d, pl) := by simpa [Value.cells] using hf
  rcases open_slice ht hf2 with ⟨hcs, _⟩ | ⟨A, len', cap', q, n, D, Pl, hcs, _, hlc, hcm, hm, hx0, hrow⟩
  · simp at hcs
    obtain ⟨rfl, rfl, rfl⟩ := hcs
    exact ⟨[], rfl, .inl rfl, by simp, Nat.le_refl _, by unfold maxLen; omega⟩
  · simp at hcs
    obtain ⟨rfl, rfl, rfl⟩ := hcs
    simp only [if_true] at hm
    have hC : P.cellsOf e = 16 := by obtain ⟨F, S⟩ := id hT; exact S.hC
    have each : ∀ r, r < len → ∃ p : St, p.Good W ∧ ∀ (j : Nat) v, p.C[j]? = some v → W.cell? (A.add (r * 16 + j)) = some v := by
      intro r hr
      obtain ⟨cs', h1, h2⟩ := hrow r (by omega)
      rw [hC] at h1
      obtain ⟨_, hlen0, hcell⟩ := World.cells?_some h1
      obtain ⟨F, S⟩ := id hT
      obtain ⟨ys, m, _, _, hl, hlen, hx⟩ := DataW.trod_struct S.hs h2
      rw [hC] at hl
      match cs', hl with
      | [c0, c1, c2, c3, c4, c5, c6, c7, c8, c9, c10, c11, c12, c13, c14, c15], _ =>
        obtain ⟨p, hp, he⟩ := St_cells hT h2
        refine ⟨p, hp, fun j v hj => ?_⟩
        have hjl : j < 16 := (List.getElem?_eq_some_iff.1 hj).1
        have k := hcell j (by omega)
        rw [add_add] at k
        rw [k, he]
        exact hj
    obtain ⟨y, hy⟩ := choose_lt each
    refine ⟨(List.range len).map y, by simp, ?_, ?_, by omega, hcm⟩
    · by_cases hz : len = 0
      · subst hz; exact .inl rfl
      · right
        obtain ⟨b, off, spot⟩ := A
        have hc0 := (hy 0 (by omega)).2 0 _ rfl
        have hspot : spot = none := by simpa [Addr.add] using World.cell?_spot hc0
        subst hspot
        have hb : b < W.heap.size := by
          have := World.block_lt_of_cell? W _ hc0
          simpa [Addr.add] using this
        refine ⟨b, off, rfl, hb, fun i p hp j v hj => ?_⟩
        have hi : i < len := by have := (List.getElem?_eq_some_iff.1 hp).1; simpa using this
        simp [hi] at hp
        subst hp
        have e := (hy i hi).2 j v hj
        rw [Addr.add_lit] at e
        rw [Nat.add_assoc]; exact e
    · intro p hp
      obtain ⟨i, hi, rfl⟩ := List.mem_map.1 hp
      exact (hy i (List.mem_range.1 hi)).1
end
theorem stType : StType Try.prog 32 := by
  refine ⟨_, ⟨Try.underlying32, by kernel_rfl, by kernel_rfl, ?_, ?_, ?_, ?_, ?_⟩⟩
  rotate_left
  · intro f hf
    obtain rfl := Option.some.inj hf
    exact ⟨_, _, _, _, _, Try.underlying26, by kernel_rfl, by kernel_rfl, by kernel_rfl, by kernel_rfl, by kernel_rfl, by kernel_rfl⟩
  · intro f hf
    obtain rfl := Option.some.inj hf
    exact ⟨_, _, Try.underlying28, by kernel_rfl, by kernel_rfl, by kernel_rfl⟩
  · intro f hf
    obtain rfl := Option.some.inj hf
    exact inRow
  · intro f hf
    obtain rfl := Option.some.inj hf
    exact field.fdRow
  · intro i hi f hf
    have h : i = 0 ∨ i = 1 ∨ i = 2 ∨ i = 3 ∨ i = 4 ∨ i = 5 ∨ i = 6 := by omega
    rcases h with rfl | rfl | rfl | rfl | rfl | rfl | rfl <;> (obtain rfl := Option.some.inj hf; exact Try.underlying3)
end Go.Proofs.Ytiajpjkkopdmgaa.step

namespace Go.Proofs.Ytiajpjkkopdmgaa.record
open Go.RowKit
open Go.Proofs.Ytiajpjkkopdmgaa.field (Va)
set_option linter.unusedVariables false

instance : DecidableEq Va := fun a b =>
  if h : a.n = b.n ∧ a.s.toList = b.s.toList then isTrue (by
    obtain ⟨n, ⟨⟨s⟩⟩⟩ := a
    obtain ⟨m, ⟨⟨t⟩⟩⟩ := b
    obtain ⟨h1, h2⟩ := h
    simp only at h1 h2
    rw [ByteArray.toList_eq, ByteArray.toList_eq] at h2
    simp only at h2
    subst h1 h2; rfl) else isFalse (by rintro rfl; simp at h)
theorem va_eq {n m : Int} {s t : ByteArray} : (⟨n, s⟩ : Va) = ⟨m, t⟩ ↔ n = m ∧ s.toList = t.toList := by
  constructor
  · intro h; cases h; exact ⟨rfl, rfl⟩
  · rintro ⟨rfl, h⟩
    obtain ⟨⟨s⟩⟩ := s
    obtain ⟨⟨t⟩⟩ := t
    rw [ByteArray.toList_eq, ByteArray.toList_eq] at h
    simp only at h
    subst h; rfl

end Go.Proofs.Ytiajpjkkopdmgaa.record

namespace Go.Proofs.Ytiajpjkkopdmgaa.step
open Go.RowKit Go.Proofs.Ytiajpjkkopdmgaa.pen
open Go.Proofs.Ytiajpjkkopdmgaa.schema (take_succ_at)
set_option linter.unusedVariables false

instance : DecidableEq Sp := fun x y =>
  if h : x.op = y.op ∧ x.fm = y.fm ∧ x.fd = y.fd ∧ x.pl = y.pl ∧ x.tt = y.tt ∧ x.a = y.a ∧ x.b = y.b ∧ x.f = y.f ∧ x.v = y.v ∧ x.t = y.t ∧ x.l = y.l then isTrue (by
    cases x; cases y; simp only at h
    obtain ⟨rfl, rfl, rfl, rfl, rfl, rfl, rfl, rfl, rfl, rfl, rfl⟩ := h; rfl) else isFalse (by rintro rfl; simp at h)
abbrev fd0 : field.Fd := ⟨0, 0, 0, 0, 0⟩
abbrev va0 : field.Va := ⟨0, ⟨#[]⟩⟩
abbrev Sp.zero : Sp := ⟨0, 0, 0, 0, 0, 0, 0, fd0, va0, [], []⟩
/-- the members that an operation uses -/
def mem (op : Int) : List Nat :=
  if op = 1 ∨ op = 22 then [0, 2, 9] else if op = 2 then [0, 1, 10] else if op = 3 ∨ op = 23 then [0, 1, 8] else if op = 4 then [0, 1, 5] else if op = 24 then [0, 1, 5, 8]
  else if op = 5 then [0, 1, 6] else if op = 25 then [0, 1, 7] else if op = 6 then [0, 1, 4, 3] else if op = 26 then [0, 1, 4, 3, 8] else if op = 7 ∨ op = 27 then [0, 1, 2]
  else if op = 8 ∨ op = 28 then [0, 1, 3] else if op = 9 ∨ op = 30 then [0, 11] else if op = 10 ∨ op = 29 then [0] else if op = 21 then [0, 1] else []
/-- the same by the reference's letters -/
def uses (op : Int) : List UInt8 :=
  if op = 1 ∨ op = 22 then [102, 112, 70, 86] else if op = 2 then [102, 100, 86] else if op = 3 ∨ op = 23 then [102, 100, 70] else if op = 4 then [102, 100, 98] else if op = 24 then [102, 100, 98, 70]
  else if op = 5 then [102, 100, 97, 84] else if op = 25 then [102, 100, 84] else if op = 6 then [102, 100, 97, 116] else if op = 26 then [102, 100, 97, 116, 70] else if op = 7 ∨ op = 27 then [102, 100, 112]
  else if op = 8 ∨ op = 28 then [102, 100, 116] else if op = 9 ∨ op = 30 then [102, 76] else if op = 10 ∨ op = 29 then [102] else if op = 21 then [102, 100] else []
/-- the operations, one by one -/
theorem ops (op : Int) : (op = 1 ∨ op = 22 ∨ op = 2 ∨ op = 3 ∨ op = 23 ∨ op = 4 ∨ op = 24 ∨ op = 5 ∨ op = 25 ∨ op = 6 ∨ op = 26 ∨ op = 7 ∨ op = 27 ∨ op = 8 ∨ op = 28 ∨ op = 9 ∨ op = 30 ∨ op = 10 ∨ op = 29 ∨ op = 21) ∨
    (¬ op = 1 ∧ ¬ op = 22 ∧ ¬ op = 2 ∧ ¬ op = 3 ∧ ¬ op = 23 ∧ ¬ op = 4 ∧ ¬ op = 24 ∧ ¬ op = 5 ∧ ¬ op = 25 ∧ ¬ op = 6 ∧ ¬ op = 26 ∧ ¬ op = 7 ∧ ¬ op = 27 ∧ ¬ op = 8 ∧ ¬ op = 28 ∧ ¬ op = 9 ∧ ¬ op = 30 ∧ ¬ op = 10 ∧ ¬ op = 29 ∧ ¬ op = 21) := by omega
theorem mem_none {op : Int} (h : ¬ op = 1 ∧ ¬ op = 22 ∧ ¬ op = 2 ∧ ¬ op = 3 ∧ ¬ op = 23 ∧ ¬ op = 4 ∧ ¬ op = 24 ∧ ¬ op = 5 ∧ ¬ op = 25 ∧ ¬ op = 6 ∧ ¬ op = 26 ∧ ¬ op = 7 ∧ ¬ op = 27 ∧ ¬ op = 8 ∧ ¬ op = 28 ∧ ¬ op = 9 ∧ ¬ op = 30 ∧ ¬ op = 10 ∧ ¬ op = 29 ∧ ¬ op = 21) : mem op = [] ∧ uses op = [] := by
  unfold mem uses
  simp [h]
/-- what holds of each operation holds of all -/
theorem all_ops {Q : Int → Prop} (h1 : Q 1) (h22 : Q 22) (h2 : Q 2) (h3 : Q 3) (h23 : Q 23) (h4 : Q 4) (h24 : Q 24) (h5 : Q 5) (h25 : Q 25) (h6 : Q 6) (h26 : Q 26) (h7 : Q 7) (h27 : Q 27) (h8 : Q 8) (h28 : Q 28) (h9 : Q 9) (h30 : Q 30) (h10 : Q 10) (h29 : Q 29) (h21 : Q 21)
    (h0 : ∀ op, mem op = [] → uses op = [] → Q op) (op : Int) : Q op := by
  rcases ops op with h | h
  · rcases h with rfl | rfl | rfl | rfl | rfl | rfl | rfl | rfl | rfl | rfl | rfl | rfl | rfl | rfl | rfl | rfl | rfl | rfl | rfl | rfl <;> assumption
  · exact h0 op (mem_none h).1 (mem_none h).2
theorem mem_lt (op : Int) : ∀ m ∈ mem op, m < 12 := by
  refine all_ops (Q := fun op => ∀ m ∈ mem op, m < 12) ?_ ?_ ?_ ?_ ?_ ?_ ?_ ?_ ?_ ?_ ?_ ?_ ?_ ?_ ?_ ?_ ?_ ?_ ?_ ?_ ?h0 op
  case h0 => intro op h1 h2; rw [h1]; simp
  all_goals decide
theorem mem_span {op : Int} (h : mem op ≠ []) : 1 ≤ op ∧ op ≤ 30 := by
  rcases ops op with h1 | h1
  · omega
  · exact absurd (mem_none h1).1 h
theorem mem_len (op : Int) : (mem op).length ≤ 5 := by
  refine all_ops (Q := fun op => (mem op).length ≤ 5) ?_ ?_ ?_ ?_ ?_ ?_ ?_ ?_ ?_ ?_ ?_ ?_ ?_ ?_ ?_ ?_ ?_ ?_ ?_ ?_ ?h0 op
  case h0 => intro op h1 h2; rw [h1]; simp
  all_goals decide
theorem uses_len (op : Int) : (uses op).length ≤ 5 := by
  refine all_ops (Q := fun op => (uses op).length ≤ 5) ?_ ?_ ?_ ?_ ?_ ?_ ?_ ?_ ?_ ?_ ?_ ?_ ?_ ?_ ?_ ?_ ?_ ?_ ?_ ?_ ?h0 op
  case h0 => intro op h1 h2; rw [h2]; simp
  all_goals decide
def Table (t : List Int) (lim : Int) : Prop := (1 ≤ t.length ∧ t.length ≤ 64) ∧ (∀ n ∈ t, 0 ≤ n ∧ n ≤ lim - 1) ∧ t.Nodup
instance (t : List Int) (lim : Int) : Decidable (Table t lim) := by unfold Table; infer_instance
/-- a member that is used is as it must be -/
def Sp.Fine (s : Sp) (m : Nat) : Prop :=
  if m = 0 then 0 ≤ s.fm ∧ s.fm ≤ 200 else if m = 1 then 0 ≤ s.fd ∧ s.fd ≤ 255 else if m = 2 then 0 ≤ s.pl ∧ s.pl ≤ 8 else if m = 3 then (0 ≤ s.tt ∧ s.tt ≤ 255) ∧ s.tt ≠ s.fd
  else if m = 4 then 2 ≤ s.a ∧ s.a ≤ 1048576 else if m = 5 then ((-1048576 ≤ s.a ∧ s.a ≤ 1048576) ∧ s.a ≠ 0) ∧ (-1099511627776 ≤ s.b ∧ s.b ≤ 1099511627776)
  else if m = 6 then (1 ≤ s.a ∧ s.a ≤ 1000) ∧ Table s.t s.a else if m = 7 then Table s.t 1000 else if m = 8 then s.f.Right ∧ s.f.id = s.fd else if m = 9 then s.f.Has s.v
  else if m = 10 then (-1099511627776 ≤ s.v.n ∧ s.v.n ≤ 1099511627776) ∧ s.v.s.size ≤ 32 else schema.Fine (s.fm, s.l)
instance (s : Sp) (m : Nat) : Decidable (s.Fine m) := by unfold Sp.Fine; infer_instance
/-- a member is set to zero -/
def Sp.clear (s : Sp) (m : Nat) : Sp :=
  if m = 0 then { s with fm := 0 } else if m = 1 then { s with fd := 0 } else if m = 2 then { s with pl := 0 } else if m = 3 then { s with tt := 0 } else if m = 4 then { s with a := 0 }
  else if m = 5 then { s with a := 0, b := 0 } else if m = 6 then { s with a := 0, t := [] } else if m = 7 then { s with t := [] } else if m = 8 then { s with f := fd0 } else if m = 9 then { s with f := fd0, v := va0 }
  else if m = 10 then { s with v := va0 } else { s with l := [] }
def Sp.Right (s : Sp) : Prop := (∀ m ∈ mem s.op, s.Fine m) ∧ mem s.op ≠ [] ∧ (mem s.op).foldl Sp.clear { s with op := 0 } = Sp.zero
instance (s : Sp) : Decidable s.Right := by unfold Sp.Right; infer_instance
def takeA (e : Sight) : field.Fd × Sight :=
  let a := eCount 255 e
  let k := eCount 4 a.2
  let l := eInt k.2
  let h := eInt l.2
  let m := eCount 1000 h.2
  (⟨a.1, k.1, l.1, h.1, m.1⟩, m.2)
def takeAs : Nat → Sight → List field.Fd × Sight
  | 0, e => ([], e)
  | n + 1, e => ((takeAs n e).1 ++ [(takeA (takeAs n e).2).1], (takeA (takeAs n e).2).2)
def takeNs : Nat → Sight → List Int × Sight
  | 0, e => ([], e)
  | n + 1, e => ((takeNs n e).1 ++ [((eCount 1000 (takeNs n e).2).1 : Int)], (eCount 1000 (takeNs n e).2).2)
def takeL (c : UInt8) (s : Sp) (e : Sight) : Sp × Sight :=
  if c = 102 then ({ s with fm := (eCount 200 e).1 }, (eCount 200 e).2) else if c = 100 then ({ s with fd := (eCount 255 e).1 }, (eCount 255 e).2)
  else if c = 112 then ({ s with pl := (eCount 8 e).1 }, (eCount 8 e).2) else if c = 116 then ({ s with tt := (eCount 255 e).1 }, (eCount 255 e).2)
  else if c = 97 then ({ s with a := (eCount 1048576 e).1 }, (eCount 1048576 e).2) else if c = 98 then ({ s with a := (eInt e).1, b := (eInt (eInt e).2).1 }, (eInt (eInt e).2).2)
  else if c = 70 then ({ s with f := (takeA e).1 }, (takeA e).2) else if c = 86 then ({ s with v := ⟨(eInt e).1, strOf (eText 32 (eInt e).2).1⟩ }, (eText 32 (eInt e).2).2)
  else if c = 84 then ({ s with t := s.t ++ (takeNs (eCount 64 e).1 (eCount 64 e).2).1 }, (takeNs (eCount 64 e).1 (eCount 64 e).2).2)
  else ({ s with l := s.l ++ (takeAs (eCount 8 e).1 (eCount 8 e).2).1 }, (takeAs (eCount 8 e).1 (eCount 8 e).2).2)
def run (cs : List UInt8) (p : Sp × Sight) : Sp × Sight := cs.foldl (fun p c => takeL c p.1 p.2) p
theorem run_app (a b : List UInt8) (p : Sp × Sight) : run (a ++ b) p = run b (run a p) := List.foldl_append
end Go.Proofs.Ytiajpjkkopdmgaa.step

namespace Go.Proofs.Ytiajpjkkopdmgaa.typing
open Go.RowKit Go.Proofs.Ytiajpjkkopdmgaa.schema Go.Proofs.Ytiajpjkkopdmgaa.field Go.Proofs.Ytiajpjkkopdmgaa.step
set_option linter.unusedVariables false

theorem firstAt_nonneg {l : List Int} {x : Int} : 0 ≤ firstAt l x ↔ x ∈ l := by
  unfold firstAt
  split <;> simp_all
theorem firstAt_lt {l : List Int} {x : Int} (h : 0 ≤ firstAt l x) : (firstAt l x).toNat < l.length ∧ l[(firstAt l x).toNat]? = some x := by
  have hm := firstAt_nonneg.1 h
  unfold firstAt
  rw [if_pos hm]
  simp only [Int.toNat_natCast]
  have := List.idxOf_lt_length_of_mem hm
  exact ⟨this, by rw [List.getElem?_eq_getElem this, List.getElem_idxOf]⟩
theorem firstAt_neg1 {l : List Int} {x : Int} (h : x ∉ l) : firstAt l x = -1 := if_neg h

/-- a step, and what it names as the schema has it -/
structure Ch where
  (s : Sp) (fi : Int) (L : List field.Fd) (kn : Bool) (at_ : Int) (old : field.Fd)
def found (c : Ch) : Bool := if c.s.op = 9 then true else if c.s.op = 1 ∨ c.s.op = 10 then c.kn else decide (0 ≤ c.at_)
def twice (c : Ch) : Bool := if c.s.op = 9 then c.kn else if c.s.op = 1 then decide (0 ≤ firstAt (ids c.L) c.s.f.id) else if c.s.op = 6 ∨ c.s.op = 8 then decide (0 ≤ firstAt (ids c.L) c.s.tt) else false
def beyond (c : Ch) : Bool := if c.s.op = 1 then decide ((c.L.length : Int) < c.s.pl) else if c.s.op = 7 then decide ((c.L.length : Int) - 1 < c.s.pl) else false
def scA (c : Ch) : Int := c.s.a * c.old.lo + c.s.b
def scB (c : Ch) : Int := c.s.a * c.old.hi + c.s.b
def low (c : Ch) : Int := if scB c < scA c then scB c else scA c
def high (c : Ch) : Int := if scA c < scB c then scB c else scA c
def suits (c : Ch) : Bool :=
  if c.s.op = 2 then decide (c.old.Has c.s.v) else if c.s.op = 3 then decide (c.old.Wider c.s.f) else if c.s.op = 4 then decide (c.old.kind = 1 ∧ -1099511627776 ≤ low c ∧ high c ≤ 1099511627776)
  else if c.s.op = 5 then decide (c.old.kind = 3 ∧ c.old.most = c.s.t.length) else if c.s.op = 6 then decide (c.old.kind = 1 ∧ c.old.lo = 0) else true
def err (c : Ch) : Nat := if found c = false then 8 else if twice c = true then 9 else if beyond c = true then 3 else if suits c = false then 17 else 0
def mn (a b : Int) : Int := if b < a then b else a
def heirs (c : Ch) : List field.Fd :=
  if c.s.op = 2 then [] else if c.s.op = 3 then [c.s.f] else if c.s.op = 4 then [{ c.old with lo := low c, hi := high c }] else if c.s.op = 5 then [{ c.old with most := c.s.a }]
  else if c.s.op = 6 then [{ c.old with hi := Int.tdiv c.old.hi c.s.a }, ⟨c.s.tt, 1, 0, mn (c.s.a - 1) c.old.hi, 0⟩] else if c.s.op = 8 then [{ c.old with id := c.s.tt }] else [c.old]
def cutL (L : List field.Fd) (k : Nat) : List field.Fd := L.take k ++ L.drop (k + 1)
def putL (L : List field.Fd) (k : Nat) (f : field.Fd) : List field.Fd := L.take k ++ ([f] ++ L.drop k)
def fields (c : Ch) : List field.Fd :=
  if c.s.op = 1 then putL c.L c.s.pl.toNat c.s.f else if c.s.op = 7 then putL (cutL c.L c.at_.toNat) c.s.pl.toNat c.old
  else c.L.take c.at_.toNat ++ (heirs c ++ c.L.drop (c.at_.toNat + 1))
/-- how many forms have a lesser ID -/
def pos : List schema.Form → Int → Nat
  | [], _ => 0
  | p :: r, x => if p.1 < x then pos r x + 1 else 0
def setF (F : List schema.Form) (i : Nat) (l : List field.Fd) : List schema.Form := match F[i]? with
  | some p => F.set i (p.1, l)
  | none => F
def applied (F : List schema.Form) (c : Ch) : List schema.Form :=
  if c.s.op = 9 then F.take (pos F c.s.fm) ++ ([(c.s.fm, c.s.l)] ++ F.drop (pos F c.s.fm)) else if c.s.op = 10 then F.take (pos F c.s.fm) ++ F.drop (pos F c.s.fm + 1) else setF F (pos F c.s.fm) (fields c)
def oldAt (L : List field.Fd) (k : Int) : field.Fd := if 0 ≤ k then L.getD k.toNat fd0 else fd0
def named (F : List schema.Form) (x : Int) : Option schema.Form := F.find? (fun p => p.1 == x)
def begin_ (F : List schema.Form) (s : Sp) : Ch := match named F s.fm with
  | some p => ⟨s, s.fm, p.2, true, firstAt (ids p.2) s.fd, oldAt p.2 (firstAt (ids p.2) s.fd)⟩
  | none => ⟨s, 0, [], false, -1, fd0⟩
def Fit (v : Int) (F : List schema.Form) (s : Sp) : Prop := Right v F ∧ s.Right ∧ s.op ≤ 10
instance (v : Int) (F : List schema.Form) (s : Sp) : Decidable (Fit v F s) := by unfold Fit; infer_instance
def on (v : Int) (F : List schema.Form) (s : Sp) : Int × List schema.Form × Nat :=
  if Fit v F s then (if err (begin_ F s) = 0 then (if Right v (applied F (begin_ F s)) then (v, applied F (begin_ F s), 0) else (0, [], 7)) else (0, [], err (begin_ F s))) else (0, [], 2)
def all : Nat → Int → List schema.Form → List Sp → Int × List schema.Form × Nat × Nat
  | _, v, F, [] => (v, F, 0, 0)
  | k, v, F, s :: r => if (on v F s).2.2 = 0 then all (k + 1) (on v F s).1 (on v F s).2.1 r else (0, [], k, (on v F s).2.2)

def Sorted (F : List schema.Form) : Prop := (F.map (·.1)).Pairwise (· < ·)
theorem Sorted.tail {p : schema.Form} {r : List schema.Form} (h : Sorted (p :: r)) : Sorted r := (List.pairwise_cons.1 h).2
theorem Sorted.head {p : schema.Form} {r : List schema.Form} (h : Sorted (p :: r)) : ∀ q ∈ r, p.1 < q.1 := fun q hq => (List.pairwise_cons.1 h).1 q.1 (List.mem_map_of_mem hq)
theorem right_sorted {v : Int} {F : List schema.Form} (h : Right v F) : Sorted F := h.2.2.2
theorem pos_le (F : List schema.Form) (x : Int) : pos F x ≤ F.length := by
  induction F with
  | nil => simp [pos]
  | cons p r ih => unfold pos; split <;> simp <;> omega
theorem pos_eq {F : List schema.Form} {x : Int} {i : Nat} (hs : Sorted F) (hi : i ≤ F.length) (h1 : ∀ p ∈ F.take i, p.1 < x) (h2 : ∀ p ∈ F.drop i, ¬ p.1 < x) : pos F x = i := by
  induction F generalizing i with
  | nil => simp at hi; simp [pos, hi]
  | cons p r ih =>
    unfold pos
    cases i with
    | zero => rw [if_neg (h2 p (by simp))]
    | succ i =>
      rw [if_pos (h1 p (by simp)), ih hs.tail (by simpa using hi) (fun q hq => h1 q (by simp [hq])) (fun q hq => h2 q (by simpa using hq))]
theorem pos_at {F : List schema.Form} {p : schema.Form} (hs : Sorted F) (hp : p ∈ F) : F[pos F p.1]? = some p := by
  induction F with
  | nil => simp at hp
  | cons q r ih =>
    unfold pos
    rcases List.mem_cons.1 hp with rfl | h
    · simp
    · rw [if_pos (hs.head p h)]
      simpa using ih hs.tail h
theorem named_some {F : List schema.Form} {x : Int} {p : schema.Form} (h : named F x = some p) : p ∈ F ∧ p.1 = x := ⟨List.mem_of_find?_eq_some h, by have := List.find?_some h; simpa using this⟩
theorem named_none {F : List schema.Form} {x : Int} (h : named F x = none) : x ∉ F.map (·.1) := by
  intro hm
  obtain ⟨p, hp, rfl⟩ := List.mem_map.1 hm
  have := List.find?_eq_none.1 h p hp
  simp at this
theorem setF_at {F : List schema.Form} {x : Int} {p : schema.Form} (hs : Sorted F) (h : named F x = some p) (l : List field.Fd) : setF F (pos F x) l = F.set (pos F x) (x, l) := by
  obtain ⟨h1, h2⟩ := named_some h
  have := pos_at hs h1
  rw [h2] at this
  unfold setF
  rw [this]
  simp [h2]

def go (x : Int) (l : List field.Fd) : List schema.Form → Bool → List schema.Form
  | [], d => if d then [] else [(x, l)]
  | p :: r, d => (if d = false ∧ x ≤ p.1 then [(x, l)] else []) ++ ((if p.1 = x then [] else [p]) ++ go x l r (d || decide (x ≤ p.1)))
def formsR (F : List schema.Form) (x : Int) (l : List field.Fd) : List schema.Form := go x l F (decide (l = []))
theorem go_true (x : Int) (l : List field.Fd) (F : List schema.Form) : go x l F true = F.filter (fun p => decide (p.1 ≠ x)) := by
  induction F with
  | nil => rfl
  | cons p r ih =>
    unfold go
    simp only [Bool.true_eq_false, false_and, if_false, List.nil_append, Bool.true_or, ih, List.filter_cons]
    by_cases h : p.1 = x <;> simp [h]
theorem filter_all {F : List schema.Form} {x : Int} (h : ∀ p ∈ F, p.1 ≠ x) : F.filter (fun p => decide (p.1 ≠ x)) = F := List.filter_eq_self.2 (fun p hp => by simpa using h p hp)
theorem go_set {F : List schema.Form} {p : schema.Form} (hs : Sorted F) (hp : p ∈ F) (l : List field.Fd) : go p.1 l F false = F.set (pos F p.1) (p.1, l) := by
  induction F with
  | nil => simp at hp
  | cons q r ih =>
    unfold go pos
    rcases List.mem_cons.1 hp with rfl | h
    · have : ∀ t ∈ r, t.1 ≠ p.1 := fun t ht => by have := hs.head t ht; omega
      simp [go_true]
      exact fun a b hm => this _ hm
    · have h1 := hs.head p h
      have h2 : ¬ p.1 ≤ q.1 := by omega
      have h3 : ¬ q.1 = p.1 := by omega
      simp [h1, h2, h3, ih hs.tail h]
theorem go_put {F : List schema.Form} {x : Int} (hs : Sorted F) (hx : x ∉ F.map (·.1)) (l : List field.Fd) : go x l F false = F.take (pos F x) ++ ([(x, l)] ++ F.drop (pos F x)) := by
  induction F with
  | nil => simp [go, pos]
  | cons q r ih =>
    simp only [List.map_cons, List.mem_cons, not_or] at hx
    unfold go pos
    by_cases h : q.1 < x
    · have h2 : ¬ x ≤ q.1 := by omega
      have h3 : ¬ q.1 = x := by omega
      simp [h, h2, h3, ih hs.tail hx.2]
    · have h2 : x ≤ q.1 := by omega
      have h3 : ¬ q.1 = x := fun e => hx.1 e.symm
      have : ∀ t ∈ r, t.1 ≠ x := fun t ht e => hx.2 (e ▸ List.mem_map_of_mem ht)
      simp [h, h2, h3, go_true]
      exact fun a b hm => this _ hm
theorem go_cut {F : List schema.Form} {p : schema.Form} (hs : Sorted F) (hp : p ∈ F) (l : List field.Fd) : go p.1 l F true = F.take (pos F p.1) ++ F.drop (pos F p.1 + 1) := by
  rw [go_true]
  induction F with
  | nil => simp at hp
  | cons q r ih =>
    unfold pos
    rcases List.mem_cons.1 hp with rfl | h
    · have : ∀ t ∈ r, t.1 ≠ p.1 := fun t ht => by have := hs.head t ht; omega
      rw [List.filter_cons]
      simp only [ne_eq, not_true_eq_false, decide_false, Bool.false_eq_true, if_false, Int.lt_irrefl, List.take_zero, List.nil_append, List.drop_succ_cons, List.drop_zero]
      exact filter_all this
    · have h1 := hs.head p h
      have h3 : ¬ q.1 = p.1 := by omega
      rw [List.filter_cons]
      simp only [ne_eq, h3, not_false_eq_true, decide_true, if_true, h1, List.take_succ_cons, List.cons_append, List.drop_succ_cons]
      have := ih hs.tail h
      simp only [ne_eq] at this
      rw [this]
/-- whether an operation names a field -/
def nf (op : Int) : Bool := decide (op ≠ 1 ∧ op ≠ 9 ∧ op ≠ 10)
def names (F : List schema.Form) (s : Sp) : Nat :=
  if s.op = 9 then (if (named F s.fm).isSome then 9 else 0) else match named F s.fm with
    | none => 8
    | some p => if nf s.op = true ∧ firstAt (ids p.2) s.fd < 0 then 8 else if (s.op = 1 ∧ 0 ≤ firstAt (ids p.2) s.f.id) ∨ ((s.op = 6 ∨ s.op = 8) ∧ 0 ≤ firstAt (ids p.2) s.tt) then 9
        else if (s.op = 1 ∧ (p.2.length : Int) < s.pl) ∨ (s.op = 7 ∧ (p.2.length : Int) ≤ s.pl) then 3 else 0
def types (f : field.Fd) (s : Sp) : List field.Fd × Bool :=
  if s.op = 2 then ([], decide (f.Has s.v)) else if s.op = 3 then ([s.f], decide (f.Wider s.f))
  else if s.op = 4 then ([⟨f.id, 1, low ⟨s, 0, [], false, 0, f⟩, high ⟨s, 0, [], false, 0, f⟩, 0⟩], decide (f.kind = 1 ∧ field.Fd.Right ⟨f.id, 1, low ⟨s, 0, [], false, 0, f⟩, high ⟨s, 0, [], false, 0, f⟩, 0⟩))
  else if s.op = 5 then ([⟨f.id, 3, 0, 0, s.a⟩], decide (f.kind = 3 ∧ f.most = s.t.length))
  else if s.op = 6 then ([⟨f.id, 1, 0, Int.tdiv f.hi s.a, 0⟩, ⟨s.tt, 1, 0, mn f.hi (s.a - 1), 0⟩], decide (f.kind = 1 ∧ f.lo = 0))
  else if s.op = 8 then ([{ f with id := s.tt }], true) else ([f], true)
def puts (L : List field.Fd) (k : Nat) : List field.Fd → List field.Fd
  | [] => L
  | f :: r => puts (putL L k f) (k + 1) r
end Go.Proofs.Ytiajpjkkopdmgaa.typing

namespace Go.Proofs.Ytiajpjkkopdmgaa.field
open Go.RowKit
set_option linter.unusedVariables false

theorem results_tmp4 {fn : Func} {t u v x : Tmp} (h : fn.results = #[.tmp t, .tmp u, .tmp v, .tmp x]) (tmps : Array Value) (P : Program) (w : World) :
    (results fn tmps).run P w = .ok (.tuple #[tmps.getD t undef, tmps.getD u undef, tmps.getD v undef, tmps.getD x undef]) w := by
  simp [results, h]
/-- a triple of numbers and a no -/
def SpanNo (w : World) (e : Ending) (w' : World) : Prop := (∃ a b c : Int, e = .returned (.tuple #[.int .i64 a, .int .i64 b, .int .i64 c, .bool false])) ∧ Below w.heap.size w w'
def SpanYes (a b c : Int) (w : World) (e : Ending) (w' : World) : Prop := e = .returned (.tuple #[.int .i64 a, .int .i64 b, .int .i64 c, .bool true]) ∧ Below w.heap.size w w'
theorem span_yes (f : Fd) (h : f.Right) (w : World) : Calls Try.prog 89 #[.agg #[.int .i64 f.id, .int .i64 f.kind, .int .i64 f.lo, .int .i64 f.hi, .int .i64 f.most]] w (SpanYes f.lo f.great f.long w) := by
  have HB := hid (belowF f w)
  obtain ⟨i, k, lo, hi, m⟩ := f
  obtain ⟨⟨h1, h2⟩, h⟩ := h
  simp only at h h1 h2 HB ⊢
  have g1 : i ≥ 0 := h1
  unfold SpanYes
  rcases h with ⟨rfl, h3, h4, h5, rfl⟩ | ⟨rfl, ⟨rfl, rfl⟩, rfl⟩ | ⟨rfl, ⟨rfl, rfl⟩, h3, h4⟩ | ⟨rfl, ⟨rfl, rfl⟩, h3, h4⟩
  · have g4 : lo ≥ -1099511627776 := h4
    rw [show Fd.great ⟨i, 1, lo, hi, 0⟩ = hi from rfl, show Fd.long ⟨i, 1, lo, hi, 0⟩ = 0 from rfl]
    go_enter Try.func89, Try.ntmps89
    go_wp2
    go_quiet (fail)
    go_wp2
    refine bodyPost_ret (results_tmp4 rfl _ _ _) rfl ?_
    exact ⟨rfl, HB.out _ (below_drewN (Below.refl _ _) _)⟩
  · rw [show Fd.great ⟨i, 2, 0, 0, 0⟩ = 1 from rfl, show Fd.long ⟨i, 2, 0, 0, 0⟩ = 0 from rfl]
    go_enter Try.func89, Try.ntmps89
    go_wp2
    go_quiet (fail)
    go_wp2
    refine bodyPost_ret (results_tmp4 rfl _ _ _) rfl ?_
    exact ⟨rfl, HB.out _ (below_drewN (Below.refl _ _) _)⟩
  · rw [show Fd.great ⟨i, 3, 0, 0, m⟩ = m - 1 from rfl, show Fd.long ⟨i, 3, 0, 0, m⟩ = 0 from rfl]
    have g3 : m ≥ 1 := h3
    go_enter Try.func89, Try.ntmps89
    go_wp2
    go_quiet (fail)
    go_wp2
    refine bodyPost_ret (results_tmp4 rfl _ _ _) rfl ?_
    exact ⟨rfl, HB.out _ (below_drewN (Below.refl _ _) _)⟩
  · rw [show Fd.great ⟨i, 4, 0, 0, m⟩ = 0 from rfl, show Fd.long ⟨i, 4, 0, 0, m⟩ = m from rfl]
    have g3 : m ≥ 0 := h3
    go_enter Try.func89, Try.ntmps89
    go_wp2
    go_quiet (fail)
    go_wp2
    refine bodyPost_ret (results_tmp4 rfl _ _ _) rfl ?_
    exact ⟨rfl, HB.out _ (below_drewN (Below.refl _ _) _)⟩
set_option maxHeartbeats 4000000 in
theorem span_no (f : Fd) (h : ¬ f.Right) (w : World) : Calls Try.prog 89 #[.agg #[.int .i64 f.id, .int .i64 f.kind, .int .i64 f.lo, .int .i64 f.hi, .int .i64 f.most]] w (SpanNo w) := by
  have HB := hid (belowF f w)
  obtain ⟨i, k, lo, hi, m⟩ := f
  replace h := Fd.wrong h
  simp only at h HB ⊢
  unfold SpanNo
  by_cases a0 : (0 ≤ i ∧ i ≤ 255)
  · have h : _ := Or.resolve_left h (by omega)
    obtain ⟨⟨h1, h2⟩, h⟩ := h
    have g1 : i ≥ 0 := h1
    clear a0
    rcases h with ⟨rfl, h⟩ | ⟨rfl, h⟩ | ⟨rfl, h⟩ | ⟨rfl, h⟩ | ⟨n1, n2, n3, n4⟩
    · by_cases c1 : lo ≥ -1099511627776
      · by_cases c2 : hi ≤ 1099511627776
        · by_cases c3 : lo ≤ hi
          · have hd : (m == 0) = false := by rw [beq_eq_false_iff_ne]; omega
            clear h
            go_enter Try.func89, Try.ntmps89
            go_wp2
            go_quiet (fail)
            go_wp2
            refine bodyPost_ret (results_tmp4 rfl _ _ _) rfl ?_
            exact ⟨⟨_, _, _, rfl⟩, HB.out _ (below_drewN (Below.refl _ _) _)⟩
          · have hd : decide (lo ≤ hi) = false := decide_eq_false c3
            clear h c3
            go_enter Try.func89, Try.ntmps89
            go_wp2
            go_quiet (fail)
            go_wp2
            refine bodyPost_ret (results_tmp4 rfl _ _ _) rfl ?_
            exact ⟨⟨_, _, _, rfl⟩, HB.out _ (below_drewN (Below.refl _ _) _)⟩
        · have hd : decide (hi ≤ 1099511627776) = false := decide_eq_false c2
          clear h c2
          go_enter Try.func89, Try.ntmps89
          go_wp2
          go_quiet (fail)
          go_wp2
          refine bodyPost_ret (results_tmp4 rfl _ _ _) rfl ?_
          exact ⟨⟨_, _, _, rfl⟩, HB.out _ (below_drewN (Below.refl _ _) _)⟩
      · have hd : decide (lo ≥ -1099511627776) = false := decide_eq_false c1
        clear h c1
        go_enter Try.func89, Try.ntmps89
        go_wp2
        go_quiet (fail)
        go_wp2
        refine bodyPost_ret (results_tmp4 rfl _ _ _) rfl ?_
        exact ⟨⟨_, _, _, rfl⟩, HB.out _ (below_drewN (Below.refl _ _) _)⟩
    · by_cases c1 : lo = 0
      · by_cases c2 : hi = 0
        · subst c1 c2
          have hd : (m == 0) = false := by rw [beq_eq_false_iff_ne]; omega
          clear h
          go_enter Try.func89, Try.ntmps89
          go_wp2
          go_quiet (fail)
          go_wp2
          refine bodyPost_ret (results_tmp4 rfl _ _ _) rfl ?_
          exact ⟨⟨_, _, _, rfl⟩, HB.out _ (below_drewN (Below.refl _ _) _)⟩
        · subst c1
          have hd : (hi == 0) = false := by rw [beq_eq_false_iff_ne]; omega
          clear h c2
          go_enter Try.func89, Try.ntmps89
          go_wp2
          go_quiet (fail)
          go_wp2
          refine bodyPost_ret (results_tmp4 rfl _ _ _) rfl ?_
          exact ⟨⟨_, _, _, rfl⟩, HB.out _ (below_drewN (Below.refl _ _) _)⟩
      · have hd : (lo == 0) = false := by rw [beq_eq_false_iff_ne]; omega
        clear h c1
        go_enter Try.func89, Try.ntmps89
        go_wp2
        go_quiet (fail)
        go_wp2
        refine bodyPost_ret (results_tmp4 rfl _ _ _) rfl ?_
        exact ⟨⟨_, _, _, rfl⟩, HB.out _ (below_drewN (Below.refl _ _) _)⟩
    · by_cases c1 : lo = 0
      · by_cases c2 : hi = 0
        · subst c1 c2
          by_cases c3 : m ≥ 1
          · have hd : decide (m ≤ 1000) = false := decide_eq_false (by omega)
            clear h
            go_enter Try.func89, Try.ntmps89
            go_wp2
            go_quiet (fail)
            go_wp2
            refine bodyPost_ret (results_tmp4 rfl _ _ _) rfl ?_
            exact ⟨⟨_, _, _, rfl⟩, HB.out _ (below_drewN (Below.refl _ _) _)⟩
          · have hd : decide (m ≥ 1) = false := decide_eq_false c3
            clear h c3
            go_enter Try.func89, Try.ntmps89
            go_wp2
            go_quiet (fail)
            go_wp2
            refine bodyPost_ret (results_tmp4 rfl _ _ _) rfl ?_
            exact ⟨⟨_, _, _, rfl⟩, HB.out _ (below_drewN (Below.refl _ _) _)⟩
        · subst c1
          have hd : (hi == 0) = false := by rw [beq_eq_false_iff_ne]; omega
          clear h c2
          go_enter Try.func89, Try.ntmps89
          go_wp2
          go_quiet (fail)
          go_wp2
          refine bodyPost_ret (results_tmp4 rfl _ _ _) rfl ?_
          exact ⟨⟨_, _, _, rfl⟩, HB.out _ (below_drewN (Below.refl _ _) _)⟩
      · have hd : (lo == 0) = false := by rw [beq_eq_false_iff_ne]; omega
        clear h c1
        go_enter Try.func89, Try.ntmps89
        go_wp2
        go_quiet (fail)
        go_wp2
        refine bodyPost_ret (results_tmp4 rfl _ _ _) rfl ?_
        exact ⟨⟨_, _, _, rfl⟩, HB.out _ (below_drewN (Below.refl _ _) _)⟩
    · by_cases c1 : lo = 0
      · by_cases c2 : hi = 0
        · subst c1 c2
          by_cases c3 : m ≥ 0
          · have hd : decide (m ≤ 32) = false := decide_eq_false (by omega)
            clear h
            go_enter Try.func89, Try.ntmps89
            go_wp2
            go_quiet (fail)
            go_wp2
            refine bodyPost_ret (results_tmp4 rfl _ _ _) rfl ?_
            exact ⟨⟨_, _, _, rfl⟩, HB.out _ (below_drewN (Below.refl _ _) _)⟩
          · have hd : decide (m ≥ 0) = false := decide_eq_false c3
            clear h c3
            go_enter Try.func89, Try.ntmps89
            go_wp2
            go_quiet (fail)
            go_wp2
            refine bodyPost_ret (results_tmp4 rfl _ _ _) rfl ?_
            exact ⟨⟨_, _, _, rfl⟩, HB.out _ (below_drewN (Below.refl _ _) _)⟩
        · subst c1
          have hd : (hi == 0) = false := by rw [beq_eq_false_iff_ne]; omega
          clear h c2
          go_enter Try.func89, Try.ntmps89
          go_wp2
          go_quiet (fail)
          go_wp2
          refine bodyPost_ret (results_tmp4 rfl _ _ _) rfl ?_
          exact ⟨⟨_, _, _, rfl⟩, HB.out _ (below_drewN (Below.refl _ _) _)⟩
      · have hd : (lo == 0) = false := by rw [beq_eq_false_iff_ne]; omega
        clear h c1
        go_enter Try.func89, Try.ntmps89
        go_wp2
        go_quiet (fail)
        go_wp2
        refine bodyPost_ret (results_tmp4 rfl _ _ _) rfl ?_
        exact ⟨⟨_, _, _, rfl⟩, HB.out _ (below_drewN (Below.refl _ _) _)⟩
    · have e1 : (k == 1) = false := by rw [beq_eq_false_iff_ne]; exact n1
      have e2 : (k == 2) = false := by rw [beq_eq_false_iff_ne]; exact n2
      have e3 : (k == 3) = false := by rw [beq_eq_false_iff_ne]; exact n3
      have e4 : (k == 4) = false := by rw [beq_eq_false_iff_ne]; exact n4
      clear n1 n2 n3 n4
      go_enter Try.func89, Try.ntmps89
      go_wp2
      go_wp2
      refine bodyPost_ret (results_tmp4 rfl _ _ _) rfl ?_
      exact ⟨⟨_, _, _, rfl⟩, HB.out _ (Below.refl _ _)⟩
  · clear h
    by_cases a1 : i ≥ 0
    · have hd : decide (i ≤ 255) = false := decide_eq_false (by omega)
      clear a0
      by_cases k1 : k = 1
      · subst k1
        go_enter Try.func89, Try.ntmps89
        go_wp2
        go_quiet (fail)
        go_wp2
        refine bodyPost_ret (results_tmp4 rfl _ _ _) rfl ?_
        exact ⟨⟨_, _, _, rfl⟩, HB.out _ (below_drewN (Below.refl _ _) _)⟩
      · by_cases k2 : k = 2
        · subst k2
          go_enter Try.func89, Try.ntmps89
          go_wp2
          go_quiet (fail)
          go_wp2
          refine bodyPost_ret (results_tmp4 rfl _ _ _) rfl ?_
          exact ⟨⟨_, _, _, rfl⟩, HB.out _ (below_drewN (Below.refl _ _) _)⟩
        · by_cases k3 : k = 3
          · subst k3
            go_enter Try.func89, Try.ntmps89
            go_wp2
            go_quiet (fail)
            go_wp2
            refine bodyPost_ret (results_tmp4 rfl _ _ _) rfl ?_
            exact ⟨⟨_, _, _, rfl⟩, HB.out _ (below_drewN (Below.refl _ _) _)⟩
          · by_cases k4 : k = 4
            · subst k4
              go_enter Try.func89, Try.ntmps89
              go_wp2
              go_quiet (fail)
              go_wp2
              refine bodyPost_ret (results_tmp4 rfl _ _ _) rfl ?_
              exact ⟨⟨_, _, _, rfl⟩, HB.out _ (below_drewN (Below.refl _ _) _)⟩
            · have e1 : (k == 1) = false := by rw [beq_eq_false_iff_ne]; exact k1
              have e2 : (k == 2) = false := by rw [beq_eq_false_iff_ne]; exact k2
              have e3 : (k == 3) = false := by rw [beq_eq_false_iff_ne]; exact k3
              have e4 : (k == 4) = false := by rw [beq_eq_false_iff_ne]; exact k4
              clear k1 k2 k3 k4
              go_enter Try.func89, Try.ntmps89
              go_wp2
              go_wp2
              refine bodyPost_ret (results_tmp4 rfl _ _ _) rfl ?_
              exact ⟨⟨_, _, _, rfl⟩, HB.out _ (Below.refl _ _)⟩
    · have hd : decide (i ≥ 0) = false := decide_eq_false a1
      clear a0 a1
      by_cases k1 : k = 1
      · subst k1
        go_enter Try.func89, Try.ntmps89
        go_wp2
        go_quiet (fail)
        go_wp2
        refine bodyPost_ret (results_tmp4 rfl _ _ _) rfl ?_
        exact ⟨⟨_, _, _, rfl⟩, HB.out _ (below_drewN (Below.refl _ _) _)⟩
      · by_cases k2 : k = 2
        · subst k2
          go_enter Try.func89, Try.ntmps89
          go_wp2
          go_quiet (fail)
          go_wp2
          refine bodyPost_ret (results_tmp4 rfl _ _ _) rfl ?_
          exact ⟨⟨_, _, _, rfl⟩, HB.out _ (below_drewN (Below.refl _ _) _)⟩
        · by_cases k3 : k = 3
          · subst k3
            go_enter Try.func89, Try.ntmps89
            go_wp2
            go_quiet (fail)
            go_wp2
            refine bodyPost_ret (results_tmp4 rfl _ _ _) rfl ?_
            exact ⟨⟨_, _, _, rfl⟩, HB.out _ (below_drewN (Below.refl _ _) _)⟩
          · by_cases k4 : k = 4
            · subst k4
              go_enter Try.func89, Try.ntmps89
              go_wp2
              go_quiet (fail)
              go_wp2
              refine bodyPost_ret (results_tmp4 rfl _ _ _) rfl ?_
              exact ⟨⟨_, _, _, rfl⟩, HB.out _ (below_drewN (Below.refl _ _) _)⟩
            · have e1 : (k == 1) = false := by rw [beq_eq_false_iff_ne]; exact k1
              have e2 : (k == 2) = false := by rw [beq_eq_false_iff_ne]; exact k2
              have e3 : (k == 3) = false := by rw [beq_eq_false_iff_ne]; exact k3
              have e4 : (k == 4) = false := by rw [beq_eq_false_iff_ne]; exact k4
              clear k1 k2 k3 k4
              go_enter Try.func89, Try.ntmps89
              go_wp2
              go_wp2
              refine bodyPost_ret (results_tmp4 rfl _ _ _) rfl ?_
              exact ⟨⟨_, _, _, rfl⟩, HB.out _ (Below.refl _ _)⟩
end Go.Proofs.Ytiajpjkkopdmgaa.field

namespace Go.Proofs.Ytiajpjkkopdmgaa.field
open Go.RowKit
set_option linter.unusedVariables false

theorem span_from (f : Fd) (h : f.Right) {w0 w : World} (hb : Below w0.heap.size w0 w) : Calls Try.prog 89 #[.agg #[.int .i64 f.id, .int .i64 f.kind, .int .i64 f.lo, .int .i64 f.hi, .int .i64 f.most]] w fun e w' => e = .returned (.tuple #[.int .i64 f.lo, .int .i64 f.great, .int .i64 f.long, .bool true]) ∧ Below w0.heap.size w0 w' :=
  (span_yes f h w).mono fun _ _ ⟨he, hw⟩ => ⟨he, hb.trans (hw.mono hb.size)⟩
theorem span_from_no (f : Fd) (h : ¬ f.Right) {w0 w : World} (hb : Below w0.heap.size w0 w) : Calls Try.prog 89 #[.agg #[.int .i64 f.id, .int .i64 f.kind, .int .i64 f.lo, .int .i64 f.hi, .int .i64 f.most]] w fun e w' => (∃ a b c : Int, e = .returned (.tuple #[.int .i64 a, .int .i64 b, .int .i64 c, .bool false])) ∧ Below w0.heap.size w0 w' :=
  (span_no f h w).mono fun _ _ ⟨he, hw⟩ => ⟨he, hb.trans (hw.mono hb.size)⟩
end Go.Proofs.Ytiajpjkkopdmgaa.field
