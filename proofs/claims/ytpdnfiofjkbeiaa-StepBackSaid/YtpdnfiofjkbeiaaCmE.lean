/- Contracts and lemmas that the claims of this seat share: SchemaLong, StepBox, Append, PenHold, Str, PenPut, PenEnd, PenPS, PenPutText, StepPen, SchemaFields, StepMem. Each says its own conditions. -/
import Derived.Test.YtpdnfiofjkbeiaaCmB
import Derived.Test.YtpdnfiofjkbeiaaCmD
import Derived.Test.YtpdnfiofjkbeiaaCmA
import Derived.Deep.Upon
import Derived.Maps.AppendAt
import Derived.Laws.BytesArg
import Derived.Laws.Concat
import Derived.Lib.ConvBytes
import Derived.Lib.Zigzag
import Derived.Laws.Cover3
import Derived.Test.YtpdnfiofjkbeiaaCmC
/- Contracts of layer 13 (schema): Long. No condition but at most 40 fields. -/
namespace Go.Proofs.Ytpdnfiofjkbeiaa.schema
open Go.RowKit
open Go.Proofs.Ytpdnfiofjkbeiaa.field (Gives newB gives_from size_any)
set_option linter.unusedVariables false

theorem own_low {w : World} {B B' e size n : Nat} {v : Value} {xs : List Value} (h : w.ownsRow B e size v n xs) (hB : B' ≤ B) : w.ownsRow B' e size v n xs := by
  refine ⟨h.1, ?_⟩
  rcases h.2 with h0 | ⟨g, cap, cur, hv, hb, hg⟩
  · exact .inl h0
  · exact .inr ⟨g, cap, cur, hv, Nat.le_trans hB hb, hg⟩
theorem below_out {w w' : World} {d : Obj} (hb : Below (w.alloc d).heap.size (w.alloc d) w') : Below w.heap.size w w' := ((Below.refl _ _).alloc (Nat.le_refl _) _).trans (hb.mono (by simp))
theorem fields_below {w w' : World} {B : Nat} {a : Option Addr} {L : List field.Fd} (h : field.Fds w a L) (hB : w.heap.size ≤ B) (hb : Below B w w') : field.Fds w' a L := h.below (hb.mono hB)
/-- the cells of field k in a later world -/
theorem field_at {w w' : World} {a : Option Addr} {L : List field.Fd} (h : field.Fds w a L) (hb : Below w.heap.size w w') {k : Nat} (hk : k < L.length) :
    ∃ b off p, a = some ⟨b, off, none⟩ ∧ b < w'.heap.size ∧ L[k]? = some p ∧ w'.cell? ⟨b, off + k * 5, none⟩ = some (.int .i64 p.id) ∧ w'.cell? ⟨b, off + k * 5 + 1, none⟩ = some (.int .i64 p.kind) ∧ w'.cell? ⟨b, off + k * 5 + 2, none⟩ = some (.int .i64 p.lo) ∧ w'.cell? ⟨b, off + k * 5 + 3, none⟩ = some (.int .i64 p.hi) ∧ w'.cell? ⟨b, off + k * 5 + 4, none⟩ = some (.int .i64 p.most) := (h.below hb).at hk
theorem long_any (i : Int) (a : Option Addr) (cap : Nat) (L : List field.Fd) (w : World) (h : field.Fds w a L) (hL : L.length ≤ 40) :
    Calls Try.prog 78 #[.agg #[.int .i64 i, .slice a L.length cap]] w (Gives (.int .i64 (size L : Int)) w) := by
  have HO := hid (fun (w' : World) hb => below_out (w := w) (d := .cells #[.int .i64 i, .slice a L.length cap] 60) (w' := w') hb)
  have HF := hid (h.below (newB w (.cells #[.int .i64 i, .slice a L.length cap] 60)))
  obtain ⟨S, hS⟩ : ∃ S : Nat, Hid (size L = S) := ⟨_, rfl⟩
  rw [hS.out]
  unfold Gives
  clear h
  go_enter Try.func78, Try.ntmps78
  go_wp2
  go_loopw [3, 9] (fun s n wr => ∃ k : Nat, k ≤ L.length ∧ s = .int .i64 (size (L.take k) : Int) ∧ n = .int .i64 (k : Int) ∧ Hid (Below (w.alloc (.cells #[.int .i64 i, .slice a L.length cap] 60)).heap.size (w.alloc (.cells #[.int .i64 i, .slice a L.length cap] 60)) wr)) (fun _ n _ => L.length - (intOf n).toNat)
  case atStart => exact ⟨0, Nat.zero_le _, rfl, rfl, hid (Below.refl _ _)⟩
  case round =>
    obtain ⟨k, hk, rfl, rfl, HB⟩ := hrel
    by_cases hlt : k < L.length
    · obtain ⟨b, off, p, rfl, hbl, hp, c0, c1, c2, c3, c4⟩ := field_at HF.out HB.out hlt
      have i1 : (k : Int) < L.length := by omega
      have HP := hid hp
      have HSZ := hid (size_succ hp)
      have hst := size_take L k
      have hst2 := field.wide_le
      have cs := fun w' => size_any p w'
      have hps := fd_size_le p
      clear hp hst2
      generalize size (L.take k) = s at *
      go_wp2_with (go_at_call 88; ((with_reducible refine (cs _).mono ?_); rintro e w2 ⟨rfl, hb2⟩))
      exact ⟨⟨k + 1, by omega, by rw [HSZ.out]; go_num, by go_num, hid (HB.out.trans ((below_out hb2).mono HB.out.size))⟩, by simp [intOf]; omega⟩
    · obtain rfl : k = L.length := by omega
      go_wp2
      go_ret
      exact ⟨ret_int (by rw [← hS.out, List.take_of_length_le (Nat.le_refl _)]), HO.out _ HB.out⟩
end Go.Proofs.Ytpdnfiofjkbeiaa.schema
/- A step that has just been boxed, and one in a variable. No condition. -/
namespace Go.Proofs.Ytpdnfiofjkbeiaa.step
open Go.RowKit
open Go.Proofs.Ytpdnfiofjkbeiaa.field (Gives newB gives_from)
open Go.Proofs.Ytpdnfiofjkbeiaa.schema (below_out)
set_option linter.unusedVariables false

theorem boxP (s : Sp) (ta : Option Addr) (tc : Nat) (la : Option Addr) (lc : Nat) (w w' : World) (hb : Below (w.alloc (.cells #[.int .i64 s.op, .int .i64 s.fm, .int .i64 s.fd, .int .i64 s.pl, .int .i64 s.tt, .int .i64 s.a, .int .i64 s.b, .int .i64 s.f.id, .int .i64 s.f.kind, .int .i64 s.f.lo, .int .i64 s.f.hi, .int .i64 s.f.most, .int .i64 s.v.n, .string s.v.s, .slice ta s.t.length tc, .slice la s.l.length lc] 29)).heap.size (w.alloc (.cells #[.int .i64 s.op, .int .i64 s.fm, .int .i64 s.fd, .int .i64 s.pl, .int .i64 s.tt, .int .i64 s.a, .int .i64 s.b, .int .i64 s.f.id, .int .i64 s.f.kind, .int .i64 s.f.lo, .int .i64 s.f.hi, .int .i64 s.f.most, .int .i64 s.v.n, .string s.v.s, .slice ta s.t.length tc, .slice la s.l.length lc] 29)) w') : (w'.cell? ⟨w.heap.size, 0, none⟩ = some (.int .i64 s.op) ∧ w'.cell? ⟨w.heap.size, 1, none⟩ = some (.int .i64 s.fm) ∧ w'.cell? ⟨w.heap.size, 2, none⟩ = some (.int .i64 s.fd) ∧ w'.cell? ⟨w.heap.size, 3, none⟩ = some (.int .i64 s.pl) ∧ w'.cell? ⟨w.heap.size, 4, none⟩ = some (.int .i64 s.tt) ∧ w'.cell? ⟨w.heap.size, 5, none⟩ = some (.int .i64 s.a) ∧ w'.cell? ⟨w.heap.size, 6, none⟩ = some (.int .i64 s.b) ∧ w'.cell? ⟨w.heap.size, 7, none⟩ = some (.int .i64 s.f.id) ∧ w'.cell? ⟨w.heap.size, 8, none⟩ = some (.int .i64 s.f.kind) ∧ w'.cell? ⟨w.heap.size, 9, none⟩ = some (.int .i64 s.f.lo) ∧ w'.cell? ⟨w.heap.size, 10, none⟩ = some (.int .i64 s.f.hi) ∧ w'.cell? ⟨w.heap.size, 11, none⟩ = some (.int .i64 s.f.most) ∧ w'.cell? ⟨w.heap.size, 12, none⟩ = some (.int .i64 s.v.n) ∧ w'.cell? ⟨w.heap.size, 13, none⟩ = some (.string s.v.s) ∧ w'.cell? ⟨w.heap.size, 14, none⟩ = some (.slice ta s.t.length tc) ∧ w'.cell? ⟨w.heap.size, 15, none⟩ = some (.slice la s.l.length lc)) ∧ Below w.heap.size w w' := by
  have hB := (Block.new w 29 [.int .i64 s.op, .int .i64 s.fm, .int .i64 s.fd, .int .i64 s.pl, .int .i64 s.tt, .int .i64 s.a, .int .i64 s.b, .int .i64 s.f.id, .int .i64 s.f.kind, .int .i64 s.f.lo, .int .i64 s.f.hi, .int .i64 s.f.most, .int .i64 s.v.n, .string s.v.s, .slice ta s.t.length tc, .slice la s.l.length lc]).later hb
  exact ⟨⟨hB.cell 0, hB.cell 1, hB.cell 2, hB.cell 3, hB.cell 4, hB.cell 5, hB.cell 6, hB.cell 7, hB.cell 8, hB.cell 9, hB.cell 10, hB.cell 11, hB.cell 12, hB.cell 13, hB.cell 14, hB.cell 15⟩, below_out hb⟩
/-- the two lists of a step, as they lie in memory -/
structure Lists (w : World) (s : Sp) (ta la : Option Addr) : Prop where
  t : Ins w ta s.t
  l : field.Fds w la s.l
  mt : s.t.length ≤ maxLen
  ml : s.l.length ≤ maxLen
theorem Lists.below {w w' : World} {s : Sp} {ta la : Option Addr} (h : Lists w s ta la) (hb : Below w.heap.size w w') : Lists w' s ta la := ⟨h.t.below hb, h.l.below hb, h.mt, h.ml⟩
theorem St.Good.lists {w : World} {p : St} (h : p.Good w) : Lists w p.s p.ta p.la := ⟨h.rt, h.rl, Nat.le_trans h.ct h.dt, Nat.le_trans h.cl h.dl⟩
/-- a call that gives v, from every later world -/
abbrev From (F : FuncId) (args : Array Value) (v : Value) (w0 : World) : Prop := ∀ w', Below w0.heap.size w0 w' → Calls Try.prog F args w' fun e w2 => e = .returned v ∧ Below w0.heap.size w0 w2
theorem from_all {F : FuncId} {args : Array Value} {v : Value} (w0 : World) (h : ∀ w', Calls Try.prog F args w' (Gives v w')) : From F args v w0 := fun w' hb => gives_from (h w') hb
theorem from_in {F : FuncId} {args : Array Value} {v : Value} (w0 : World) (h : ∀ w', Below w0.heap.size w0 w' → Calls Try.prog F args w' (Gives v w')) : From F args v w0 := fun w' hb => gives_from (h w' hb) hb
end Go.Proofs.Ytpdnfiofjkbeiaa.step
/- append onto a row of the call's own, from whatever slice. No condition. -/
namespace Go.Proofs.Ytpdnfiofjkbeiaa
open Go.RowKit
set_option linter.unusedVariables false

theorem ownsRow_heap {w w' : World} {base e size n : Nat} {v : Value} {xs : List Value} (h : w.ownsRow base e size v n xs) (hh : ∀ g, v.ownBlock = some g → w'.heap[g]? = w.heap[g]?) : w'.ownsRow base e size v n xs := by
  refine ⟨h.1, ?_⟩
  rcases h.2 with h0 | ⟨g, cap, cur, hv, h1, hg, h2, h3, h4, h5⟩
  · exact .inl h0
  · exact .inr ⟨g, cap, cur, hv, h1, (hh g (by rw [hv]; rfl)).trans hg, h2, h3, h4, h5⟩
theorem grown_refl (w : World) (row : Option Nat) : w.grownBy w row := ⟨rfl, rfl, rfl, Nat.le_refl _, fun _ _ _ => rfl⟩
theorem wpList_append_from {P : Program} {w : World} {ops : Array Oper} {rest : List Oper} {o : Oper} {a : Act} {Q : Exit → Act → World → Prop} (hgd : o.guard = none) (s x : Operand) (t : TypeId)
    (ho : o.op = .call { callee := .builtin .append, args := #[s, x], argTypes := #[t, t] })
    (base : Nat) (e : TypeId) (i : TypeInfo) (z : Value) (bytes : Nat) (ht : P.underlying t = some (.slice e)) (hi : P.info? e = some i) (hz : i.zero = some z)
    (hsize : i.size = 1) (hby : i.bytes = bytes) (hzs : z.cells.size = 1)
    (v : Value) (n : Nat) (xs : List Value) (hs : a.eval s = v) (hown : w.ownsRow base e 1 v n xs)
    (ap : Option Addr) (m c : Nat) (news : List Value) (hx : a.eval x = .slice ap m c) (hl : news.length = m)
    (hnews : m = 0 ∨ ∃ ad, ap = some ad ∧ ∀ j u, news[j]? = some u → w.cell? (ad.add j) = some u) (h1 : ∀ u ∈ news, u.oneCell' = true)
    (h63 : n + m ≤ maxLen) (hbytes : (n + m) * bytes ≤ 140737488355328) (hbase : base ≤ w.heap.size)
    (h : ∀ v' w', w'.ownsRow base e 1 v' (n + m) (xs ++ news) → w.grownBy w' v.ownBlock → wpList P ops Q rest (a.put o.dst v') w') : wpList P ops Q (o :: rest) a w := by
  by_cases hm : m = 0
  · subst hm
    obtain rfl : news = [] := List.eq_nil_of_length_eq_zero hl
    obtain ⟨bp, cp, rfl, hcp⟩ := ownsRow_slice hown
    have hsrc : Src P i.size t (.slice ap 0 c) 0 [] w := by
      cases ap with
      | none => exact Src.ofNil w ht c
      | some ad => exact Src.ofSlice w ht ad 0 c [] (by simp) (by simp) (by simp)
    have hrun := run_append_nothing w t t o.type e i ht hi bp n cp hcp _ hsrc
    refine wpList_plain hgd fun K hK => ?_
    unfold Oper.wp
    simp [execOp, ho, resolve, invoke, builtin, hs, hx, hrun, Result.andThen]
    exact hK _ _ (h _ w (by simpa using hown) (grown_refl _ _))
  · rcases hnews with h0 | ⟨ad, rfl, hc⟩
    · exact absurd h0 hm
    · exact wpList_append_own w hgd s x t ho base e i z 1 bytes ht hi hz hsize hby hzs (by decide) v n xs hs hown ad m c news hx (by omega) hc h1 h63 hbytes hbase (fun v' w' h2 h3 _ => h v' w' h2 h3)
end Go.Proofs.Ytpdnfiofjkbeiaa
/- A pen and an eye in the memory: what their blocks hold, and what a call may turn. No condition. -/
namespace Go.Proofs.Ytpdnfiofjkbeiaa.pen
open Go.RowKit
set_option linter.unusedVariables false

def u8v (xs : List Nat) : List Value := xs.map fun x : Nat => Value.int .u8 (x : Int)
theorem u8v_length (xs : List Nat) : (u8v xs).length = xs.length := by simp [u8v]
theorem u8v_one (xs : List Nat) : ∀ v ∈ u8v xs, v.oneCell' = true := by intro v hv; obtain ⟨x, _, rfl⟩ := List.mem_map.1 hv; rfl
theorem u8v_append (xs ys : List Nat) : u8v (xs ++ ys) = u8v xs ++ u8v ys := by simp [u8v]
theorem u8v_get (xs : List Nat) (i : Nat) (h : i < xs.length) : (u8v xs)[i]? = some (.int .u8 ((xs.getD i 0 : Nat) : Int)) := by
  simp only [u8v, List.getElem?_map, List.getD_eq_getElem?_getD, List.getElem?_eq_getElem h]; rfl

/-- append onto a row of the call's own, from whatever slice, and where the new row lies -/
theorem wpList_append_at_from {P : Program} {w : World} {ops : Array Oper} {rest : List Oper} {o : Oper} {a : Act} {Q : Exit → Act → World → Prop} (hgd : o.guard = none) (s x : Operand) (t : TypeId)
    (ho : o.op = .call { callee := .builtin .append, args := #[s, x], argTypes := #[t, t] })
    (base : Nat) (e : TypeId) (i : TypeInfo) (z : Value) (bytes : Nat) (ht : P.underlying t = some (.slice e)) (hi : P.info? e = some i) (hz : i.zero = some z)
    (hsize : i.size = 1) (hby : i.bytes = bytes) (hzs : z.cells.size = 1)
    (v : Value) (n : Nat) (xs : List Value) (hs : a.eval s = v) (hown : w.ownsRow base e 1 v n xs)
    (ap : Option Addr) (m c : Nat) (news : List Value) (hx : a.eval x = .slice ap m c) (hl : news.length = m)
    (hnews : m = 0 ∨ ∃ ad, ap = some ad ∧ ∀ j u, news[j]? = some u → w.cell? (ad.add j) = some u) (h1 : ∀ u ∈ news, u.oneCell' = true)
    (h63 : n + m ≤ maxLen) (hbytes : (n + m) * bytes ≤ 140737488355328) (hbase : base ≤ w.heap.size)
    (h : ∀ v' w', w'.ownsRow base e 1 v' (n + m) (xs ++ news) → w.grownBy w' v.ownBlock → (v'.ownBlock = v.ownBlock ∨ v'.ownBlock = some w.heap.size) → wpList P ops Q rest (a.put o.dst v') w') : wpList P ops Q (o :: rest) a w := by
  by_cases hm : m = 0
  · subst hm
    obtain rfl : news = [] := List.eq_nil_of_length_eq_zero hl
    obtain ⟨bp, cp, rfl, hcp⟩ := ownsRow_slice hown
    have hsrc : Src P i.size t (.slice ap 0 c) 0 [] w := by
      cases ap with
      | none => exact Src.ofNil w ht c
      | some ad => exact Src.ofSlice w ht ad 0 c [] (by simp) (by simp) (by simp)
    have hrun := run_append_nothing w t t o.type e i ht hi bp n cp hcp _ hsrc
    refine wpList_plain hgd fun K hK => ?_
    unfold Oper.wp
    simp [execOp, ho, resolve, invoke, builtin, hs, hx, hrun, Result.andThen]
    exact hK _ _ (h _ w (by simpa using hown) (grown_refl _ _) (.inl rfl))
  · rcases hnews with h0 | ⟨ad, rfl, hc⟩
    · exact absurd h0 hm
    · exact wpList_append_own_at w hgd s x t ho base e i z 1 bytes ht hi hz hsize hby hzs (by decide) v n xs hs hown ad m c news hx (by omega) hc h1 h63 hbytes hbase (fun v' w' h2 h3 _ h5 => h v' w' h2 h3 h5)

theorem Reads.news {w : World} {a : Option Addr} {len : Nat} {xs : List Nat} (h : Reads .u8 w a len xs) : len = 0 ∨ ∃ ad, a = some ad ∧ ∀ j u, (u8v xs)[j]? = some u → w.cell? (ad.add j) = some u := by
  rcases h.2 with h0 | ⟨b, off, ha, _, hc⟩
  · exact .inl h0
  · refine .inr ⟨_, ha, fun j u hu => ?_⟩
    have hj : j < xs.length := by have := (List.getElem?_eq_some_iff.1 hu).1; rwa [u8v_length] at this
    rw [u8v_get xs j hj] at hu
    cases hu
    rw [Addr.add_lit]
    exact hc j (by rw [← h.1]; exact hj)

/-- but for block b and the row v, which may have moved, what there was stands -/
structure Turns (w : World) (b : Nat) (v : Value) (w' : World) (v' : Value) : Prop where
  os : w'.os = w.os
  tape : w'.tape = w.tape
  output : w'.output = w.output
  size : w.heap.size ≤ w'.heap.size
  block : ∀ k, k < w.heap.size → k ≠ b → some k ≠ v.ownBlock → w'.heap[k]? = w.heap[k]?
  moved : v'.ownBlock = v.ownBlock ∨ ∃ g, v'.ownBlock = some g ∧ w.heap.size ≤ g
theorem Turns.refl (w : World) (b : Nat) (v : Value) : Turns w b v w v := ⟨rfl, rfl, rfl, Nat.le_refl _, fun _ _ _ _ => rfl, .inl rfl⟩
theorem Turns.trans {w w1 w2 : World} {b : Nat} {v v1 v2 : Value} (h : Turns w b v w1 v1) (k : Turns w1 b v1 w2 v2) : Turns w b v w2 v2 := by
  refine ⟨k.os.trans h.os, k.tape.trans h.tape, k.output.trans h.output, Nat.le_trans h.size k.size, fun j h1 h2 h3 => ?_, ?_⟩
  · refine (k.block j (Nat.lt_of_lt_of_le h1 h.size) h2 ?_).trans (h.block j h1 h2 h3)
    rcases h.moved with e | ⟨g, e, hg⟩
    · rw [e]; exact h3
    · rw [e]; intro he; cases he; omega
  · rcases k.moved with e | ⟨g, e, hg⟩
    · rw [e]; exact h.moved
    · exact .inr ⟨g, e, Nat.le_trans h.size hg⟩
theorem Turns.below {w w' : World} {b B : Nat} {v v' : Value} (h : Turns w b v w' v') (hB : B ≤ w.heap.size) (hb : B ≤ b) (hv : ∀ g, v.ownBlock = some g → B ≤ g) : Below B w w' :=
  ⟨h.os, h.tape, h.output, h.size, fun k hk => h.block k (by omega) (by omega) (fun e => by have := hv k e.symm; omega)⟩
theorem turns_later {w w' : World} {b : Nat} {v : Value} (h : Below w.heap.size w w') : Turns w b v w' v := ⟨h.os, h.tape, h.output, h.size, fun k hk _ _ => h.block k hk, .inl rfl⟩
/-- the pen at block b: its row v holds the bytes xs; its error is bad -/
def PenAt (lo b : Nat) (v : Value) (xs : List Nat) (bad : Int) (w : World) : Prop :=
  Block w b 88 [v, .int .i64 bad] ∧ v.ownBlock ≠ some b ∧ w.ownsRow lo 5 1 v xs.length (u8v xs)
theorem PenAt.row {lo b : Nat} {v : Value} {xs : List Nat} {bad : Int} {w : World} (h : PenAt lo b v xs bad w) : w.cell? ⟨b, 0, none⟩ = some v := by rw [h.1.cell]; rfl
theorem PenAt.err {lo b : Nat} {v : Value} {xs : List Nat} {bad : Int} {w : World} (h : PenAt lo b v xs bad w) : w.cell? ⟨b, 1, none⟩ = some (.int .i64 bad) := by rw [h.1.cell]; rfl
theorem PenAt.lo {lo b : Nat} {v : Value} {xs : List Nat} {bad : Int} {w : World} (h : PenAt lo b v xs bad w) : ∀ g, v.ownBlock = some g → lo ≤ g ∧ g < w.heap.size := World.ownsRow.lt h.2.2
theorem PenAt.later {lo b : Nat} {v : Value} {xs : List Nat} {bad : Int} {w w' : World} (h : PenAt lo b v xs bad w) (hb : Below w.heap.size w w') : PenAt lo b v xs bad w' :=
  ⟨h.1.later hb, h.2.1, ownsRow_heap h.2.2 fun g hg => hb.block g (h.lo g hg).2⟩
theorem PenAt.drewN {lo b : Nat} {v : Value} {xs : List Nat} {bad : Int} {w : World} (h : PenAt lo b v xs bad w) (n : Nat) : PenAt lo b v xs bad (w.drewN n) := h
/-- behind an append and the store of the new row -/
theorem PenAt.stored {lo b : Nat} {v v' : Value} {xs ys : List Nat} {bad : Int} {w w1 : World} (h : PenAt lo b v xs bad w) (hg : w.grownBy w1 v.ownBlock) (ha : v'.ownBlock = v.ownBlock ∨ v'.ownBlock = some w.heap.size)
    (ho : w1.ownsRow lo 5 1 v' (xs.length + ys.length) (u8v xs ++ u8v ys)) :
    PenAt lo b v' (xs ++ ys) bad (w1.setCell ⟨b, 0, none⟩ v') ∧ Turns w b v (w1.setCell ⟨b, 0, none⟩ v') v' := by
  have hb : Block w1 b 88 [v, .int .i64 bad] := (hg.block b h.1.lt (fun e => h.2.1 e.symm)).trans h.1
  have hne : v'.ownBlock ≠ some b := by
    rcases ha with e | e
    · rw [e]; exact h.2.1
    · rw [e]; intro he; cases he; exact absurd h.1.lt (Nat.lt_irrefl _)
  refine ⟨⟨hb.setCell 0 v', hne, ?_⟩, hg.os, hg.tape, hg.output, by simpa using hg.size, fun k h1 h2 h3 => ?_, ?_⟩
  · rw [List.length_append, u8v_append]
    exact ownsRow_heap ho fun g hg' => Below.heap_setCell w1 ⟨b, 0, none⟩ v' g (by rintro rfl; exact hne hg')
  · exact (Below.heap_setCell w1 ⟨b, 0, none⟩ v' k h2).trans (hg.block k h1 h3)
  · rcases ha with e | e
    · exact .inl e
    · exact .inr ⟨_, e, Nat.le_refl _⟩
theorem PenAt.fail {lo b : Nat} {v : Value} {xs : List Nat} {bad : Int} {w : World} (h : PenAt lo b v xs bad w) (z : Int) :
    PenAt lo b v xs z (w.setCell ⟨b, 1, none⟩ (.int .i64 z)) ∧ Turns w b v (w.setCell ⟨b, 1, none⟩ (.int .i64 z)) v := by
  refine ⟨⟨h.1.setCell 1 _, h.2.1, ownsRow_heap h.2.2 fun g hg' => Below.heap_setCell w ⟨b, 1, none⟩ _ g (by rintro rfl; exact h.2.1 hg')⟩, rfl, rfl, rfl, by simp, fun k h1 h2 h3 => Below.heap_setCell w ⟨b, 1, none⟩ _ k h2, .inl rfl⟩
/-- a function without results ends -/
theorem ret0 {P : Program} {fn : Func} {R : Ending → World → Prop} {a : Act} {w : World} (h : fn.results = #[]) (hd : a.defers = []) (hR : R (.returned (.tuple #[])) w) : bodyPost P fn R .normal a w :=
  ⟨hd, .tuple #[], by simp [results, h], hR⟩
theorem info5 : (Try.prog.info? 5).map (fun i => (i.zero, i.size, i.bytes)) = some (some (.int .u8 0), 1, 1) := by kernel_rfl
theorem Reads.new (w : World) (t : TypeId) (xs : List Nat) : Reads .u8 (w.alloc (.cells (u8v xs).toArray t)) (some ⟨w.heap.size, 0, none⟩) xs.length xs :=
  (Block.new w t (u8v xs)).reads 0 xs (fun i hi => by rw [Nat.zero_add]; exact u8v_get xs i hi) _ rfl

/-- the call writes ys at the end of the pen's row -/
def Wrote (lo b : Nat) (v : Value) (xs ys : List Nat) (bad : Int) (w : World) (e : Ending) (w' : World) : Prop :=
  e = .returned (.tuple #[]) ∧ ∃ v', PenAt lo b v' (xs ++ ys) bad w' ∧ Turns w b v w' v'

theorem put_any (lo b : Nat) (v : Value) (xs : List Nat) (bad : Int) (w : World) (h : PenAt lo b v xs bad w) (hlo : lo ≤ w.heap.size) (a : Option Addr) (m c : Nat) (ys : List Nat) (hr : Reads .u8 w a m ys) (hn : xs.length + m ≤ 140737488355328) :
    Calls Try.prog 80 #[.pointer (some ⟨b, 0, none⟩), .slice a m c] w (Wrote lo b v xs ys bad w) := by
  obtain ⟨i0, hi, hz0, hz1, hz2⟩ := info_parts info5
  have c0 := h.row
  have f0 := h.1.frozen 0
  have HP := hid h
  have HU := hid (u8v_length ys)
  have HN := hid (Reads.news hr)
  have HM : Hid (ys.length = m) := hr.1
  have HN2 : Hid (xs.length + m ≤ maxLen) := by show _ ≤ _; unfold maxLen; omega
  have HN3 : Hid ((xs.length + m) * 1 ≤ 140737488355328) := by show _ ≤ _; omega
  clear h hr hn
  go_enter Try.func80, Try.ntmps80
  go_wp2_with (at_builtin; refine wpList_append_at_from rfl _ _ 35 rfl lo 5 i0 (.int .u8 0) 1 Try.underlying35 hi hz0 hz1 hz2 rfl v xs.length (u8v xs) rfl HP.out.2.2 a m c (u8v ys) rfl (by rw [HU.out, HM.out]) HN.out (u8v_one ys) HN2.out HN3.out hlo ?_)
  intro v' w1 ho hg ha
  obtain ⟨a', c', rfl, _⟩ := ownsRow_slice ho
  have hs := HP.out.stored (ys := ys) hg ha (by rw [HM.out]; exact ho)
  have hb : Block w1 b 88 [v, .int .i64 bad] := (hg.block b HP.out.1.lt (fun e => HP.out.2.1 e.symm)).trans HP.out.1
  have c1 : w1.cell? ⟨b, 0, none⟩ = some v := by rw [hb.cell]; rfl
  have f1 := hb.frozen 0
  have HS := hid hs
  clear hs hb ho hg ha
  go_wp2
  exact bodyPost_ret (v := .tuple #[]) (by kernel_rfl) rfl ⟨rfl, _, HS.out.1, HS.out.2⟩
theorem put_nil (u : Value) (w : World) : Calls Try.prog 80 #[.pointer none, u] w (Quiet (.tuple #[]) w) := by
  go_enter Try.func80, Try.ntmps80
  go_wp2
  exact bodyPost_ret (v := .tuple #[]) (by kernel_rfl) rfl ⟨rfl, 0, rfl⟩
end Go.Proofs.Ytpdnfiofjkbeiaa.pen
/- A list of bytes as a string. No condition. -/
namespace Go.Proofs.Ytpdnfiofjkbeiaa.texts
open Go.RowKit

/-- the string of a list of bytes -/
def strL (l : List UInt8) : ByteArray := ⟨l.toArray⟩
theorem strL_data (l : List UInt8) : (strL l).data.toList = l := rfl
theorem strL_size (l : List UInt8) : (strL l).size = l.length := by simp [strL, ByteArray.size]
theorem strL_app (a b : List UInt8) : strL a ++ strL b = strL (a ++ b) := ByteArray.mk_append_mk a b
theorem strL_of (s : ByteArray) : strL s.data.toList = s := by cases s; simp [strL]
theorem strL_inj {a b : List UInt8} (h : strL a = strL b) : a = b := by rw [← strL_data a, h, strL_data]
theorem strL_toList (l : List UInt8) : (strL l).toList = l := ByteArray.toList_mk l
end Go.Proofs.Ytpdnfiofjkbeiaa.texts
/- Contracts of the pen's calls that write: varint, Count, Num. No condition but that the row stays shorter than 2^47 bytes. -/
namespace Go.Proofs.Ytpdnfiofjkbeiaa.pen
open Go.RowKit Go.Proofs.Ytpdnfiofjkbeiaa.texts
set_option linter.unusedVariables false

theorem Wrote.more {lo b : Nat} {v v1 : Value} {xs ys zs : List Nat} {bad : Int} {w w1 w' : World} {e : Ending} (ht : Turns w b v w1 v1) (h : Wrote lo b v1 (xs ++ ys) zs bad w1 e w') : Wrote lo b v xs (ys ++ zs) bad w e w' := by
  obtain ⟨he, v', hp, h2⟩ := h
  exact ⟨he, v', by rw [← List.append_assoc]; exact hp, ht.trans h2⟩
/-- put of a row that was just built -/
theorem put_new (lo b : Nat) (v : Value) (xs : List Nat) (bad : Int) (w : World) (h : PenAt lo b v xs bad w) (hlo : lo ≤ w.heap.size) (ys : List Nat) (hn : xs.length + ys.length ≤ 140737488355328) (vals : Array Value) (hv : vals = (u8v ys).toArray) (m : Nat) (hm : m = ys.length) :
    Calls Try.prog 80 #[.pointer (some ⟨b, 0, none⟩), .slice (some ⟨w.heap.size, 0, none⟩) m m] (w.alloc (.cells vals 5)) (Wrote lo b v xs ys bad w) := by
  subst hv hm
  have hb : Below w.heap.size w (w.alloc (.cells (u8v ys).toArray 5)) := (Below.refl _ _).alloc (Nat.le_refl _) _
  refine (put_any lo b v xs bad _ (h.later hb) (Nat.le_trans hlo hb.size) _ _ _ ys (Reads.new w _ ys) hn).mono ?_
  rintro e w' ⟨he, v', hp, ht⟩
  exact ⟨he, v', hp, (turns_later hb).trans ht⟩

set_option maxRecDepth 8000 in
set_option maxHeartbeats 800000 in
theorem varint_any (lo b : Nat) (v : Value) (xs : List Nat) (bad : Int) (w : World) (h : PenAt lo b v xs bad w) (hlo : lo ≤ w.heap.size) (x : Nat) (hx : x < 18446744073709551616) (hn : xs.length + 10 ≤ 140737488355328) :
    Calls Try.prog 55 #[.pointer (some ⟨b, 0, none⟩), .int .u64 (x : Int)] w (Wrote lo b v xs (vb x) bad w) := by
  have hlen := vb_ten x hx
  obtain ⟨X, hX⟩ : ∃ X, Hid (vb x = X) := ⟨_, rfl⟩
  rw [hX.out] at hlen ⊢
  have HX : Hid (([] : List Nat) ++ vb x = X) := hX.out
  have HP := hid h
  clear h
  go_enter Try.func55, Try.ntmps55
  go_wp2
  go_loopw [1] (fun i wr => ∃ (y : Nat) (ys : List Nat) (v' : Value), i = .int .u64 (y : Int) ∧ y < 18446744073709551616 ∧ PenAt lo b v' (xs ++ ys) bad wr ∧ Turns w b v wr v' ∧ Hid (ys ++ vb y = X))
    (fun i _ => (intOf i).toNat)
  case atStart => exact ⟨x, [], v, rfl, hx, by rw [List.append_nil]; exact HP.out, Turns.refl _ _ _, HX⟩
  case round =>
    obtain ⟨y, ys, v', rfl, hy, hp, ht, he⟩ := hrel
    have hlo' := Nat.le_trans hlo ht.size
    have HT := hid ht
    have hl : ys.length + (vb y).length = X.length := by rw [← he.out, List.length_append]
    have hpos := vb_pos y
    by_cases h128 : y < 128
    · have hi : ((y : Int) < 128) := by omega
      have hE : Hid (ys ++ [y] = X) := by show _ = _; rw [← he.out, vb_small h128]
      have c1 := put_new lo b v' (xs ++ ys) bad wr hp hlo' [y] (by simp; omega) #[.int .u8 (y : Int)] rfl 1 rfl
      clear hp ht hl hpos
      go_wp2_with (go_at_call 80; (with_reducible refine c1.mono ?_); rintro e w2 ⟨rfl, v2, hp2, ht2⟩)
      exact ret0 rfl rfl ⟨rfl, v2, by rw [← hE.out, ← List.append_assoc]; exact hp2, HT.out.trans ht2⟩
    · have hi : ¬ ((y : Int) < 128) := by omega
      have hE : Hid ((ys ++ [128 + y % 128]) ++ vb (y / 128) = X) := by show _ = _; rw [← he.out, vb_big h128]; simp
      have c1 : ∀ z : Int, z = ((128 + y % 128 : Nat) : Int) → Calls Try.prog 80 #[.pointer (some ⟨b, 0, none⟩), .slice (some ⟨wr.heap.size, 0, none⟩) 1 1] (wr.alloc (.cells #[.int .u8 z] 5)) (Wrote lo b v' (xs ++ ys) [128 + y % 128] bad wr) := by
        rintro z rfl
        exact put_new lo b v' (xs ++ ys) bad wr hp hlo' [128 + y % 128] (by simp; omega) _ rfl 1 rfl
      clear hp ht hl hpos he
      go_wp2_with (go_at_call 80; (with_reducible refine (c1 _ (by omega)).mono ?_); rintro e w2 ⟨rfl, v2, hp2, ht2⟩)
      exact ⟨⟨y / 128, ys ++ [128 + y % 128], v2, by go_num, by omega, by rw [← List.append_assoc]; exact hp2, HT.out.trans ht2, hE⟩, by simp [intOf]; omega⟩

theorem i64_not (n : Int) (h1 : -9223372036854775808 ≤ n) (h2 : n ≤ 9223372036854775807) : bits .xor .i64 (-1) n = -n - 1 := by
  show IntKind.i64.wrap ((BitVec.ofInt 64 (-1) ^^^ BitVec.ofInt 64 n).toNat : Int) = _
  have e1 : (BitVec.ofInt 64 (-1)).toNat = 2 ^ 64 - 1 := by decide
  rw [BitVec.toNat_xor, e1, Lib.xor_ones64 _ (BitVec.isLt _), BitVec.toNat_ofInt, IntKind.wrap_i64]
  omega
theorem i64_low (n : Int) (j : Nat) (hj : j ≤ 32) (m : Int) (hm : (BitVec.ofInt 64 m).toNat = 2 ^ j - 1) : bits .and .i64 n m = n % (2 ^ j : Nat) := by
  show IntKind.i64.wrap ((BitVec.ofInt 64 n &&& BitVec.ofInt 64 m).toNat : Int) = _
  have hp : 2 ^ j ∣ 2 ^ 64 := Nat.pow_dvd_pow 2 (by omega)
  have hl : 2 ^ j ≤ 2 ^ 32 := Nat.pow_le_pow_right (by decide) hj
  have h0 : 0 < 2 ^ j := Nat.two_pow_pos j
  rw [BitVec.toNat_and, hm, Nat.and_two_pow_sub_one_eq_mod, BitVec.toNat_ofInt, IntKind.wrap_i64]
  have e : ((n % ((2 ^ 64 : Nat) : Int)).toNat % 2 ^ j : Nat) = (n % ((2 ^ j : Nat) : Int)) := by
    rw [Int.natCast_emod, Int.toNat_of_nonneg (Int.emod_nonneg _ (by decide)), Int.emod_emod_of_dvd _ (by exact_mod_cast hp)]
  rw [e]
  have a1 := Int.emod_nonneg n (show ((2 ^ j : Nat) : Int) ≠ 0 by omega)
  have a2 := Int.emod_lt_of_pos n (show (0 : Int) < ((2 ^ j : Nat) : Int) by omega)
  generalize n % ((2 ^ j : Nat) : Int) = q at *
  omega
theorem i64_low8 (n : Int) : bits .and .i64 n 255 = n % 256 := i64_low n 8 (by decide) 255 (by decide)
theorem i64_low32 (n : Int) : bits .and .i64 n 4294967295 = n % 4294967296 := i64_low n 32 (by decide) 4294967295 (by decide)
theorem zigzag_any (n : Int) (h1 : -9223372036854775808 ≤ n) (h2 : n ≤ 9223372036854775807) (w : World) : Calls Try.prog 81 #[.int .i64 n] w (Quiet (.int .u64 (zig n : Int)) w) := by
  have hn := i64_not n h1 h2
  have hsg : IntKind.i64.signed = true := rfl
  by_cases h0 : n < 0
  · have hz : (zig n : Int) = 2 * (-n - 1) + 1 := by unfold zig; rw [if_pos h0]; omega
    rw [hz]
    go_enter Try.func81, Try.ntmps81
    go_wp2
    go_ret
    exact ⟨rfl, 0, rfl⟩
  · have hz : (zig n : Int) = 2 * n := by unfold zig; rw [if_neg h0]; omega
    rw [hz]
    go_enter Try.func81, Try.ntmps81
    go_wp2
    go_ret
    exact ⟨rfl, 0, rfl⟩

theorem count_any (lo b : Nat) (v : Value) (xs : List Nat) (bad : Int) (w : World) (h : PenAt lo b v xs bad w) (hlo : lo ≤ w.heap.size) (n : Nat) (hn63 : n ≤ 9223372036854775807) (hn : xs.length + 10 ≤ 140737488355328) :
    Calls Try.prog 34 #[.pointer (some ⟨b, 0, none⟩), .int .i64 (n : Int)] w (Wrote lo b v xs (vb n) bad w) := by
  have c1 := varint_any lo b v xs bad w h hlo n (by omega) hn
  obtain ⟨X, hX⟩ : ∃ X, Hid (vb n = X) := ⟨_, rfl⟩
  rw [hX.out] at c1 ⊢
  clear h
  go_enter Try.func34, Try.ntmps34
  go_wp2_with (go_at_call 55; (with_reducible refine c1.mono ?_); rintro e w2 ⟨rfl, v2, hp2, ht2⟩)
  exact ret0 rfl rfl ⟨rfl, v2, hp2, ht2⟩
theorem count_neg (lo b : Nat) (v : Value) (xs : List Nat) (bad : Int) (w : World) (h : PenAt lo b v xs bad w) (n : Int) (h1 : -9223372036854775808 ≤ n) (hn : n < 0) :
    Calls Try.prog 34 #[.pointer (some ⟨b, 0, none⟩), .int .i64 n] w fun e w' => e = .returned (.tuple #[]) ∧ PenAt lo b v xs 2 w' ∧ Turns w b v w' v := by
  have c1 := h.err
  have f1 := h.1.frozen 1
  have hf := hid (h.fail 2)
  clear h
  go_enter Try.func34, Try.ntmps34
  go_wp2
  exact ret0 rfl rfl ⟨rfl, hf.out.1, hf.out.2⟩
theorem num_any (lo b : Nat) (v : Value) (xs : List Nat) (bad : Int) (w : World) (h : PenAt lo b v xs bad w) (hlo : lo ≤ w.heap.size) (n : Int) (h1 : -9223372036854775808 ≤ n) (h2 : n ≤ 9223372036854775807) (hn : xs.length + 10 ≤ 140737488355328) :
    Calls Try.prog 56 #[.pointer (some ⟨b, 0, none⟩), .int .i64 n] w (Wrote lo b v xs (vb (zig n)) bad w) := by
  have c0 := zigzag_any n h1 h2 w
  have c1 : ∀ m, Calls Try.prog 55 #[.pointer (some ⟨b, 0, none⟩), .int .u64 (zig n : Int)] (w.drewN m) (Wrote lo b v xs (vb (zig n)) bad w) := fun m =>
    (varint_any lo b v xs bad (w.drewN m) h hlo (zig n) (zig_lt n h1 h2) hn).mono fun e w' ⟨he, v', hp, ht⟩ => ⟨he, v', hp, (turns_later (below_drewN (Below.refl _ _) m)).trans ht⟩
  obtain ⟨X, hX⟩ : ∃ X, Hid (vb (zig n) = X) := ⟨_, rfl⟩
  rw [hX.out] at c1 ⊢
  clear h
  obtain ⟨Z, hZ⟩ : ∃ Z, Hid (zig n = Z) := ⟨_, rfl⟩
  rw [hZ.out] at c0 c1
  go_enter Try.func56, Try.ntmps56
  go_wp2_with (first
    | (go_at_call 81; (with_reducible refine c0.mono ?_); clear c0; rintro e w1 ⟨rfl, m, rfl⟩)
    | (go_at_call 55; (with_reducible refine (c1 _).mono ?_); rintro e w2 ⟨rfl, v2, hp2, ht2⟩))
  exact ret0 rfl rfl ⟨rfl, v2, hp2, ht2⟩
end Go.Proofs.Ytpdnfiofjkbeiaa.pen
/- Contracts of New, Done and bytes.Clone, and of calls on a pen that is none. No condition but a row of at most 2^47 bytes. -/
namespace Go.Proofs.Ytpdnfiofjkbeiaa.pen
open Go.RowKit Go.Proofs.Ytpdnfiofjkbeiaa.texts
set_option linter.unusedVariables false

theorem bytes_nil (W : World) (a : Option Addr) (n c : Nat) : (binOp .eql 35 (.slice a n c) (.slice none 0 0)).run Try.prog W = .ok (.bool a.isNone) W := by
  have h := run_equal_slice_nil (P := Try.prog) W 35 5 a n c Try.underlying35
  simp [binOp, h, Result.andThen]
/-- the call returns a row of its own that holds the bytes xs -/
def Copies (xs : List Nat) (w : World) (e : Ending) (w' : World) : Prop :=
  ∃ v, e = .returned v ∧ w'.ownsRow w.heap.size 5 1 v xs.length (u8v xs) ∧ Below w.heap.size w w'
theorem clone_any (a : Option Addr) (m c : Nat) (xs : List Nat) (w : World) (hr : Reads .u8 w a m xs) (hn : m ≤ 140737488355328) :
    Calls Try.prog 59 #[.slice a m c] w (Copies xs w) := by
  obtain ⟨i0, hi, hz0, hz1, hz2⟩ := info_parts info5
  have HM : Hid (xs.length = m) := hr.1
  cases a with
  | none =>
    have en := bytes_nil w none m c
    simp only [Option.isNone_none] at en
    have h0 : m = 0 := by rcases hr.2 with h | ⟨_, _, h, _⟩; exact h; cases h
    have HX := hid h0
    clear hr h0
    go_enter Try.func59, Try.ntmps59
    go_wp2
    go_ret
    obtain rfl : xs = [] := List.eq_nil_of_length_eq_zero (HM.out.trans HX.out)
    exact ⟨_, rfl, World.ownsRow_nil _ _ _ _, Below.refl _ _⟩
  | some ad =>
    have en := bytes_nil w (some ad) m c
    simp only [Option.isNone_some] at en
    have hb : Below w.heap.size w (w.alloc (.cells #[] 5)) := (Below.refl _ _).alloc (Nat.le_refl _) _
    have HB := hid hb
    have HN := hid (Reads.news (hr.below hb))
    have HU := hid (u8v_length xs)
    have HN2 : Hid (0 + m ≤ maxLen) := by show _ ≤ _; unfold maxLen; omega
    have HN3 : Hid ((0 + m) * 1 ≤ 140737488355328) := by show _ ≤ _; omega
    have HO := hid (World.ownsRow_made (base := w.heap.size) (e := 5) (size := 1) w #[] 0 (Nat.le_refl _) (Nat.zero_le _) rfl)
    clear hr hb
    go_enter Try.func59, Try.ntmps59
    go_wp2_with (at_builtin; refine wpList_append_at_from rfl _ _ 35 rfl w.heap.size 5 i0 (.int .u8 0) 1 Try.underlying35 hi hz0 hz1 hz2 rfl (.slice (some ⟨w.heap.size, 0, none⟩) 0 0) 0 [] rfl HO.out (some ad) m c (u8v xs) rfl (by rw [HU.out, HM.out]) HN.out (u8v_one xs) HN2.out HN3.out HB.out.size ?_)
    intro v' w1 ho hg ha
    have hbl : Below w.heap.size w w1 := HB.out.grown hg HB.out.size (fun k hk => by cases hk; exact Nat.le_refl _)
    have ho' : w1.ownsRow w.heap.size 5 1 v' xs.length (u8v xs) := by
      rw [HM.out]; simpa using ho
    have HO2 := hid ho'
    have HB2 := hid hbl
    clear ho ho' hbl hg ha
    go_wp2
    go_ret
    exact ⟨_, rfl, HO2.out, HB2.out⟩

theorem new_any (w : World) : Calls Try.prog 33 #[] w fun e w' => e = .returned (.pointer (some ⟨w.heap.size, 0, none⟩)) ∧ PenAt w.heap.size w.heap.size (.slice none 0 0) [] 0 w' ∧ Below w.heap.size w w' := by
  go_enter Try.func33, Try.ntmps33
  go_wp2
  go_ret
  exact ⟨rfl, ⟨Block.new w 88 [.slice none 0 0, .int .i64 0], by simp [Value.ownBlock], World.ownsRow_nil _ _ _ _⟩, (Below.refl _ _).alloc (Nat.le_refl _) _⟩

/-- what Done answers -/
def Gives (xs : List Nat) (bad : Int) (w : World) (e : Ending) (w' : World) : Prop :=
  ∃ v, e = .returned (.tuple #[v, .int .i64 bad]) ∧ w'.ownsRow w.heap.size 5 1 v xs.length (u8v xs) ∧ Below w.heap.size w w'
theorem done_any (lo b : Nat) (v : Value) (xs : List Nat) (w : World) (h : PenAt lo b v xs 0 w) (hn : xs.length ≤ 140737488355328) :
    Calls Try.prog 36 #[.pointer (some ⟨b, 0, none⟩)] w (Gives xs 0 w) := by
  obtain ⟨a, c, rfl, hc⟩ := ownsRow_slice h.2.2
  have c1 := clone_any a xs.length c xs w (Reads.own h.2.2) hn
  have c0 := h.row
  have c2 := h.err
  clear h
  go_enter Try.func36, Try.ntmps36
  go_wp2_with (go_at_call 59; (with_reducible refine c1.mono ?_); clear c1; rintro e w1 ⟨u, rfl, ho, hb⟩)
  go_ret2
  exact ⟨_, rfl, ho, hb⟩
theorem done_bad (lo b : Nat) (v : Value) (xs : List Nat) (w : World) (h : PenAt lo b v xs 2 w) :
    Calls Try.prog 36 #[.pointer (some ⟨b, 0, none⟩)] w (Gives [] 2 w) := by
  have c2 := h.err
  clear h
  go_enter Try.func36, Try.ntmps36
  go_wp2_with go_region
  all_goals go_ret2
  all_goals exact ⟨_, rfl, World.ownsRow_nil _ _ _ _, by repeat (first | exact Below.refl _ _ | apply below_drewN)⟩

/-! a pen that is none -/
/-- the call returns nothing and turns nothing that was there -/
def Idle (w : World) (e : Ending) (w' : World) : Prop := e = .returned (.tuple #[]) ∧ Below w.heap.size w w'
theorem done_nil (w : World) : Calls Try.prog 36 #[.pointer none] w (Quiet (.tuple #[.slice none 0 0, .int .i64 1]) w) := by
  go_enter Try.func36, Try.ntmps36
  go_wp2
  go_ret2
  exact ⟨rfl, 0, rfl⟩
theorem put_idle (u : Value) (w : World) : Calls Try.prog 80 #[.pointer none, u] w (Idle w) := by
  go_enter Try.func80, Try.ntmps80
  go_wp2
  exact ret0 rfl rfl ⟨rfl, Below.refl _ _⟩
theorem count_idle (n : Int) (w : World) : Calls Try.prog 34 #[.pointer none, .int .i64 n] w (Idle w) := by
  go_enter Try.func34, Try.ntmps34
  go_wp2
  exact ret0 rfl rfl ⟨rfl, Below.refl _ _⟩
set_option maxRecDepth 8000 in
theorem varint_idle (x : Nat) (hx : x < 18446744073709551616) (w : World) : Calls Try.prog 55 #[.pointer none, .int .u64 (x : Int)] w (Idle w) := by
  have c1 := fun u w1 => put_idle u w1
  go_enter Try.func55, Try.ntmps55
  go_wp2
  go_loopw [1] (fun i wr => ∃ y : Nat, i = .int .u64 (y : Int) ∧ y < 18446744073709551616 ∧ Below w.heap.size w wr)
    (fun i _ => (intOf i).toNat)
  case atStart => exact ⟨x, rfl, hx, Below.refl _ _⟩
  case round =>
    obtain ⟨y, rfl, hy, hb⟩ := hrel
    have HB := hid hb
    clear hb
    by_cases h128 : y < 128
    · have hi : ((y : Int) < 128) := by omega
      go_wp2_with (go_at_call 80; (with_reducible refine (c1 _ _).mono ?_); rintro e w2 ⟨rfl, hb2⟩)
      exact ret0 rfl rfl ⟨rfl, (HB.out.alloc HB.out.size _).trans (hb2.mono (by simp; have := HB.out.size; omega))⟩
    · have hi : ¬ ((y : Int) < 128) := by omega
      go_wp2_with (go_at_call 80; (with_reducible refine (c1 _ _).mono ?_); rintro e w2 ⟨rfl, hb2⟩)
      exact ⟨⟨y / 128, by go_num, by omega, (HB.out.alloc HB.out.size _).trans (hb2.mono (by simp; have := HB.out.size; omega))⟩, by simp [intOf]; omega⟩
theorem num_idle (n : Int) (h1 : -9223372036854775808 ≤ n) (h2 : n ≤ 9223372036854775807) (w : World) : Calls Try.prog 56 #[.pointer none, .int .i64 n] w (Idle w) := by
  have c0 := zigzag_any n h1 h2 w
  have c1 := fun w1 => varint_idle (zig n) (zig_lt n h1 h2) w1
  obtain ⟨Z, hZ⟩ : ∃ Z, Hid (zig n = Z) := ⟨_, rfl⟩
  rw [hZ.out] at c0 c1
  go_enter Try.func56, Try.ntmps56
  go_wp2_with (first
    | (go_at_call 81; (with_reducible refine c0.mono ?_); clear c0; rintro e w1 ⟨rfl, m, rfl⟩)
    | (go_at_call 55; (with_reducible refine (c1 _).mono ?_); rintro e w2 ⟨rfl, hb2⟩))
  exact ret0 rfl rfl ⟨rfl, (below_drewN (Below.refl _ _) m).trans hb2⟩
end Go.Proofs.Ytpdnfiofjkbeiaa.pen
/- A pen beside other blocks. No condition but a row shorter than 2^46 bytes. -/
namespace Go.Proofs.Ytpdnfiofjkbeiaa.schema
open Go.RowKit Go.Proofs.Ytpdnfiofjkbeiaa.pen
set_option linter.unusedVariables false

theorem count_int (lo b : Nat) (v : Value) (xs : List Nat) (w : World) (h : PenAt lo b v xs 0 w) (hlo : lo ≤ w.heap.size) (n : Int) (h0 : 0 ≤ n) (h63 : n ≤ 9223372036854775807) (hn : xs.length ≤ 1000000) :
    Calls Try.prog 34 #[.pointer (some ⟨b, 0, none⟩), .int .i64 n] w (Wrote lo b v xs (vb n.toNat) 0 w) := by
  obtain ⟨m, rfl⟩ := Int.eq_ofNat_of_zero_le h0
  exact count_any lo b v xs 0 w h hlo m (by omega) (by omega)
/-- a struct stays where a pen writes -/
theorem pen_block {lo b : Nat} {v v' : Value} {xs : List Nat} {bad : Int} {w w' : World} (hp : PenAt lo b v xs bad w) (ht : Turns w b v w' v') {k : Nat} {t : TypeId} {cs : List Value} (hB : Block w k t cs) (hT : t ≠ 5) (hk : k ≠ b) : Block w' k t cs := by
  refine (ht.block k hB.lt hk ?_).trans hB
  intro e
  rcases hp.2.2.2 with ⟨hv, _⟩ | ⟨g, cap, cur, hv, _, hg, _⟩
  · rw [hv] at e; simp [Value.ownBlock] at e
  · rw [hv] at e
    simp [Value.ownBlock] at e
    subst e
    unfold Block at hB
    rw [hg] at hB
    exact hT ((Obj.cells.inj (Option.some.inj hB)).2.1.symm)
theorem turns_alloc (w : World) (b : Nat) (v : Value) (d : Obj) : Turns w b v (w.alloc d) v := turns_later ((Below.refl _ _).alloc (Nat.le_refl _) _)

/-- the pen at g holds xs; below it all is as in w1 -/
def PS (g : Nat) (w1 : World) (xs : List Nat) (v : Value) (w : World) : Prop := PenAt g g v xs 0 w ∧ Below g w1 w ∧ g ≤ w.heap.size
theorem PS.step {g : Nat} {w1 : World} {xs ys : List Nat} {v v' : Value} {w w' : World} (h : PS g w1 xs v w) (hp : PenAt g g v' (xs ++ ys) 0 w') (ht : Turns w g v w' v') : PS g w1 (xs ++ ys) v' w' :=
  ⟨hp, h.2.1.trans (ht.below h.2.2 (Nat.le_refl _) (fun x hx => (h.1.lo x hx).1)), Nat.le_trans h.2.2 ht.size⟩
theorem PS.later {g : Nat} {w1 : World} {xs : List Nat} {v : Value} {w w' : World} (h : PS g w1 xs v w) (hb : Below w.heap.size w w') : PS g w1 xs v w' := ⟨h.1.later hb, h.2.1.trans (hb.mono h.2.2), Nat.le_trans h.2.2 hb.size⟩
theorem PS.count {g : Nat} {w1 : World} {xs : List Nat} {v : Value} {w : World} (h : PS g w1 xs v w) (n : Int) (h0 : 0 ≤ n) (h63 : n ≤ 9223372036854775807) (hn : xs.length ≤ 1000000) :
    Calls Try.prog 34 #[.pointer (some ⟨g, 0, none⟩), .int .i64 n] w fun e w' => e = .returned (.tuple #[]) ∧ ∃ v', PS g w1 (xs ++ vb n.toNat) v' w' ∧ ∀ k t cs, Block w k t cs → t ≠ 5 → k ≠ g → Block w' k t cs :=
  (count_int g g v xs w h.1 h.2.2 n h0 h63 hn).mono fun _ _ ⟨he, v', hp, ht⟩ => ⟨he, v', h.step hp ht, fun k t cs hB hT hk => pen_block h.1 ht hB hT hk⟩
end Go.Proofs.Ytpdnfiofjkbeiaa.schema
/- Contract of the pen's Text. No condition but that the row stays shorter than 2^47 bytes. -/
namespace Go.Proofs.Ytpdnfiofjkbeiaa.pen
open Go.RowKit Go.Proofs.Ytpdnfiofjkbeiaa.texts
set_option linter.unusedVariables false
/-- put of the bytes of a string -/
theorem put_text (lo b : Nat) (v : Value) (xs : List Nat) (bad : Int) (w : World) (h : PenAt lo b v xs bad w) (hlo : lo ≤ w.heap.size) (s : List UInt8) (c : Nat) (hn : xs.length + s.length ≤ 140737488355328) :
    Calls Try.prog 80 #[.pointer (some ⟨b, 0, none⟩), .slice (some ⟨w.heap.size, 0, none⟩) (strL s).size c] (Lib.bytesWorld w 5 (strL s)) (Wrote lo b v xs (nums s) bad w) := by
  have hb : Below w.heap.size w (Lib.bytesWorld w 5 (strL s)) := ⟨rfl, rfl, rfl, by rw [Lib.bytesWorld_size]; omega, fun k hk => Lib.bytesWorld_at_old w _ _ k hk⟩
  have hr : Reads .u8 (Lib.bytesWorld w 5 (strL s)) (some ⟨w.heap.size, 0, none⟩) (strL s).size (nums s) := by
    rw [strL_size]
    refine ⟨nums_len s, .inr ⟨_, _, rfl, by rw [Lib.bytesWorld_size]; omega, fun i hi => ?_⟩⟩
    rw [Nat.zero_add, Lib.bytesWorld_cell _ _ _ _ (by rw [strL_size]; exact hi), strL_data]
    simp [nums, List.getD_eq_getElem?_getD, List.getElem?_eq_getElem hi]
  refine (put_any lo b v xs bad _ (h.later hb) (Nat.le_trans hlo hb.size) _ _ c (nums s) hr (by rw [strL_size]; exact hn)).mono ?_
  rintro e w' ⟨he, v', hp, ht⟩
  exact ⟨he, v', hp, (turns_later hb).trans ht⟩
theorem text_any (lo b : Nat) (v : Value) (xs : List Nat) (bad : Int) (w : World) (h : PenAt lo b v xs bad w) (hlo : lo ≤ w.heap.size) (s : List UInt8) (hs : s.length ≤ 9223372036854775807) (hn : xs.length + 10 + s.length ≤ 140737488355328) :
    Calls Try.prog 58 #[.pointer (some ⟨b, 0, none⟩), .string (strL s)] w (Wrote lo b v xs (vb s.length ++ nums s) bad w) := by
  have c1 : Calls Try.prog 34 #[.pointer (some ⟨b, 0, none⟩), .int .i64 ((strL s).size : Int)] w (Wrote lo b v xs (vb s.length) bad w) := by
    rw [strL_size]; exact count_any lo b v xs bad w h hlo s.length (by omega) (by omega)
  have hl := vb_ten s.length (by omega)
  have c2 : Hid (∀ v1 w1, PenAt lo b v1 (xs ++ vb s.length) bad w1 → lo ≤ w1.heap.size → ∀ c, Calls Try.prog 80 #[.pointer (some ⟨b, 0, none⟩), .slice (some ⟨w1.heap.size, 0, none⟩) (strL s).size c] (Lib.bytesWorld w1 5 (strL s)) (Wrote lo b v1 (xs ++ vb s.length) (nums s) bad w1)) :=
    fun v1 w1 h1 h2 c => put_text lo b v1 _ bad w1 h1 h2 s c (by rw [List.length_append]; omega)
  have hcv : Hid (∀ w1 : World, (convert 9 35 (.string (strL s))).run Try.prog w1 = .ok (.slice (some ⟨w1.heap.size, 0, none⟩) (strL s).size (grownCap w1 (strL s).size 0 5)) (Lib.bytesWorld w1 5 (strL s))) :=
    fun w1 => Lib.run_convert_string_bytes w1 _ _ _ _ Try.underlying9 Try.underlying35 Try.underlying5
  have hsz : (strL s).size ≤ 9223372036854775807 := by rw [strL_size]; exact hs
  obtain ⟨S, hS⟩ : ∃ S, Hid (strL s = S) := ⟨_, rfl⟩
  obtain ⟨V, hV⟩ : ∃ V, Hid (vb s.length = V) := ⟨_, rfl⟩
  rw [hS.out] at c1 c2 hcv hsz ⊢
  rw [hV.out] at c1 c2 ⊢
  clear h hl
  go_enter Try.func58, Try.ntmps58
  go_wp2_with (first
    | (go_at_call 34; (with_reducible refine c1.mono ?_); clear c1; rintro e w1 ⟨rfl, v1, hp1, ht1⟩; have hc1 := hcv.out w1; have hq := c2.out v1 w1 hp1 (Nat.le_trans hlo ht1.size))
    | (go_at_call 80; (with_reducible refine (hq _).mono ?_); rintro e w2 ⟨rfl, v2, hp2, ht2⟩))
  exact ret0 rfl rfl ⟨rfl, v2, by rw [← List.append_assoc]; exact hp2, ht1.trans ht2⟩
end Go.Proofs.Ytpdnfiofjkbeiaa.pen
/- A pen's calls beside other blocks; contract of layer 15 (step): printField. No condition but a row shorter than 10^5 bytes. -/
namespace Go.Proofs.Ytpdnfiofjkbeiaa.step
open Go.RowKit Go.Proofs.Ytpdnfiofjkbeiaa.pen
open Go.Proofs.Ytpdnfiofjkbeiaa.field (newB bytesOf)
open Go.Proofs.Ytpdnfiofjkbeiaa.schema (PS pen_block below_out)
set_option linter.unusedVariables false

theorem fd_ty : (23 : TypeId) ≠ 5 := by decide
theorem st_ty : (29 : TypeId) ≠ 5 := by decide
theorem mem_ty : (49 : TypeId) ≠ 5 := by decide
/-- every block but the pen's at g and rows of bytes stays -/
def Stays (g : Nat) (w w' : World) : Prop := ∀ k t cs, Block w k t cs → t ≠ 5 → k ≠ g → Block w' k t cs
theorem Stays.refl (g : Nat) (w : World) : Stays g w w := fun _ _ _ h _ _ => h
theorem Stays.trans {g : Nat} {a b c : World} (h : Stays g a b) (k : Stays g b c) : Stays g a c := fun i t cs hB ht hg => k i t cs (h i t cs hB ht hg) ht hg
theorem Stays.later {g : Nat} {w w' : World} (hb : Below w.heap.size w w') : Stays g w w' := fun _ _ _ h _ _ => h.later hb
/-- the call writes ys -/
def Pens (g : Nat) (w1 : World) (xs ys : List Nat) (w : World) (e : Ending) (w' : World) : Prop := e = .returned (.tuple #[]) ∧ ∃ v', PS g w1 (xs ++ ys) v' w' ∧ Stays g w w'
theorem count_pen {g : Nat} {w1 : World} {xs : List Nat} {v : Value} {w : World} (h : PS g w1 xs v w) (n : Int) (h0 : 0 ≤ n) (h63 : n ≤ 9223372036854775807) (hn : xs.length ≤ 1000000) :
    Calls Try.prog 34 #[.pointer (some ⟨g, 0, none⟩), .int .i64 n] w (Pens g w1 xs (vb n.toNat) w) := h.count n h0 h63 hn
theorem num_pen {g : Nat} {w1 : World} {xs : List Nat} {v : Value} {w : World} (h : PS g w1 xs v w) (n : Int) (h0 : -9223372036854775808 ≤ n) (h63 : n ≤ 9223372036854775807) (hn : xs.length ≤ 1000000) :
    Calls Try.prog 56 #[.pointer (some ⟨g, 0, none⟩), .int .i64 n] w (Pens g w1 xs (vb (zig n)) w) :=
  (num_any g g v xs 0 w h.1 h.2.2 n h0 h63 (by omega)).mono fun _ _ ⟨he, v', hp, ht⟩ => ⟨he, v', h.step hp ht, fun k t cs hB hT hk => pen_block h.1 ht hB hT hk⟩
theorem text_pen {g : Nat} {w1 : World} {xs : List Nat} {v : Value} {w : World} (h : PS g w1 xs v w) (s : ByteArray) (hs : s.size ≤ 1000) (hn : xs.length ≤ 1000000) :
    Calls Try.prog 58 #[.pointer (some ⟨g, 0, none⟩), .string s] w (Pens g w1 xs (vb s.size ++ bytesOf s) w) := by
  have hl : s.data.toList.length = s.size := by rw [Array.length_toList]; rfl
  have c := text_any g g v xs 0 w h.1 h.2.2 s.data.toList (by omega) (by omega)
  rw [texts.strL_of, hl] at c
  exact c.mono fun _ _ ⟨he, v', hp, ht⟩ => ⟨he, v', h.step hp ht, fun k t cs hB hT hk => pen_block h.1 ht hB hT hk⟩
theorem printField_any {g : Nat} {w1 : World} {xs : List Nat} {v : Value} {w : World} (h : PS g w1 xs v w) (p : field.Fd) (hr : FieldOk p) (hn : xs.length ≤ 900000) :
    Calls Try.prog 57 #[.pointer (some ⟨g, 0, none⟩), .agg #[.int .i64 p.id, .int .i64 p.kind, .int .i64 p.lo, .int .i64 p.hi, .int .i64 p.most]] w (Pens g w1 xs (fieldA p) w) := by
  have hS0 := h.later (newB w (.cells #[.int .i64 p.id, .int .i64 p.kind, .int .i64 p.lo, .int .i64 p.hi, .int .i64 p.most] 23))
  have hB0 := Block.new w 23 [.int .i64 p.id, .int .i64 p.kind, .int .i64 p.lo, .int .i64 p.hi, .int .i64 p.most]
  have hne : w.heap.size ≠ g := by have := h.1.1.lt; omega
  have HK0 : Hid (Stays g w (w.alloc (.cells #[.int .i64 p.id, .int .i64 p.kind, .int .i64 p.lo, .int .i64 p.hi, .int .i64 p.most] 23))) := hid (Stays.later (newB _ _))
  obtain ⟨⟨i0, i1⟩, ⟨k0, k1⟩, ⟨a0, a1⟩, ⟨b0, b1⟩, m0, m1⟩ := hr
  have l1 := vb_ten p.id.toNat (by omega)
  have l2 := vb_ten p.kind.toNat (by omega)
  have l3 := vb_ten (zig p.lo) (zig_lt _ (by omega) (by omega))
  have l4 := vb_ten (zig p.hi) (zig_lt _ (by omega) (by omega))
  have hfb : fieldA p = vb p.id.toNat ++ vb p.kind.toNat ++ vb (zig p.lo) ++ vb (zig p.hi) ++ vb p.most.toNat := rfl
  rw [hfb]
  clear hfb h
  obtain ⟨i, k, lw, hi, m⟩ := p
  simp only at *
  unfold Pens
  have c1 := count_pen hS0 i i0 (by omega) (by omega)
  have C2 := hid (fun v w' (h : PS g w1 (xs ++ vb i.toNat) v w') => count_pen h k k0 (by omega) (by simp only [List.length_append]; omega))
  have C3 := hid (fun v w' (h : PS g w1 (xs ++ vb i.toNat ++ vb k.toNat) v w') => num_pen h lw a0 a1 (by simp only [List.length_append]; omega))
  have C4 := hid (fun v w' (h : PS g w1 (xs ++ vb i.toNat ++ vb k.toNat ++ vb (zig lw)) v w') => num_pen h hi b0 b1 (by simp only [List.length_append]; omega))
  have C5 := hid (fun v w' (h : PS g w1 (xs ++ vb i.toNat ++ vb k.toNat ++ vb (zig lw) ++ vb (zig hi)) v w') => count_pen h m m0 (by omega) (by simp only [List.length_append]; omega))
  have HB0 := hid hB0
  clear hB0 l1 l2 l3 l4 i0 i1 k0 k1 a0 a1 b0 b1 m0 m1 hn hS0
  go_enter Try.func57, Try.ntmps57
  go_wp2_with (first
    | (go_at_call 34; ((with_reducible refine c1.mono ?_); clear c1; rintro e w2 ⟨rfl, v2, hS2, hK2⟩; have hB2 := hK2 _ _ _ HB0.out fd_ty hne; have z1 := hB2.cell 1; have c2 := C2.out _ _ hS2; clear hS2))
    | (go_at_call 34; ((with_reducible refine c2.mono ?_); clear c2; rintro e w3 ⟨rfl, v3, hS3, hK3⟩; have hB3 := hK3 _ _ _ hB2 fd_ty hne; have z2 := hB3.cell 2; have c3 := C3.out _ _ hS3; clear hS3))
    | (go_at_call 56; ((with_reducible refine c3.mono ?_); clear c3; rintro e w4 ⟨rfl, v4, hS4, hK4⟩; have hB4 := hK4 _ _ _ hB3 fd_ty hne; have z3 := hB4.cell 3; have c4 := C4.out _ _ hS4; clear hS4))
    | (go_at_call 56; ((with_reducible refine c4.mono ?_); clear c4; rintro e w5 ⟨rfl, v5, hS5, hK5⟩; have hB5 := hK5 _ _ _ hB4 fd_ty hne; have z4 := hB5.cell 4; have c5 := C5.out _ _ hS5; clear hS5))
    | (go_at_call 34; ((with_reducible refine c5.mono ?_); clear c5; rintro e w6 ⟨rfl, v6, hS6, hK6⟩; have HS6 := hid hS6; clear hS6)))
  exact ret0 rfl rfl ⟨rfl, v6, by simpa only [List.append_assoc] using HS6.out, HK0.out.trans (hK2.trans (hK3.trans (hK4.trans (hK5.trans hK6))))⟩
end Go.Proofs.Ytpdnfiofjkbeiaa.step
/- Contracts of layer 13 (schema): within, fineFields. No condition. -/
namespace Go.Proofs.Ytpdnfiofjkbeiaa.schema
open Go.RowKit
open Go.Proofs.Ytpdnfiofjkbeiaa.field (Gives newB gives_from right_any)
set_option linter.unusedVariables false

theorem within_any (n lo hi : Int) (w : World) : Calls Try.prog 76 #[.int .i64 n, .int .i64 lo, .int .i64 hi] w (Gives (.bool (decide (lo ≤ n ∧ n ≤ hi))) w) := by
  obtain ⟨v, hv⟩ : ∃ v : Bool, Hid (decide (lo ≤ n ∧ n ≤ hi) = v) := ⟨_, rfl⟩
  rw [hv.out]
  unfold Gives
  by_cases h1 : lo ≤ n
  · by_cases h2 : n ≤ hi
    · obtain rfl : true = v := by rw [← hv.out]; simp [h1, h2]
      go_enter Try.func76, Try.ntmps76
      go_wp2
      go_ret
      exact ⟨rfl, Below.refl _ _⟩
    · obtain rfl : false = v := by rw [← hv.out]; simp [h1, h2]
      have hd : decide (n ≤ hi) = false := decide_eq_false h2
      go_enter Try.func76, Try.ntmps76
      go_wp2
      go_ret
      exact ⟨rfl, Below.refl _ _⟩
  · obtain rfl : false = v := by rw [← hv.out]; simp [h1]
    have hd : decide (lo ≤ n) = false := decide_eq_false h1
    go_enter Try.func76, Try.ntmps76
    go_wp2
    go_ret
    exact ⟨rfl, Below.refl _ _⟩

/-- the IDs seen so far, as an array -/
def seenV (l : List Int) : List Value := (List.range 256).map fun j : Nat => Value.bool (decide ((j : Int) ∈ l))
theorem seenV_at (l : List Int) (n : Nat) (h : n < 256) : (seenV l)[n]? = some (.bool (decide ((n : Int) ∈ l))) := by simp [seenV, h]
theorem seenV_set (l : List Int) (n : Nat) (h : n < 256) : (seenV l).set n (.bool true) = seenV (l ++ [(n : Int)]) := by
  apply List.ext_getElem?
  intro i
  rw [List.getElem?_set]
  by_cases hi : i < 256
  · rw [seenV_at _ i hi, seenV_at _ i hi]
    by_cases hn : n = i
    · subst hn; simp [seenV, h]
    · rw [if_neg hn]
      simp; omega
  · simp [seenV]
    simp [hi]
    omega
theorem seenV_zero : Try.zeroCells113 = (seenV []).toArray := by kernel_rfl
theorem fineFields_any (a : Option Addr) (cap : Nat) (L : List field.Fd) (w : World) (h : field.Fds w a L) (hL : L.length ≤ maxLen) :
    Calls Try.prog 77 #[.slice a L.length cap] w (Gives (.bool (decide (FineF L))) w) := by
  have hml : (L.length : Int) ≤ 9223372036854775807 := by unfold maxLen at hL; omega
  obtain ⟨v, hv⟩ : ∃ v : Bool, Hid (decide (FineF L) = v) := ⟨_, rfl⟩
  rw [hv.out]
  unfold Gives
  have HF := hid h
  have HZ : Hid (Block (w.alloc (.cells Try.zeroCells113 113)) w.heap.size 113 (seenV [])) := by rw [seenV_zero]; exact hid (Block.new w 113 (seenV []))
  have HN := hid (newB w (.cells Try.zeroCells113 113))
  clear h hL
  go_enter Try.func77, Try.ntmps77
  go_wp2
  generalize w.alloc (.cells Try.zeroCells113 113) = w1 at *
  obtain ⟨B, hB⟩ : ∃ B : Nat, Hid (w.heap.size = B) := ⟨_, rfl⟩
  rw [hB.out] at HZ ⊢
  go_loopw [8] (fun n wr => ∃ k : Nat, k ≤ L.length ∧ n = .int .i64 (k : Int) ∧ Hid (FineF (L.take k)) ∧ Hid (Block wr B 113 (seenV (ids (L.take k)))) ∧ Hid (Below w.heap.size w wr)) (fun n _ => L.length - (intOf n).toNat)
  case atStart => exact ⟨0, Nat.zero_le _, rfl, hid FineF.nil, HZ, HN⟩
  case round =>
    obtain ⟨k, hk, rfl, HOK, HBl, HB⟩ := hrel
    by_cases hlt : k < L.length
    · obtain ⟨b, off, p, rfl, hbl, hp, c0, c1, c2, c3, c4⟩ := field_at HF.out HB.out hlt
      have i1 : (k : Int) < L.length := by omega
      have HP := hid hp
      have HNO := hid (fineF_no hp)
      have HSUC := hid (fineF_succ hp)
      have HIDS : Hid (ids (L.take (k + 1)) = ids (L.take k) ++ [p.id]) := hid (by rw [take_succ_at hp]; simp [ids])
      have cs := fun w' => right_any p w'
      clear hp
      generalize hI : ids (L.take k) = I at *
      clear hI
      by_cases hr : p.Right
      · obtain ⟨n, hn⟩ := Int.eq_ofNat_of_zero_le hr.1.1
        have hn2 : n ≤ 255 := by have := hr.1.2; omega
        rw [decide_eq_true hr] at cs
        have HR := hid hr
        clear hr
        obtain ⟨q, qk, ql, qh, qm⟩ := p
        simp only at hn HNO HSUC HIDS HR c0 c1 c2 c3 c4 cs
        subst hn
        have hsd := seenV_at I n (by omega)
        by_cases hm : (n : Int) ∈ I
        · rw [decide_eq_true hm] at hsd
          obtain rfl : false = v := by rw [← hv.out]; exact (decide_eq_false (HNO.out (fun h => h.2 hm))).symm
          clear hm
          have H5 := hid (field.five ⟨n, qk, ql, qh, qm⟩ wr)
          go_wp2_with (go_at_call 48; ((with_reducible refine (cs _).mono ?_); rintro e w2 ⟨rfl, hb2⟩; have hc := ((HBl.out.alloc _).later hb2).cell n; rw [hsd] at hc; have z0 := (H5.out w2 hb2).1))
          go_ret
          exact ⟨rfl, HB.out.trans ((below_out hb2).mono HB.out.size)⟩
        · rw [decide_eq_false hm] at hsd
          have HM := hid hm
          clear hm
          have H5 := hid (field.five ⟨n, qk, ql, qh, qm⟩ wr)
          have HLT := hid (show w.heap.size ≤ B by rw [hB.out]; exact Nat.le_refl _)
          go_wp2_with (go_at_call 48; ((with_reducible refine (cs _).mono ?_); rintro e w2 ⟨rfl, hb2⟩; have hblk := (HBl.out.alloc _).later hb2; have hc := hblk.cell n; rw [hsd] at hc; have z0 := (H5.out w2 hb2).1; have hfz := hblk.frozen n; have HBK := hid hblk; clear hblk))
          refine ⟨⟨k + 1, by omega, by go_num, hid (HSUC.out.2 ⟨HOK.out, HR.out, HM.out⟩), hid ?_, hid ?_⟩, by simp [intOf]; omega⟩
          · have := HBK.out.setCell n (.bool true)
            rw [seenV_set _ _ (by omega)] at this
            rw [HIDS.out]; exact this
          · exact below_setCells (HB.out.trans ((below_out hb2).mono HB.out.size)) HLT.out n [.bool true]
      · obtain rfl : false = v := by rw [← hv.out]; exact (decide_eq_false (HNO.out (fun h => hr h.1))).symm
        rw [decide_eq_false hr] at cs
        clear hr
        go_wp2_with (go_at_call 48; ((with_reducible refine (cs _).mono ?_); rintro e w2 ⟨rfl, hb2⟩))
        go_ret
        exact ⟨rfl, HB.out.trans ((below_out hb2).mono HB.out.size)⟩
    · obtain rfl : k = L.length := by omega
      obtain rfl : true = v := by rw [← hv.out]; have := HOK.out; rw [List.take_of_length_le (Nat.le_refl _)] at this; exact (decide_eq_true this).symm
      go_wp2
      go_ret
      exact ⟨rfl, HB.out⟩
end Go.Proofs.Ytpdnfiofjkbeiaa.schema
/- Contracts of layer 15 (step): members, within; of the reference: uses, between, has. No condition. -/
namespace Go.Proofs.Ytpdnfiofjkbeiaa.step
open Go.RowKit
open Go.Proofs.Ytpdnfiofjkbeiaa.field (Gives newB gives_from)
set_option linter.unusedVariables false

theorem within_any (n lo hi : Int) (w : World) : Calls Try.prog 46 #[.int .i64 n, .int .i64 lo, .int .i64 hi] w (Gives (.bool (decide (lo ≤ n ∧ n ≤ hi))) w) := by
  obtain ⟨v, hv⟩ : ∃ v : Bool, Hid (decide (lo ≤ n ∧ n ≤ hi) = v) := ⟨_, rfl⟩
  rw [hv.out]
  unfold Gives
  by_cases h1 : lo ≤ n
  · by_cases h2 : n ≤ hi
    · obtain rfl : true = v := by rw [← hv.out]; simp [h1, h2]
      skip
      go_enter Try.func46, Try.ntmps46
      go_wp2
      go_ret
      exact ⟨rfl, Below.refl _ _⟩
    · obtain rfl : false = v := by rw [← hv.out]; simp [h1, h2]
      have hd : decide (n ≤ hi) = false := decide_eq_false h2
      skip
      go_enter Try.func46, Try.ntmps46
      go_wp2
      go_ret
      exact ⟨rfl, Below.refl _ _⟩
  · obtain rfl : false = v := by rw [← hv.out]; simp [h1]
    have hd : decide (lo ≤ n) = false := decide_eq_false h1
    go_enter Try.func46, Try.ntmps46
    go_wp2
    go_ret
    exact ⟨rfl, Below.refl _ _⟩

theorem between_any (n lo hi : Int) (w : World) : Calls Try.prog 23 #[.int .i64 n, .int .i64 lo, .int .i64 hi] w (Gives (.bool (decide (lo ≤ n ∧ n ≤ hi))) w) := by
  obtain ⟨v, hv⟩ : ∃ v : Bool, Hid (decide (lo ≤ n ∧ n ≤ hi) = v) := ⟨_, rfl⟩
  rw [hv.out]
  unfold Gives
  by_cases h1 : lo ≤ n
  · by_cases h2 : n ≤ hi
    · obtain rfl : true = v := by rw [← hv.out]; simp [h1, h2]
      have hg : decide (n ≥ lo) = true := decide_eq_true h1
      go_enter Try.func23, Try.ntmps23
      go_wp2
      go_ret
      exact ⟨rfl, Below.refl _ _⟩
    · obtain rfl : false = v := by rw [← hv.out]; simp [h1, h2]
      have hd : decide (n ≤ hi) = false := decide_eq_false h2
      have hg : decide (n ≥ lo) = true := decide_eq_true h1
      go_enter Try.func23, Try.ntmps23
      go_wp2
      go_ret
      exact ⟨rfl, Below.refl _ _⟩
  · obtain rfl : false = v := by rw [← hv.out]; simp [h1]
    have hd : decide (n ≥ lo) = false := decide_eq_false h1
    go_enter Try.func23, Try.ntmps23
    go_wp2
    go_ret
    exact ⟨rfl, Below.refl _ _⟩

/-- a row of numbers that has just been made -/
def insV (l : List Int) : List Value := l.map fun n => Value.int .i64 n
theorem built_ins (w : World) (t : TypeId) (l : List Int) : Ins (w.alloc (.cells (insV l).toArray t)) (some ⟨w.heap.size, 0, none⟩) l := by
  refine .inr ⟨_, _, rfl, by simp, fun i n hi => ?_⟩
  have h := (Block.new w t (insV l)).cell i
  rw [Nat.zero_add]
  rw [h]
  simp [insV, hi]
/-- the members of an operation as numbers -/
def memI (op : Int) : List Int := (mem op).map fun m : Nat => (m : Int)
theorem memI_len (op : Int) : (memI op).length = (mem op).length := List.length_map _
theorem memI_at {op : Int} {k : Nat} {m : Nat} (h : (mem op)[k]? = some m) : (memI op)[k]? = some (m : Int) := by simp [memI, h]
/-- the row of an operation's members -/
def MRow (w : World) (a : Option Addr) (op : Int) : Prop := mem op = [] ∨ ∃ g, a = some ⟨g, 0, none⟩ ∧ Block w g 49 (insV (memI op))
theorem MRow.ins {w : World} {a : Option Addr} {op : Int} (h : MRow w a op) : Ins w a (memI op) := by
  rcases h with h | ⟨g, rfl, hB⟩
  · exact .inl (by unfold memI; rw [h]; rfl)
  · refine .inr ⟨g, 0, rfl, hB.lt, fun i n hi => ?_⟩
    rw [Nat.zero_add, hB.cell]
    simp [insV, hi]
def Members (op : Int) (w : World) (e : Ending) (w' : World) : Prop := ∃ (a : Option Addr) (c : Nat), e = .returned (.slice a (mem op).length c) ∧ MRow w' a op ∧ Below w.heap.size w w'
set_option maxHeartbeats 1600000 in
theorem members_any (op : Int) (w : World) : Calls Try.prog 18 #[.int .i64 op] w (Members op w) := by
  unfold Members
  rcases ops op with h | h
  · rcases h with rfl | rfl | rfl | rfl | rfl | rfl | rfl | rfl | rfl | rfl | rfl | rfl | rfl | rfl | rfl | rfl | rfl | rfl | rfl | rfl
    · go_enter Try.func18, Try.ntmps18
      go_wp2
      go_ret
      exact ⟨_, _, rfl, .inr ⟨_, rfl, Block.new w 49 (insV [0, 2, 9])⟩, newB _ _⟩
    · go_enter Try.func18, Try.ntmps18
      go_wp2
      go_ret
      exact ⟨_, _, rfl, .inr ⟨_, rfl, Block.new w 49 (insV [0, 2, 9])⟩, newB _ _⟩
    · go_enter Try.func18, Try.ntmps18
      go_wp2
      go_ret
      exact ⟨_, _, rfl, .inr ⟨_, rfl, Block.new w 49 (insV [0, 1, 10])⟩, newB _ _⟩
    · go_enter Try.func18, Try.ntmps18
      go_wp2
      go_ret
      exact ⟨_, _, rfl, .inr ⟨_, rfl, Block.new w 49 (insV [0, 1, 8])⟩, newB _ _⟩
    · go_enter Try.func18, Try.ntmps18
      go_wp2
      go_ret
      exact ⟨_, _, rfl, .inr ⟨_, rfl, Block.new w 49 (insV [0, 1, 8])⟩, newB _ _⟩
    · go_enter Try.func18, Try.ntmps18
      go_wp2
      go_ret
      exact ⟨_, _, rfl, .inr ⟨_, rfl, Block.new w 49 (insV [0, 1, 5])⟩, newB _ _⟩
    · go_enter Try.func18, Try.ntmps18
      go_wp2
      go_ret
      exact ⟨_, _, rfl, .inr ⟨_, rfl, Block.new w 49 (insV [0, 1, 5, 8])⟩, newB _ _⟩
    · go_enter Try.func18, Try.ntmps18
      go_wp2
      go_ret
      exact ⟨_, _, rfl, .inr ⟨_, rfl, Block.new w 49 (insV [0, 1, 6])⟩, newB _ _⟩
    · go_enter Try.func18, Try.ntmps18
      go_wp2
      go_ret
      exact ⟨_, _, rfl, .inr ⟨_, rfl, Block.new w 49 (insV [0, 1, 7])⟩, newB _ _⟩
    · go_enter Try.func18, Try.ntmps18
      go_wp2
      go_ret
      exact ⟨_, _, rfl, .inr ⟨_, rfl, Block.new w 49 (insV [0, 1, 4, 3])⟩, newB _ _⟩
    · go_enter Try.func18, Try.ntmps18
      go_wp2
      go_ret
      exact ⟨_, _, rfl, .inr ⟨_, rfl, Block.new w 49 (insV [0, 1, 4, 3, 8])⟩, newB _ _⟩
    · go_enter Try.func18, Try.ntmps18
      go_wp2
      go_ret
      exact ⟨_, _, rfl, .inr ⟨_, rfl, Block.new w 49 (insV [0, 1, 2])⟩, newB _ _⟩
    · go_enter Try.func18, Try.ntmps18
      go_wp2
      go_ret
      exact ⟨_, _, rfl, .inr ⟨_, rfl, Block.new w 49 (insV [0, 1, 2])⟩, newB _ _⟩
    · go_enter Try.func18, Try.ntmps18
      go_wp2
      go_ret
      exact ⟨_, _, rfl, .inr ⟨_, rfl, Block.new w 49 (insV [0, 1, 3])⟩, newB _ _⟩
    · go_enter Try.func18, Try.ntmps18
      go_wp2
      go_ret
      exact ⟨_, _, rfl, .inr ⟨_, rfl, Block.new w 49 (insV [0, 1, 3])⟩, newB _ _⟩
    · go_enter Try.func18, Try.ntmps18
      go_wp2
      go_ret
      exact ⟨_, _, rfl, .inr ⟨_, rfl, Block.new w 49 (insV [0, 11])⟩, newB _ _⟩
    · go_enter Try.func18, Try.ntmps18
      go_wp2
      go_ret
      exact ⟨_, _, rfl, .inr ⟨_, rfl, Block.new w 49 (insV [0, 11])⟩, newB _ _⟩
    · go_enter Try.func18, Try.ntmps18
      go_wp2
      go_ret
      exact ⟨_, _, rfl, .inr ⟨_, rfl, Block.new w 49 (insV [0])⟩, newB _ _⟩
    · go_enter Try.func18, Try.ntmps18
      go_wp2
      go_ret
      exact ⟨_, _, rfl, .inr ⟨_, rfl, Block.new w 49 (insV [0])⟩, newB _ _⟩
    · go_enter Try.func18, Try.ntmps18
      go_wp2
      go_ret
      exact ⟨_, _, rfl, .inr ⟨_, rfl, Block.new w 49 (insV [0, 1])⟩, newB _ _⟩
  · have hm := (mem_none h).1
    obtain ⟨L, hL⟩ : ∃ L, Hid (mem op = L) := ⟨_, rfl⟩
    have hI : ∀ W, MRow W none op := fun W => .inl hm
    rw [hm]
    obtain ⟨n0, n1, n2, n3, n4, n5, n6, n7, n8, n9, n10, n11, n12, n13, n14, n15, n16, n17, n18, n19⟩ := h
    have d0 : (op == 1) = false := by simpa using n0
    have d1 : (op == 22) = false := by simpa using n1
    have d2 : (op == 2) = false := by simpa using n2
    have d3 : (op == 3) = false := by simpa using n3
    have d4 : (op == 23) = false := by simpa using n4
    have d5 : (op == 4) = false := by simpa using n5
    have d6 : (op == 24) = false := by simpa using n6
    have d7 : (op == 5) = false := by simpa using n7
    have d8 : (op == 25) = false := by simpa using n8
    have d9 : (op == 6) = false := by simpa using n9
    have d10 : (op == 26) = false := by simpa using n10
    have d11 : (op == 7) = false := by simpa using n11
    have d12 : (op == 27) = false := by simpa using n12
    have d13 : (op == 8) = false := by simpa using n13
    have d14 : (op == 28) = false := by simpa using n14
    have d15 : (op == 9) = false := by simpa using n15
    have d16 : (op == 30) = false := by simpa using n16
    have d17 : (op == 10) = false := by simpa using n17
    have d18 : (op == 29) = false := by simpa using n18
    have d19 : (op == 21) = false := by simpa using n19
    clear hm hL n0 n1 n2 n3 n4 n5 n6 n7 n8 n9 n10 n11 n12 n13 n14 n15 n16 n17 n18 n19
    go_enter Try.func18, Try.ntmps18
    go_wp2
    go_ret
    exact ⟨_, _, rfl, hI _, Below.refl _ _⟩
/-- the letters of an operation, as a string -/
def usesS (op : Int) : ByteArray := texts.strL (uses op)
set_option maxHeartbeats 1600000 in
theorem uses_any (op : Int) (w : World) : Calls Try.prog 21 #[.int .i64 op] w (Gives (.string (usesS op)) w) := by
  unfold Gives
  rcases ops op with h | h
  · rcases h with rfl | rfl | rfl | rfl | rfl | rfl | rfl | rfl | rfl | rfl | rfl | rfl | rfl | rfl | rfl | rfl | rfl | rfl | rfl | rfl <;>
    · go_enter Try.func21, Try.ntmps21
      go_wp2
      go_ret
      exact ⟨rfl, Below.refl _ _⟩
  · have hm : usesS op = ⟨#[]⟩ := by unfold usesS; rw [(mem_none h).2]; rfl
    rw [hm]
    obtain ⟨n0, n1, n2, n3, n4, n5, n6, n7, n8, n9, n10, n11, n12, n13, n14, n15, n16, n17, n18, n19⟩ := h
    have d0 : (op == 1) = false := by simpa using n0
    have d1 : (op == 22) = false := by simpa using n1
    have d2 : (op == 2) = false := by simpa using n2
    have d3 : (op == 3) = false := by simpa using n3
    have d4 : (op == 23) = false := by simpa using n4
    have d5 : (op == 4) = false := by simpa using n5
    have d6 : (op == 24) = false := by simpa using n6
    have d7 : (op == 5) = false := by simpa using n7
    have d8 : (op == 25) = false := by simpa using n8
    have d9 : (op == 6) = false := by simpa using n9
    have d10 : (op == 26) = false := by simpa using n10
    have d11 : (op == 7) = false := by simpa using n11
    have d12 : (op == 27) = false := by simpa using n12
    have d13 : (op == 8) = false := by simpa using n13
    have d14 : (op == 28) = false := by simpa using n14
    have d15 : (op == 9) = false := by simpa using n15
    have d16 : (op == 30) = false := by simpa using n16
    have d17 : (op == 10) = false := by simpa using n17
    have d18 : (op == 29) = false := by simpa using n18
    have d19 : (op == 21) = false := by simpa using n19
    clear hm n0 n1 n2 n3 n4 n5 n6 n7 n8 n9 n10 n11 n12 n13 n14 n15 n16 n17 n18 n19
    go_enter Try.func21, Try.ntmps21
    go_wp2
    go_ret
    exact ⟨rfl, Below.refl _ _⟩
end Go.Proofs.Ytpdnfiofjkbeiaa.step
