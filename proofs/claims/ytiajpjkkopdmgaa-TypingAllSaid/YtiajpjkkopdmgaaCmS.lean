/- Contracts and lemmas that the claims of this seat share: TypingRefKit, PlanPair, StepHas, Line, Sym, StepRefZero. Each says its own conditions. -/
import Derived.Test.YtiajpjkkopdmgaaCmN
import Derived.Test.YtiajpjkkopdmgaaCmQ
import Derived.Test.YtiajpjkkopdmgaaCmR
import Derived.Test.YtiajpjkkopdmgaaCmD
import Derived.Test.YtiajpjkkopdmgaaCmA
import Derived.Laws.Strings
import Derived.Test.YtiajpjkkopdmgaaCmG
import Derived.Test.YtiajpjkkopdmgaaCmP
import Derived.Deep.CutRange

namespace Go.Proofs.Ytiajpjkkopdmgaa.typing
open Go.RowKit Go.Proofs.Ytiajpjkkopdmgaa.schema
open Go.Proofs.Ytiajpjkkopdmgaa.field (newB)
set_option linter.unusedVariables false

/-- a form's variable at S, the row u of its fields behind it -/
structure Fb (S : Nat) (x : Int) (u : Value) (l : List field.Fd) (W0 wr : World) : Prop where
  box : Block wr S 52 [.int .i64 x, u]
  row : wr.ownsRow (S + 1) 26 5 u l.length (fdV l)
  below : Below S W0 wr
theorem Fb.new (x : Int) (W0 : World) : Fb W0.heap.size x (.slice none 0 0) [] W0 (W0.alloc (.cells #[.int .i64 x, .slice none 0 0] 52)) :=
  ⟨Block.new W0 _ _, World.ownsRow_nil _ _ _ _, newB W0 _⟩
theorem Fb.later {S : Nat} {x : Int} {u : Value} {l : List field.Fd} {W0 wr w' : World} (h : Fb S x u l W0 wr) (hb : Below wr.heap.size wr w') : Fb S x u l W0 w' :=
  ⟨h.box.later hb, ownsRow_later h.row hb, h.below.trans (hb.mono (by have := h.box.lt; omega))⟩
theorem Fb.put {S : Nat} {x : Int} {u q : Value} {l l2 : List field.Fd} {W0 wr w2 : World} (h : Fb S x u l W0 wr) (ho : w2.ownsRow wr.heap.size 26 5 q l2.length (fdV l2)) (hb : Below wr.heap.size wr w2) : Fb S x q l2 W0 (w2.setCell ⟨S, 1, none⟩ q) := by
  have hl := h.box.lt
  have hbx := h.box.later hb
  refine ⟨?_, ?_, ?_⟩
  · have := hbx.setCell 1 q; simpa using this
  · exact own_past' (own_low ho (by omega)) (by omega)
  · exact below_setCells (h.below.trans (hb.mono (by omega))) (Nat.le_refl _) 1 [q]
theorem Fb.fds {S : Nat} {x : Int} {a : Option Addr} {c n : Nat} {l : List field.Fd} {W0 wr : World} (h : Fb S x (.slice a n c) l W0 wr) (hn : n = l.length) : field.Fds wr a l ∧ l.length ≤ c := by
  subst hn
  exact ⟨(own_fds h.row).1, (own_fds h.row).2.2⟩
theorem Fb.ok {S : Nat} {x y : Int} {a : Option Addr} {c : Nat} {l : List field.Fd} {W0 wr : World} (h : Fb S x (.slice a l.length c) l W0 wr) : (⟨y, a, c, l⟩ : Fm).Ok wr := ⟨(own_fds h.row).1, (own_cap h.row).1, (own_cap h.row).2⟩

theorem fds_set2 {w : World} {S o : Nat} {t : TypeId} {cs : List Value} {v : Value} {a : Option Addr} {L : List field.Fd} (h : field.Fds w a L) (hB : Block w S t cs) (hc : cs.length < 5) : field.Fds (w.setCell ⟨S, o, none⟩ v) a L := by
  by_cases hL : L = []
  · exact .inl hL
  rcases h with h | ⟨b, off, rfl, hlt, hp⟩
  · exact absurd h hL
  · have hb : b ≠ S := by
      intro e
      subst e
      obtain ⟨f, r, rfl⟩ : ∃ f r, L = f :: r := by cases L with | nil => exact absurd rfl hL | cons f r => exact ⟨f, r, rfl⟩
      have h4 := (hp 0 f rfl).2.2.2.2
      rw [hB.cell] at h4
      have := (List.getElem?_eq_some_iff.1 h4).1
      omega
    have e := fun q => World.cell?_of_block (w := w) (w' := w.setCell ⟨S, o, none⟩ v) (a := ⟨b, q, none⟩) (Below.heap_setCell w ⟨S, o, none⟩ v b hb)
    refine .inr ⟨b, off, rfl, by simpa using hlt, fun i p hp1 => ?_⟩
    obtain ⟨c0, c1, c2, c3, c4⟩ := hp i p hp1
    exact ⟨(e _).trans c0, (e _).trans c1, (e _).trans c2, (e _).trans c3, (e _).trans c4⟩
theorem fml_set2 {w : World} {S o : Nat} {t : TypeId} {cs : List Value} {v : Value} {x : Option Addr} {G : List Fm} (h : FmL w x G) (hx : G ≠ [] → ∀ z, x = some z → z.block ≠ S) (hB : Block w S t cs) (hc : cs.length < 5) : FmL (w.setCell ⟨S, o, none⟩ v) x G := by
  refine ⟨?_, fun p hp => ⟨fds_set2 (h.2 p hp).rf hB hc, (h.2 p hp).cf, (h.2 p hp).df⟩⟩
  by_cases hG : G = []
  · exact .inl hG
  rcases h.1 with h1 | ⟨b, off, rfl, hlt, hp⟩
  · exact absurd h1 hG
  · have hb : b ≠ S := hx hG _ rfl
    have e := fun q => World.cell?_of_block (w := w) (w' := w.setCell ⟨S, o, none⟩ v) (a := ⟨b, q, none⟩) (Below.heap_setCell w ⟨S, o, none⟩ v b hb)
    refine .inr ⟨b, off, rfl, by simpa using hlt, fun i p hp1 => ?_⟩
    obtain ⟨c0, c1⟩ := hp i p hp1
    exact ⟨(e _).trans c0, (e _).trans c1⟩
/-- the call returns a schema and an error as r says; the schema's forms, if any, lie behind the call's world -/
def OnR (r : Int × List schema.Form × Nat) (w : World) (e : Ending) (w' : World) : Prop :=
  ∃ x xc G, e = .returned (.tuple #[.agg #[.int .i64 r.1, .slice x (List.length (α := Fm) G) xc], .int .i64 (r.2.2 : Nat)]) ∧ FmL w' x G ∧ forms G = r.2.1 ∧ (∀ z, x = some z → w.heap.size ≤ z.block) ∧ Below w.heap.size w w'
theorem go_len (x : Int) (l : List field.Fd) : ∀ (F : List schema.Form) (d : Bool), (go x l F d).length ≤ 2 * F.length + 1
  | [], d => by unfold go; split <;> simp
  | p :: r, d => by
    have := go_len x l r (d || decide (x ≤ p.1))
    unfold go
    simp only [List.length_append, List.length_cons]
    have h1 : (if d = false ∧ x ≤ p.1 then [(x, l)] else []).length ≤ 1 := by split <;> simp
    have h2 : (if p.1 = x then [] else [p]).length ≤ 1 := by split <;> simp
    omega
theorem formsR_len (F : List schema.Form) (x : Int) (l : List field.Fd) : (formsR F x l).length ≤ 2 * F.length + 1 := go_len x l F _
/-- what stands when all names are there -/
theorem names_zero {v : Int} {F : List schema.Form} {s : step.Sp} (hf : Fit v F s) (h0 : names F s = 0) (h9 : s.op ≠ 9) :
    ∃ p, named F s.fm = some p ∧ (s.op = 1 → 0 ≤ s.pl ∧ s.pl ≤ p.2.length) ∧ (s.op = 7 → 0 ≤ s.pl ∧ s.pl < p.2.length) ∧ (nf s.op = true → 0 ≤ firstAt (ids p.2) s.fd) := by
  unfold names at h0
  rw [if_neg h9] at h0
  cases hn : named F s.fm with
  | none => rw [hn] at h0; simp at h0
  | some p =>
    rw [hn] at h0
    simp only at h0
    by_cases h1 : nf s.op = true ∧ firstAt (ids p.2) s.fd < 0
    · rw [if_pos h1] at h0; cases h0
    rw [if_neg h1] at h0
    by_cases h2 : (s.op = 1 ∧ 0 ≤ firstAt (ids p.2) s.f.id) ∨ ((s.op = 6 ∨ s.op = 8) ∧ 0 ≤ firstAt (ids p.2) s.tt)
    · rw [if_pos h2] at h0; cases h0
    rw [if_neg h2] at h0
    by_cases h3 : (s.op = 1 ∧ (p.2.length : Int) < s.pl) ∨ (s.op = 7 ∧ (p.2.length : Int) ≤ s.pl)
    · rw [if_pos h3] at h0; cases h0
    refine ⟨p, rfl, fun h => ?_, fun h => ?_, fun h => ?_⟩
    · have hfi := fit_fine hf (m := 2) (by rw [h]; decide)
      unfold step.Sp.Fine at hfi
      simp at hfi
      exact ⟨by omega, Int.not_lt.1 (fun h4 => h3 (.inl ⟨h, h4⟩))⟩
    · have hfi := fit_fine hf (m := 2) (by rw [h]; decide)
      unfold step.Sp.Fine at hfi
      simp at hfi
      exact ⟨by omega, Int.not_le.1 (fun h4 => h3 (.inr ⟨h, h4⟩))⟩
    · exact Int.not_lt.1 (fun h4 => h1 ⟨h, h4⟩)
theorem types_len (f : field.Fd) (s : step.Sp) : (types f s).1.length ≤ 2 := by
  unfold types
  repeat' split
  all_goals simp
theorem types_bd {v : Int} {F : List schema.Form} {s : step.Sp} {f : field.Fd} (hf : Fit v F s) (hor : f.Right) : (s.op = 4 → Bd ⟨s, 0, [], false, 0, f⟩) ∧ (s.op = 6 → Bq ⟨s, 0, [], false, 0, f⟩) := by
  have h5 := right_span hor
  refine ⟨fun h => ?_, fun h => ?_⟩
  · have := fit_fine hf (m := 5) (by rw [h]; decide)
    unfold step.Sp.Fine at this
    simp at this
    unfold Bd
    simp only
    exact ⟨by omega, by omega, by omega, by omega⟩
  · have := fit_fine hf (m := 4) (by rw [h]; decide)
    unfold step.Sp.Fine at this
    simp at this
    unfold Bq
    simp only
    exact ⟨by omega, by omega⟩
theorem exec_addI {o : Oper} {a : Act} {w : World} {x y : Operand} {t : TypeId} {n m : Int} (ho : o.op = .binOp .add 3 x y t) (hx : a.eval x = .int .i64 n) (hy : a.eval y = .int .i64 m) (h : 0 ≤ n + m ∧ n + m ≤ 1000) :
    (execOp a.eval o).run Try.prog w = .ok (.value (.int .i64 (n + m))) w := by
  have h2 : IntKind.i64.wrap (n + m) = n + m := IntWalk.i64_in _ (by omega)
  unfold execOp
  rw [ho]
  simp only [hx, hy]
  go_simp
  try simp [h2]
/-- what one field's cells are in a block of fields -/
theorem block_range {w : World} {b k : Nat} {t : TypeId} {L : List field.Fd} {m : field.Fd} (hB : Block w b t (fdV L)) (hm : L[k]? = some m) : w.rangeAt b (0 + k * 5) [.int .i64 m.id, .int .i64 m.kind, .int .i64 m.lo, .int .i64 m.hi, .int .i64 m.most] := by
  have key : ∀ c, c < 5 → w.cell? ⟨b, 0 + k * 5 + c, none⟩ = (fdC m)[c]? := fun c hc => by
    rw [hB.cell, Nat.zero_add]
    exact fdV_at L k m c hm hc
  exact range5 (key 0 (by omega)) (key 1 (by omega)) (key 2 (by omega)) (key 3 (by omega)) (key 4 (by omega))
/-- the schema's and the step's variables and the result's -/
theorem on_boxes (v : Int) (a : Option Addr) (cap : Nat) (F : List Fm) (s : step.Sp) (ta : Option Addr) (tc : Nat) (la : Option Addr) (lc : Nat) (w : World) :
    ∃ W3, Hid (((((w.alloc (.cells #[.int .i64 v, .slice a F.length cap] 24))).alloc (.cells #[.int .i64 s.op, .int .i64 s.fm, .int .i64 s.fd, .int .i64 s.pl, .int .i64 s.tt, .int .i64 s.a, .int .i64 s.b, .int .i64 s.f.id, .int .i64 s.f.kind, .int .i64 s.f.lo, .int .i64 s.f.hi, .int .i64 s.f.most, .int .i64 s.v.n, .string s.v.s, .slice ta s.t.length tc, .slice la s.l.length lc] 32)).alloc (.cells #[.int .i64 0, .slice none 0 0] 24)) = W3) ∧ Below w.heap.size w W3 ∧ W3.heap.size = w.heap.size + 3 ∧ Hid (∀ w', Below W3.heap.size W3 w' → Block w' w.heap.size 24 [.int .i64 v, .slice a F.length cap] ∧ Block w' (w.heap.size + 1) 32 [.int .i64 s.op, .int .i64 s.fm, .int .i64 s.fd, .int .i64 s.pl, .int .i64 s.tt, .int .i64 s.a, .int .i64 s.b, .int .i64 s.f.id, .int .i64 s.f.kind, .int .i64 s.f.lo, .int .i64 s.f.hi, .int .i64 s.f.most, .int .i64 s.v.n, .string s.v.s, .slice ta s.t.length tc, .slice la s.l.length lc] ∧ Block w' (w.heap.size + 1 + 1) 24 [.int .i64 0, .slice none 0 0] ∧ Below w.heap.size w w') := by
  have hbw : Below w.heap.size w ((((w.alloc (.cells #[.int .i64 v, .slice a F.length cap] 24))).alloc (.cells #[.int .i64 s.op, .int .i64 s.fm, .int .i64 s.fd, .int .i64 s.pl, .int .i64 s.tt, .int .i64 s.a, .int .i64 s.b, .int .i64 s.f.id, .int .i64 s.f.kind, .int .i64 s.f.lo, .int .i64 s.f.hi, .int .i64 s.f.most, .int .i64 s.v.n, .string s.v.s, .slice ta s.t.length tc, .slice la s.l.length lc] 32)).alloc (.cells #[.int .i64 0, .slice none 0 0] 24)) := by
    have h1 := newB w (.cells #[.int .i64 v, .slice a F.length cap] 24)
    have h2 := h1.alloc h1.size (.cells #[.int .i64 s.op, .int .i64 s.fm, .int .i64 s.fd, .int .i64 s.pl, .int .i64 s.tt, .int .i64 s.a, .int .i64 s.b, .int .i64 s.f.id, .int .i64 s.f.kind, .int .i64 s.f.lo, .int .i64 s.f.hi, .int .i64 s.f.most, .int .i64 s.v.n, .string s.v.s, .slice ta s.t.length tc, .slice la s.l.length lc] 32)
    exact h2.alloc h2.size _
  refine ⟨_, hid rfl, hbw, by simp, hid (fun w' hb => ⟨(((Block.new w _ _).alloc _).alloc _).later hb, Block.later (w := ((((w.alloc (.cells #[.int .i64 v, .slice a F.length cap] 24))).alloc (.cells #[.int .i64 s.op, .int .i64 s.fm, .int .i64 s.fd, .int .i64 s.pl, .int .i64 s.tt, .int .i64 s.a, .int .i64 s.b, .int .i64 s.f.id, .int .i64 s.f.kind, .int .i64 s.f.lo, .int .i64 s.f.hi, .int .i64 s.f.most, .int .i64 s.v.n, .string s.v.s, .slice ta s.t.length tc, .slice la s.l.length lc] 32)).alloc (.cells #[.int .i64 0, .slice none 0 0] 24))) ?_ hb, Block.later (w := ((((w.alloc (.cells #[.int .i64 v, .slice a F.length cap] 24))).alloc (.cells #[.int .i64 s.op, .int .i64 s.fm, .int .i64 s.fd, .int .i64 s.pl, .int .i64 s.tt, .int .i64 s.a, .int .i64 s.b, .int .i64 s.f.id, .int .i64 s.f.kind, .int .i64 s.f.lo, .int .i64 s.f.hi, .int .i64 s.f.most, .int .i64 s.v.n, .string s.v.s, .slice ta s.t.length tc, .slice la s.l.length lc] 32)).alloc (.cells #[.int .i64 0, .slice none 0 0] 24))) ?_ hb, hbw.trans (hb.mono (by simp; omega))⟩)⟩
  · have := (Block.new ((w.alloc (.cells #[.int .i64 v, .slice a F.length cap] 24))) 32 [.int .i64 s.op, .int .i64 s.fm, .int .i64 s.fd, .int .i64 s.pl, .int .i64 s.tt, .int .i64 s.a, .int .i64 s.b, .int .i64 s.f.id, .int .i64 s.f.kind, .int .i64 s.f.lo, .int .i64 s.f.hi, .int .i64 s.f.most, .int .i64 s.v.n, .string s.v.s, .slice ta s.t.length tc, .slice la s.l.length lc]).alloc (.cells #[.int .i64 0, .slice none 0 0] 24)
    simpa using this
  · have := Block.new (((w.alloc (.cells #[.int .i64 v, .slice a F.length cap] 24))).alloc (.cells #[.int .i64 s.op, .int .i64 s.fm, .int .i64 s.fd, .int .i64 s.pl, .int .i64 s.tt, .int .i64 s.a, .int .i64 s.b, .int .i64 s.f.id, .int .i64 s.f.kind, .int .i64 s.f.lo, .int .i64 s.f.hi, .int .i64 s.f.most, .int .i64 s.v.n, .string s.v.s, .slice ta s.t.length tc, .slice la s.l.length lc] 32)) 24 [.int .i64 0, .slice none 0 0]
    simpa using this
theorem info_sc : Hid ((Try.prog.info? 24).map (·.size) = some 2) := by show _ = _; kernel_rfl
end Go.Proofs.Ytiajpjkkopdmgaa.typing

namespace Go.Proofs.Ytiajpjkkopdmgaa.plan
open Go Go.RowKit
set_option linter.unusedVariables false
section
variable {P : Program} {md : Region.Mode} {Q : Exit → Act → World → Prop} {l : List Oper}
theorem skipS {S : World → Prop} {f : Nat} {listed : Array Bool} {a : Act} {w : World} (i : Nat) (o : Oper) (hi : l[i]? = some o) (hs : Region.noSelect l.toArray = true) (hf : Region.free md l.toArray listed i = true)
    (hr : (Region.ready md l.toArray listed).contains i = true) (hw : Region.wanted o (yielded l.toArray a.tmps) = false) (hS : S w)
    (h : wpAnyH P md l.toArray (NoPanic Q) S f (listed.setIfInBounds i true) (a.put o.dst undef) w) : wpAnyH P md l.toArray (NoPanic Q) S (f + 1) listed a w :=
  wpAnyH_take (by simpa using hi) hs hf hr (fun c a' w' h => h) (.inr ⟨hw, rfl⟩) hS h
theorem pairS {S : World → Prop} {f : Nat} {listed : Array Bool} {a : Act} {w : World} (iB iC dB dC : Nat) (oB oC : Oper) (F : FuncId) (args : Array Value) (V : Value) (t : TypeId) (cs : List Value) (n base : Nat)
    (hi : iB ≠ iC) (hd : dB ≠ dC) (lB : l[iB]? = some oB) (lC : l[iC]? = some oC) (sB : oB.dst = some dB) (sC : oC.dst = some dC)
    (r0 : Region.ready md l.toArray listed = [iB, iC]) (rB : Region.ready md l.toArray (listed.setIfInBounds iB true) = [iC]) (rC : Region.ready md l.toArray (listed.setIfInBounds iC true) = [iB])
    (wB : Region.wanted oB (yielded l.toArray a.tmps) = true) (wC : Region.wanted oC (yielded l.toArray a.tmps) = true) (wB' : Region.wanted oB (yielded l.toArray (a.put (some dC) V).tmps) = true)
    (wC' : ∀ g, Region.wanted oC (yielded l.toArray (a.put (some dB) (.slice (some ⟨g, 0, none⟩) n n)).tmps) = true)
    (eB : ∀ w, (execOp a.eval oB).run P w = .ok (.value (.slice (some ⟨w.heap.size, 0, none⟩) n n)) (w.alloc (.cells cs.toArray t)))
    (eB' : ∀ w, (execOp (a.put (some dC) V).eval oB).run P w = .ok (.value (.slice (some ⟨w.heap.size, 0, none⟩) n n)) (w.alloc (.cells cs.toArray t)))
    (eC : ∀ w, (execOp a.eval oC).run P w = .ok (.enter F args) w) (eC' : ∀ g w, (execOp (a.put (some dB) (.slice (some ⟨g, 0, none⟩) n n)).eval oC).run P w = .ok (.enter F args) w)
    (hC : ∀ w, S w → Calls P F args w fun e w' => e = .returned V ∧ Below w.heap.size w w')
    (hS : ∀ w w', S w → Below w.heap.size w w' → S w') (hz : ∀ w, S w → base ≤ w.heap.size) (h0 : S w)
    (h : ∀ g w', S w' → Block w' g t cs → base ≤ g → wpAnyH P md l.toArray (NoPanic Q) S f ((listed.setIfInBounds iB true).setIfInBounds iC true) ((a.put (some dB) (.slice (some ⟨g, 0, none⟩) n n)).put (some dC) V) w') :
    wpAnyH P md l.toArray (NoPanic Q) S (f + 2) listed a w := by
  have al : ∀ w : World, Below w.heap.size w (w.alloc (.cells cs.toArray t)) := fun w => (Below.refl _ _).alloc (Nat.le_refl _) _
  refine wpAnyH_all r0 (by simp) fun i hm => ?_
  have hm' : i = iB ∨ i = iC := by simpa using hm
  rcases hm' with rfl | rfl
  · have hi' : l.toArray[i]? = some oB := by simpa using lB
    unfold wpOp
    simp only [hi', wB, if_true, Oper.wp, eB, Oper.upon]
    refine .inl ⟨hS _ _ h0 (al w), ?_⟩
    rw [sB]
    refine wpAnyH_all rB (by simp) fun j hj => ?_
    obtain rfl : j = iC := by simpa using hj
    have hi' : l.toArray[j]? = some oC := by simpa using lC
    unfold wpOp
    simp only [hi', wC', if_true, Oper.wp, eC', Oper.upon]
    refine .inl ((hC _ (hS _ _ h0 (al w))).mono ?_)
    rintro e w' ⟨rfl, hb⟩
    have hS' := hS _ _ (hS _ _ h0 (al w)) hb
    refine ⟨hS', ?_⟩
    rw [sC]
    exact h _ _ hS' ((Block.new w t cs).later hb) (hz _ h0)
  · have hi' : l.toArray[i]? = some oC := by simpa using lC
    unfold wpOp
    simp only [hi', wC, if_true, Oper.wp, eC, Oper.upon]
    refine .inl ((hC _ h0).mono ?_)
    rintro e w' ⟨rfl, hb⟩
    have hS' := hS _ _ h0 hb
    refine ⟨hS', ?_⟩
    rw [sC]
    refine wpAnyH_all rC (by simp) fun j hj => ?_
    obtain rfl : j = iB := by simpa using hj
    have hi' : l.toArray[j]? = some oB := by simpa using lB
    unfold wpOp
    simp only [hi', wB', if_true, Oper.wp, eB', Oper.upon]
    have hS'' := hS _ _ hS' (al w')
    refine .inl ⟨hS'', ?_⟩
    rw [sB, put_comm _ dC dB _ _ hd.symm, Array.setIfInBounds_comm _ _ hi.symm]
    exact h _ _ hS'' (Block.new w' t cs) (hz _ hS')
/-- two operations may come up: one that makes a row, one that is a call that only reads -/
theorem bothW {S : World → Prop} {f : Nat} {listed : Array Bool} {a : Act} {w w1 : World} (iB iC : Nat) (oB oC : Oper) (vB V : Value) (F : FuncId) (args : Array Value) (r0 : Region.ready md l.toArray listed = [iB, iC]) (lB : l[iB]? = some oB) (lC : l[iC]? = some oC)
    (wB : Region.wanted oB (yielded l.toArray a.tmps) = true) (wC : Region.wanted oC (yielded l.toArray a.tmps) = true) (eB : (execOp a.eval oB).run P w = .ok (.value vB) w1) (hS1 : S w1) (eC : (execOp a.eval oC).run P w = .ok (.enter F args) w)
    (hC : Calls P F args w fun e w' => e = .returned V ∧ S w')
    (hb : wpAnyH P md l.toArray (NoPanic Q) S f (listed.setIfInBounds iB true) (a.put oB.dst vB) w1)
    (hc : ∀ w', S w' → wpAnyH P md l.toArray (NoPanic Q) S f (listed.setIfInBounds iC true) (a.put oC.dst V) w') : wpAnyH P md l.toArray (NoPanic Q) S (f + 1) listed a w := by
  refine wpAnyH_all r0 (by simp) fun i hm => ?_
  have hm' : i = iB ∨ i = iC := by simpa using hm
  rcases hm' with rfl | rfl
  · have hi' : l.toArray[i]? = some oB := by simpa using lB
    unfold wpOp
    simp only [hi', wB, if_true, Oper.wp, eB, Oper.upon]
    exact .inl ⟨hS1, hb⟩
  · have hi' : l.toArray[i]? = some oC := by simpa using lC
    unfold wpOp
    simp only [hi', wC, if_true, Oper.wp, eC, Oper.upon]
    refine .inl (hC.mono ?_)
    rintro e w' ⟨rfl, hS'⟩
    exact ⟨hS', hc w' hS'⟩
theorem exec_store_all {o : Oper} {a : Act} {w : World} {ty : TypeId} {x y : Operand} {g : Nat} {t : TypeId} {cs : List Value} {cells : Array Value} (ho : o.op = .store ty x y) (hx : a.eval x = .pointer (some ⟨g, 0, none⟩)) (hy : a.eval y = .agg cells)
    (hb : Block w g t cs) (hl : cs.length = cells.size) (hs : (P.info? ty).map (·.size) = some cells.size) (h1 : cells.all (·.oneCell') = true) : (execOp a.eval o).run P w = .ok .skip (w.setCells g 0 cells.toList) := by
  unfold execOp
  simp [ho, hx, hy, run_storeAt_mid w g 0 ty cells (hb.there 0 cells.size (by omega)) hs h1]
end
end Go.Proofs.Ytiajpjkkopdmgaa.plan

namespace Go.Proofs.Ytiajpjkkopdmgaa.step
open Go.RowKit
open Go.Proofs.Ytiajpjkkopdmgaa.field (Gives newB gives_from)
open Go.Proofs.Ytiajpjkkopdmgaa.schema (take_succ_at)
set_option linter.unusedVariables false

def HasC (op : Int) (c : UInt8) : Bool := decide (c ∈ uses op)
theorem usesS_size (op : Int) : (usesS op).size = (uses op).length := texts.strL_size _
/-- the letter at k -/
theorem usesS_at {op : Int} {k : Nat} {q : UInt8} (h : (uses op)[k]? = some q) (W : World) : (Instr.index 9 (.string (usesS op)) (.int .i64 (k : Int))).run Try.prog W = .ok (.int .u8 (q.toNat : Int)) W := by
  have hk := (List.getElem?_eq_some_iff.1 h).1
  have he := (List.getElem?_eq_some_iff.1 h).2
  rw [run_index_string W _ _ _ _ Try.underlying9, dif_pos ⟨by omega, by rw [usesS_size]; omega⟩]
  congr 2
  rw [← he]
  simp only [Int.toNat_natCast]
  rfl
theorem byte_ne {p q : UInt8} (h : p ≠ q) : ((p.toNat : Int) == (q.toNat : Int)) = false := by
  rw [beq_eq_false_iff_ne]
  intro e
  exact h (UInt8.toNat_inj.1 (by omega))
theorem has_any (op : Int) (c : UInt8) (w : World) : Calls Try.prog 57 #[.int .i64 op, .int .u8 (c.toNat : Int)] w (Gives (.bool (HasC op c)) w) := by
  obtain ⟨v, hv⟩ : ∃ v : Bool, Hid (HasC op c = v) := ⟨_, rfl⟩
  rw [hv.out]
  have cU := uses_any op w
  have hsz := usesS_size op
  have hix := fun (k : Nat) (q : UInt8) (h : (uses op)[k]? = some q) W => usesS_at h W
  have hl5 := uses_len op
  obtain ⟨S, hS⟩ : ∃ S, Hid (usesS op = S) := ⟨_, rfl⟩
  obtain ⟨L, hL⟩ : ∃ L, Hid (uses op = L) := ⟨_, rfl⟩
  have HV : Hid (decide (c ∈ L) = v) := hid (by rw [← hL.out]; exact hv.out)
  rw [hS.out] at cU hsz hix
  rw [hL.out] at hsz hix hl5
  have HIX := hid hix
  unfold Gives at cU ⊢
  clear hix hv
  go_enter Try.func57, Try.ntmps57
  go_wp2_with (go_at_call 53; ((with_reducible refine cU.mono ?_); rintro e w1 ⟨rfl, hb1⟩; have HB1 := hid hb1))
  clear cU
  go_loopw [6] (fun n wr => ∃ k : Nat, k ≤ L.length ∧ n = .int .i64 (k : Int) ∧ Hid (c ∉ L.take k) ∧ Hid (Below w.heap.size w wr)) (fun n _ => L.length - (intOf n).toNat)
  case atStart => exact ⟨0, Nat.zero_le _, rfl, hid (by simp), HB1⟩
  case round =>
    obtain ⟨k, hk, rfl, HN, HB⟩ := hrel
    by_cases hlt : k < L.length
    · have hq := List.getElem?_eq_getElem hlt
      generalize L[k] = q at *
      have hx := fun W => HIX.out k q hq W
      have i1 : (k : Int) < S.size := by rw [hsz]; omega
      have i2 : ((k : Int) < (L.length : Int)) := by omega
      have HS1 := hid (take_succ_at hq)
      have HM := hid (List.mem_of_getElem? hq)
      clear hq
      by_cases hc : q = c
      · subst hc
        obtain rfl : true = v := by rw [← HV.out]; exact (decide_eq_true HM.out).symm
        go_wp2
        go_ret
        exact ⟨rfl, HB.out⟩
      · have hd := byte_ne hc
        have HC := hid hc
        clear hc
        go_wp2
        exact ⟨⟨k + 1, by omega, by go_num, hid (by rw [HS1.out]; intro hm; rcases List.mem_append.1 hm with h | h; exact HN.out h; exact HC.out (List.mem_singleton.1 h).symm), hid HB.out⟩, by simp [intOf]; omega⟩
    · obtain rfl : k = L.length := by omega
      obtain rfl : false = v := by rw [← HV.out]; have := HN.out; rw [List.take_of_length_le (Nat.le_refl _)] at this; exact (decide_eq_false this).symm
      have i1 : ¬ ((L.length : Int) < S.size) := by omega
      go_wp2
      go_ret
      exact ⟨rfl, HB.out⟩
end Go.Proofs.Ytiajpjkkopdmgaa.step

namespace Go.Proofs.Ytiajpjkkopdmgaa.plan
open Go Go.RowKit
set_option linter.unusedVariables false
/-- what is still to be shown from operation i on -/
structure Line (P : Program) (l : List Oper) (Q : Exit → Act → World → Prop) (i : Nat) (a : Act) (w : World) : Prop where
  out : wpList P l.toArray Q (l.drop i) a w
section
variable {P : Program} {l : List Oper} {Q : Exit → Act → World → Prop} {a : Act} {w : World}
theorem line {id : Nat} (h : Line P l Q 0 a w) : (Code.region id l.toArray false).wp P Q a w := wp_region_lit h.out
theorem line_value {w1 : World} (i : Nat) (o : Oper) (v : Value) (hi : l[i]? = some o) (hw : Region.wanted o (yielded l.toArray a.tmps) = true) (hv : (execOp a.eval o).run P w = .ok (.value v) w1) (h : Line P l Q (i + 1) (a.put o.dst v) w1) : Line P l Q i a w := by
  have hk := (List.getElem?_eq_some_iff.1 hi).1
  have he := (List.getElem?_eq_some_iff.1 hi).2
  replace h := h.out
  refine ⟨?_⟩
  rw [List.drop_eq_getElem_cons hk, he]
  unfold wpList
  rw [if_pos hw]
  refine .inl ?_
  unfold Oper.wp
  rw [hv, Oper.upon_value]
  exact h
theorem line_same (i : Nat) (o : Oper) (v : Value) (hi : l[i]? = some o) (hw : Region.wanted o (yielded l.toArray a.tmps) = true) (hv : (execOp a.eval o).run P w = .ok (.value v) w) (h : Line P l Q (i + 1) (a.put o.dst v) w) : Line P l Q i a w := line_value i o v hi hw hv h
theorem line_skip (i : Nat) (o : Oper) (hi : l[i]? = some o) (hw : Region.wanted o (yielded l.toArray a.tmps) = false) (h : Line P l Q (i + 1) (a.put o.dst undef) w) : Line P l Q i a w := by
  have hk := (List.getElem?_eq_some_iff.1 hi).1
  have he := (List.getElem?_eq_some_iff.1 hi).2
  replace h := h.out
  refine ⟨?_⟩
  rw [List.drop_eq_getElem_cons hk, he]
  unfold wpList
  rw [if_neg (by rw [hw]; simp)]
  exact h
theorem line_call (i : Nat) (o : Oper) (F : FuncId) (args : Array Value) (hi : l[i]? = some o) (hw : Region.wanted o (yielded l.toArray a.tmps) = true) (hv : (execOp a.eval o).run P w = .ok (.enter F args) w) (h : Calls P F args w fun e w' => ∃ v, e = .returned v ∧ Line P l Q (i + 1) (a.put o.dst v) w') : Line P l Q i a w := by
  have hk := (List.getElem?_eq_some_iff.1 hi).1
  have he := (List.getElem?_eq_some_iff.1 hi).2
  refine ⟨?_⟩
  rw [List.drop_eq_getElem_cons hk, he]
  unfold wpList
  rw [if_pos hw]
  refine .inl ?_
  unfold Oper.wp
  rw [hv]
  simp only [Oper.upon]
  refine h.mono ?_
  rintro e w' ⟨v, rfl, hR⟩
  exact hR.out
theorem line_done {n : Nat} (hn : l.length ≤ n) (h : Q .normal a w) : Line P l Q n a w := by
  refine ⟨?_⟩
  rw [List.drop_of_length_le hn]
  exact h
end
end Go.Proofs.Ytiajpjkkopdmgaa.plan

namespace Go.Proofs.Ytiajpjkkopdmgaa.plan
open Go Go.RowKit
set_option linter.unusedVariables false
/-- the test that a value stands for holds -/
def gate (x : Value) (want : Bool) : Bool := (match x with | .bool b => some b | _ => none : Option Bool) == some want
theorem gate_iff {x : Value} {want : Bool} : gate x want = true ↔ x = .bool want := by
  unfold gate
  cases x <;> simp
theorem wanted_gate {o : Oper} {ops : Array Oper} {tmps : Array Value} {j : Nat} {want : Bool} {x : Value} (hg : o.guard = some (j, want)) (hj : ((ops[j]?).bind (·.dst)).bind (tmps[·]?) = some x) : Region.wanted o (yielded ops tmps) = gate x want := by
  unfold Region.wanted yielded gate
  rw [hg]
  simp only [hj]
  cases x <;> rfl
section
variable {P : Program} {l : List Oper} {Q : Exit → Act → World → Prop} {a : Act} {w : World}
theorem sym_op (i j : Nat) (o : Oper) (want : Bool) (x v : Value) (hi : l[i]? = some o) (hg : o.guard = some (j, want)) (hj : ((l.toArray[j]?).bind (·.dst)).bind (a.tmps[·]?) = some x)
    (hv : x = .bool want → (execOp a.eval o).run P w = .ok (.value v) w) (h : ∀ y, (x = .bool want → y = v) → Line P l Q (i + 1) (a.put o.dst y) w) : Line P l Q i a w := by
  by_cases hb : gate x want = true
  · exact line_same i o v hi ((wanted_gate hg hj).trans hb) (hv (gate_iff.1 hb)) (h v (fun _ => rfl))
  · exact line_skip i o hi ((wanted_gate hg hj).trans (by simpa using hb)) (h undef (fun e => absurd (gate_iff.2 e) hb))
theorem sym_call (i j : Nat) (o : Oper) (want : Bool) (x v : Value) (F : FuncId) (args : Array Value) (S : World → Prop) (hi : l[i]? = some o) (hg : o.guard = some (j, want)) (hj : ((l.toArray[j]?).bind (·.dst)).bind (a.tmps[·]?) = some x) (hS : S w)
    (hv : x = .bool want → (execOp a.eval o).run P w = .ok (.enter F args) w) (hC : x = .bool want → Calls P F args w fun e w' => e = .returned v ∧ S w') (h : ∀ y w', S w' → (x = .bool want → y = v) → Line P l Q (i + 1) (a.put o.dst y) w') : Line P l Q i a w := by
  by_cases hb : gate x want = true
  · refine line_call i o F args hi ((wanted_gate hg hj).trans hb) (hv (gate_iff.1 hb)) ((hC (gate_iff.1 hb)).mono ?_)
    rintro e w' ⟨rfl, hS'⟩
    exact ⟨v, rfl, h v w' hS' (fun _ => rfl)⟩
  · exact line_skip i o hi ((wanted_gate hg hj).trans (by simpa using hb)) (h undef w hS (fun e => absurd (gate_iff.2 e) hb))
theorem call_S (i : Nat) (o : Oper) (v : Value) (F : FuncId) (args : Array Value) (S : World → Prop) (hi : l[i]? = some o) (hw : Region.wanted o (yielded l.toArray a.tmps) = true)
    (hv : (execOp a.eval o).run P w = .ok (.enter F args) w) (hC : Calls P F args w fun e w' => e = .returned v ∧ S w') (h : ∀ w', S w' → Line P l Q (i + 1) (a.put o.dst v) w') : Line P l Q i a w := by
  refine line_call i o F args hi hw hv (hC.mono ?_)
  rintro e w' ⟨rfl, hS'⟩
  exact ⟨v, rfl, h w' hS'⟩
theorem exec_pick_or {o : Oper} {x y : Operand} {c e : Bool} (ho : o.op = .pick x (.const (.bool true)) y) (hx : a.eval x = .bool c) (hy : c = false → a.eval y = .bool e) : (execOp a.eval o).run P w = .ok (.value (.bool (c || e))) w := by
  unfold execOp
  rw [ho]
  cases c
  · simp only [hx, hy rfl]; go_simp
  · simp only [hx]; go_simp
theorem exec_pick_and {o : Oper} {x y : Operand} {c e : Bool} (ho : o.op = .pick x y (.const (.bool false))) (hx : a.eval x = .bool c) (hy : c = true → a.eval y = .bool e) : (execOp a.eval o).run P w = .ok (.value (.bool (c && e))) w := by
  unfold execOp
  rw [ho]
  cases c
  · simp only [hx]; go_simp
  · simp only [hx, hy rfl]; go_simp
theorem exec_as {o : Oper} {c e : Bool} (h : (execOp a.eval o).run P w = .ok (.value (.bool c)) w) (he : c = e) : (execOp a.eval o).run P w = .ok (.value (.bool e)) w := he ▸ h
theorem exec_assign_b {o : Oper} {x : Operand} {c e : Bool} (ho : o.op = .assign x) (hx : a.eval x = .bool c) (he : c = e) : (execOp a.eval o).run P w = .ok (.value (.bool e)) w := by
  unfold execOp
  rw [ho]
  simp only [hx, he]
  go_simp
end
end Go.Proofs.Ytiajpjkkopdmgaa.plan

namespace Go.Proofs.Ytiajpjkkopdmgaa.step
open Go.RowKit
open Go.Proofs.Ytiajpjkkopdmgaa.field (Gives newB gives_from)
open Go.Proofs.Ytiajpjkkopdmgaa.schema (below_out exec_two exec_load_at exec_cell_slice exec_cell_int exec_neq_int exec_gtr_int info_fd)
set_option linter.unusedVariables false

theorem exec_eql_int {o : Oper} {a : Act} {w : World} {x y : Operand} {t' : TypeId} {n m : Int} (ho : o.op = .binOp .eql 3 x y t') (hx : a.eval x = .int .i64 n) (hy : a.eval y = .int .i64 m) : (execOp a.eval o).run Try.prog w = .ok (.value (.bool (n == m))) w :=
  exec_two ho hx hy (by simp [go_sem]) (by simp [go_sem])
/-- all that is not used is zero, as the reference asks it -/
def Sp.zeroB (s : Sp) : Bool :=
  ((((HasC s.op 100 || s.fd == 0) && (HasC s.op 112 || s.pl == 0)) && (HasC s.op 116 || s.tt == 0)) && ((HasC s.op 97 || HasC s.op 98) || s.a == 0) && (HasC s.op 98 || s.b == 0)) &&
    (HasC s.op 70 || decide (s.f = fd0)) && (HasC s.op 86 || decide (s.v = va0)) && (HasC s.op 84 || (s.t.length : Int) == 0) && (HasC s.op 76 || (s.l.length : Int) == 0)
set_option maxRecDepth 20000 in
set_option maxHeartbeats 6400000 in
theorem refZero_any (s : Sp) (ta : Option Addr) (tc : Nat) (la : Option Addr) (lc : Nat) (w : World) (h : Lists w s ta la) : Calls Try.prog 54 #[.agg #[.int .i64 s.op, .int .i64 s.fm, .int .i64 s.fd, .int .i64 s.pl, .int .i64 s.tt, .int .i64 s.a, .int .i64 s.b, .int .i64 s.f.id, .int .i64 s.f.kind, .int .i64 s.f.lo, .int .i64 s.f.hi, .int .i64 s.f.most, .int .i64 s.v.n, .string s.v.s, .slice ta s.t.length tc, .slice la s.l.length lc]] w (Gives (.bool s.zeroB) w) := by
  have HZ : Hid (∀ w', Below (w.alloc (.cells #[.int .i64 s.op, .int .i64 s.fm, .int .i64 s.fd, .int .i64 s.pl, .int .i64 s.tt, .int .i64 s.a, .int .i64 s.b, .int .i64 s.f.id, .int .i64 s.f.kind, .int .i64 s.f.lo, .int .i64 s.f.hi, .int .i64 s.f.most, .int .i64 s.v.n, .string s.v.s, .slice ta s.t.length tc, .slice la s.l.length lc] 32)).heap.size (w.alloc (.cells #[.int .i64 s.op, .int .i64 s.fm, .int .i64 s.fd, .int .i64 s.pl, .int .i64 s.tt, .int .i64 s.a, .int .i64 s.b, .int .i64 s.f.id, .int .i64 s.f.kind, .int .i64 s.f.lo, .int .i64 s.f.hi, .int .i64 s.f.most, .int .i64 s.v.n, .string s.v.s, .slice ta s.t.length tc, .slice la s.l.length lc] 32)) w' → Block w' w.heap.size 32 [.int .i64 s.op, .int .i64 s.fm, .int .i64 s.fd, .int .i64 s.pl, .int .i64 s.tt, .int .i64 s.a, .int .i64 s.b, .int .i64 s.f.id, .int .i64 s.f.kind, .int .i64 s.f.lo, .int .i64 s.f.hi, .int .i64 s.f.most, .int .i64 s.v.n, .string s.v.s, .slice ta s.t.length tc, .slice la s.l.length lc]) := hid (fun w' hb => (Block.new w 32 [.int .i64 s.op, .int .i64 s.fm, .int .i64 s.fd, .int .i64 s.pl, .int .i64 s.tt, .int .i64 s.a, .int .i64 s.b, .int .i64 s.f.id, .int .i64 s.f.kind, .int .i64 s.f.lo, .int .i64 s.f.hi, .int .i64 s.f.most, .int .i64 s.v.n, .string s.v.s, .slice ta s.t.length tc, .slice la s.l.length lc]).later hb)
  have HL := hid (h.below (newB w (.cells #[.int .i64 s.op, .int .i64 s.fm, .int .i64 s.fd, .int .i64 s.pl, .int .i64 s.tt, .int .i64 s.a, .int .i64 s.b, .int .i64 s.f.id, .int .i64 s.f.kind, .int .i64 s.f.lo, .int .i64 s.f.hi, .int .i64 s.f.most, .int .i64 s.v.n, .string s.v.s, .slice ta s.t.length tc, .slice la s.l.length lc] 32)))
  have HB0 := hid (newB w (.cells #[.int .i64 s.op, .int .i64 s.fm, .int .i64 s.fd, .int .i64 s.pl, .int .i64 s.tt, .int .i64 s.a, .int .i64 s.b, .int .i64 s.f.id, .int .i64 s.f.kind, .int .i64 s.f.lo, .int .i64 s.f.hi, .int .i64 s.f.most, .int .i64 s.v.n, .string s.v.s, .slice ta s.t.length tc, .slice la s.l.length lc] 32))
  obtain ⟨W0, hW0⟩ : ∃ x, (w.alloc (.cells #[.int .i64 s.op, .int .i64 s.fm, .int .i64 s.fd, .int .i64 s.pl, .int .i64 s.tt, .int .i64 s.a, .int .i64 s.b, .int .i64 s.f.id, .int .i64 s.f.kind, .int .i64 s.f.lo, .int .i64 s.f.hi, .int .i64 s.f.most, .int .i64 s.v.n, .string s.v.s, .slice ta s.t.length tc, .slice la s.l.length lc] 32)) = x := ⟨_, rfl⟩
  have HW0 := hid hW0
  rw [hW0] at HZ HL HB0
  clear h hW0
  unfold Gives
  go_enter Try.func54, Try.ntmps54
  go_upto_region 1 with fail
  rw [HW0.out]
  have hS0 : Below W0.heap.size W0 W0 := Below.refl _ _
  refine plan.line ?_
  refine plan.line_same 0 _ (.pointer (some ⟨w.heap.size, 0, none⟩)) rfl (by kernel_rfl) (by kernel_rfl) ?_
  refine plan.line_same 1 _ (.int .i64 s.op) rfl (by kernel_rfl) (exec_cell_int (ad := ⟨w.heap.size, 0, none⟩) rfl (by kernel_rfl) ((HZ.out _ hS0).cell 0) Try.isAgg3) ?_
  refine plan.call_S 2 _ (.bool (HasC s.op 100)) 57 #[.int .i64 s.op, .int .u8 100] (fun w' => Below W0.heap.size W0 w') rfl (by kernel_rfl) (by kernel_rfl) (gives_from (has_any s.op 100 W0) hS0) ?_
  intro wa2 hSa2
  refine plan.line_same 3 _ (.bool (HasC s.op 100)) rfl (by kernel_rfl) (by kernel_rfl) ?_
  refine plan.sym_op 4 3 _ false (.bool (HasC s.op 100)) (.pointer (some ⟨w.heap.size, 2, none⟩)) rfl rfl (by kernel_rfl) (fun K => (by kernel_rfl)) ?_
  intro xa4 ha4
  refine plan.sym_op 5 3 _ false (.bool (HasC s.op 100)) (.int .i64 s.fd) rfl rfl (by kernel_rfl) (fun K => by have e := ha4 K; subst e; exact (exec_cell_int (ad := ⟨w.heap.size, 2, none⟩) rfl (by kernel_rfl) ((HZ.out _ hSa2).cell 2) Try.isAgg3)) ?_
  intro xa5 ha5
  refine plan.sym_op 6 3 _ false (.bool (HasC s.op 100)) (.bool (s.fd == 0)) rfl rfl (by kernel_rfl) (fun K => by have e := ha5 K; subst e; exact (exec_eql_int (n := s.fd) (m := 0) rfl (by kernel_rfl) (by kernel_rfl))) ?_
  intro xa6 ha6
  refine plan.line_same 7 _ (.bool ((HasC s.op 100) || (s.fd == 0))) rfl (by kernel_rfl) (plan.exec_pick_or (c := (HasC s.op 100)) (e := (s.fd == 0)) rfl (by kernel_rfl) (fun q => Eq.trans (b := xa6) (by kernel_rfl) (ha6 (by rw [q])))) ?_
  refine plan.line_same 8 _ (.bool ((HasC s.op 100) || (s.fd == 0))) rfl (by kernel_rfl) (by kernel_rfl) ?_
  refine plan.sym_op 9 8 _ true (.bool ((HasC s.op 100) || (s.fd == 0))) (.pointer (some ⟨w.heap.size, 0, none⟩)) rfl rfl (by kernel_rfl) (fun K => (by kernel_rfl)) ?_
  intro xa9 ha9
  refine plan.sym_op 10 8 _ true (.bool ((HasC s.op 100) || (s.fd == 0))) (.int .i64 s.op) rfl rfl (by kernel_rfl) (fun K => by have e := ha9 K; subst e; exact (exec_cell_int (ad := ⟨w.heap.size, 0, none⟩) rfl (by kernel_rfl) ((HZ.out _ hSa2).cell 0) Try.isAgg3)) ?_
  intro xa10 ha10
  refine plan.sym_call 11 8 _ true (.bool ((HasC s.op 100) || (s.fd == 0))) (.bool (HasC s.op 112)) 57 #[.int .i64 s.op, .int .u8 112] (fun w' => Below W0.heap.size W0 w') rfl rfl (by kernel_rfl) hSa2 (fun K => by have e := ha10 K; subst e; show _ = _; kernel_rfl) (fun K => gives_from (has_any s.op 112 wa2) hSa2) ?_
  intro xa11 wa11 hSa11 ha11
  refine plan.sym_op 12 8 _ true (.bool ((HasC s.op 100) || (s.fd == 0))) (.bool (HasC s.op 112)) rfl rfl (by kernel_rfl) (fun K => by have e := ha11 K; subst e; show _ = _; kernel_rfl) ?_
  intro xa12 ha12
  refine plan.sym_op 13 12 _ false (xa12) (.pointer (some ⟨w.heap.size, 3, none⟩)) rfl rfl (by kernel_rfl) (fun K => (by kernel_rfl)) ?_
  intro xa13 ha13
  refine plan.sym_op 14 12 _ false (xa12) (.int .i64 s.pl) rfl rfl (by kernel_rfl) (fun K => by have e := ha13 K; subst e; exact (exec_cell_int (ad := ⟨w.heap.size, 3, none⟩) rfl (by kernel_rfl) ((HZ.out _ hSa11).cell 3) Try.isAgg3)) ?_
  intro xa14 ha14
  refine plan.sym_op 15 12 _ false (xa12) (.bool (s.pl == 0)) rfl rfl (by kernel_rfl) (fun K => by have e := ha14 K; subst e; exact (exec_eql_int (n := s.pl) (m := 0) rfl (by kernel_rfl) (by kernel_rfl))) ?_
  intro xa15 ha15
  refine plan.sym_op 16 8 _ true (.bool ((HasC s.op 100) || (s.fd == 0))) (.bool ((HasC s.op 112) || (s.pl == 0))) rfl rfl (by kernel_rfl) (fun K => by have e := ha12 K; subst e; exact (plan.exec_pick_or (c := (HasC s.op 112)) (e := (s.pl == 0)) rfl (by kernel_rfl) (fun q => Eq.trans (b := xa15) (by kernel_rfl) (ha15 (by rw [q]))))) ?_
  intro xa16 ha16
  refine plan.line_same 17 _ (.bool (((HasC s.op 100) || (s.fd == 0)) && ((HasC s.op 112) || (s.pl == 0)))) rfl (by kernel_rfl) (plan.exec_pick_and (c := ((HasC s.op 100) || (s.fd == 0))) (e := ((HasC s.op 112) || (s.pl == 0))) rfl (by kernel_rfl) (fun q => Eq.trans (b := xa16) (by kernel_rfl) (ha16 (by rw [q])))) ?_
  refine plan.line_same 18 _ (.bool (((HasC s.op 100) || (s.fd == 0)) && ((HasC s.op 112) || (s.pl == 0)))) rfl (by kernel_rfl) (by kernel_rfl) ?_
  refine plan.sym_op 19 18 _ true (.bool (((HasC s.op 100) || (s.fd == 0)) && ((HasC s.op 112) || (s.pl == 0)))) (.pointer (some ⟨w.heap.size, 0, none⟩)) rfl rfl (by kernel_rfl) (fun K => (by kernel_rfl)) ?_
  intro xa19 ha19
  refine plan.sym_op 20 18 _ true (.bool (((HasC s.op 100) || (s.fd == 0)) && ((HasC s.op 112) || (s.pl == 0)))) (.int .i64 s.op) rfl rfl (by kernel_rfl) (fun K => by have e := ha19 K; subst e; exact (exec_cell_int (ad := ⟨w.heap.size, 0, none⟩) rfl (by kernel_rfl) ((HZ.out _ hSa11).cell 0) Try.isAgg3)) ?_
  intro xa20 ha20
  refine plan.sym_call 21 18 _ true (.bool (((HasC s.op 100) || (s.fd == 0)) && ((HasC s.op 112) || (s.pl == 0)))) (.bool (HasC s.op 116)) 57 #[.int .i64 s.op, .int .u8 116] (fun w' => Below W0.heap.size W0 w') rfl rfl (by kernel_rfl) hSa11 (fun K => by have e := ha20 K; subst e; show _ = _; kernel_rfl) (fun K => gives_from (has_any s.op 116 wa11) hSa11) ?_
  intro xa21 wa21 hSa21 ha21
  refine plan.sym_op 22 18 _ true (.bool (((HasC s.op 100) || (s.fd == 0)) && ((HasC s.op 112) || (s.pl == 0)))) (.bool (HasC s.op 116)) rfl rfl (by kernel_rfl) (fun K => by have e := ha21 K; subst e; show _ = _; kernel_rfl) ?_
  intro xa22 ha22
  refine plan.sym_op 23 22 _ false (xa22) (.pointer (some ⟨w.heap.size, 4, none⟩)) rfl rfl (by kernel_rfl) (fun K => (by kernel_rfl)) ?_
  intro xa23 ha23
  refine plan.sym_op 24 22 _ false (xa22) (.int .i64 s.tt) rfl rfl (by kernel_rfl) (fun K => by have e := ha23 K; subst e; exact (exec_cell_int (ad := ⟨w.heap.size, 4, none⟩) rfl (by kernel_rfl) ((HZ.out _ hSa21).cell 4) Try.isAgg3)) ?_
  intro xa24 ha24
  refine plan.sym_op 25 22 _ false (xa22) (.bool (s.tt == 0)) rfl rfl (by kernel_rfl) (fun K => by have e := ha24 K; subst e; exact (exec_eql_int (n := s.tt) (m := 0) rfl (by kernel_rfl) (by kernel_rfl))) ?_
  intro xa25 ha25
  refine plan.sym_op 26 18 _ true (.bool (((HasC s.op 100) || (s.fd == 0)) && ((HasC s.op 112) || (s.pl == 0)))) (.bool ((HasC s.op 116) || (s.tt == 0))) rfl rfl (by kernel_rfl) (fun K => by have e := ha22 K; subst e; exact (plan.exec_pick_or (c := (HasC s.op 116)) (e := (s.tt == 0)) rfl (by kernel_rfl) (fun q => Eq.trans (b := xa25) (by kernel_rfl) (ha25 (by rw [q]))))) ?_
  intro xa26 ha26
  refine plan.line_same 27 _ (.bool ((((HasC s.op 100) || (s.fd == 0)) && ((HasC s.op 112) || (s.pl == 0))) && ((HasC s.op 116) || (s.tt == 0)))) rfl (by kernel_rfl) (plan.exec_pick_and (c := (((HasC s.op 100) || (s.fd == 0)) && ((HasC s.op 112) || (s.pl == 0)))) (e := ((HasC s.op 116) || (s.tt == 0))) rfl (by kernel_rfl) (fun q => Eq.trans (b := xa26) (by kernel_rfl) (ha26 (by rw [q])))) ?_
  obtain ⟨k1, hk1⟩ : ∃ q, Hid (((((HasC s.op 100) || (s.fd == 0)) && ((HasC s.op 112) || (s.pl == 0))) && ((HasC s.op 116) || (s.tt == 0))) = q) := ⟨_, hid rfl⟩
  refine plan.line_same 28 _ (.bool k1) rfl (by kernel_rfl) (plan.exec_assign_b (c := ((((HasC s.op 100) || (s.fd == 0)) && ((HasC s.op 112) || (s.pl == 0))) && ((HasC s.op 116) || (s.tt == 0)))) rfl (by kernel_rfl) hk1.out) ?_
  refine plan.line_done (by decide) ?_
  walk_nrm
  go_upto_region 2 with fail
  refine plan.line ?_
  refine plan.line_same 0 _ (.bool k1) rfl (by kernel_rfl) (by kernel_rfl) ?_
  refine plan.line_same 1 _ (.bool k1) rfl (by kernel_rfl) (by kernel_rfl) ?_
  refine plan.sym_op 2 1 _ true (.bool k1) (.pointer (some ⟨w.heap.size, 0, none⟩)) rfl rfl (by kernel_rfl) (fun K => (by kernel_rfl)) ?_
  intro xb2 hb2
  refine plan.sym_op 3 1 _ true (.bool k1) (.int .i64 s.op) rfl rfl (by kernel_rfl) (fun K => by have e := hb2 K; subst e; exact (exec_cell_int (ad := ⟨w.heap.size, 0, none⟩) rfl (by kernel_rfl) ((HZ.out _ hSa21).cell 0) Try.isAgg3)) ?_
  intro xb3 hb3
  refine plan.sym_call 4 1 _ true (.bool k1) (.bool (HasC s.op 97)) 57 #[.int .i64 s.op, .int .u8 97] (fun w' => Below W0.heap.size W0 w') rfl rfl (by kernel_rfl) hSa21 (fun K => by have e := hb3 K; subst e; show _ = _; kernel_rfl) (fun K => gives_from (has_any s.op 97 wa21) hSa21) ?_
  intro xb4 wb4 hSb4 hb4
  refine plan.sym_op 5 1 _ true (.bool k1) (.bool (HasC s.op 97)) rfl rfl (by kernel_rfl) (fun K => by have e := hb4 K; subst e; show _ = _; kernel_rfl) ?_
  intro xb5 hb5
  refine plan.sym_op 6 5 _ false (xb5) (.pointer (some ⟨w.heap.size, 0, none⟩)) rfl rfl (by kernel_rfl) (fun K => (by kernel_rfl)) ?_
  intro xb6 hb6
  refine plan.sym_op 7 5 _ false (xb5) (.int .i64 s.op) rfl rfl (by kernel_rfl) (fun K => by have e := hb6 K; subst e; exact (exec_cell_int (ad := ⟨w.heap.size, 0, none⟩) rfl (by kernel_rfl) ((HZ.out _ hSb4).cell 0) Try.isAgg3)) ?_
  intro xb7 hb7
  refine plan.sym_call 8 5 _ false (xb5) (.bool (HasC s.op 98)) 57 #[.int .i64 s.op, .int .u8 98] (fun w' => Below W0.heap.size W0 w') rfl rfl (by kernel_rfl) hSb4 (fun K => by have e := hb7 K; subst e; show _ = _; kernel_rfl) (fun K => gives_from (has_any s.op 98 wb4) hSb4) ?_
  intro xb8 wb8 hSb8 hb8
  refine plan.sym_op 9 1 _ true (.bool k1) (.bool ((HasC s.op 97) || (HasC s.op 98))) rfl rfl (by kernel_rfl) (fun K => by have e := hb5 K; subst e; exact (plan.exec_pick_or (c := (HasC s.op 97)) (e := (HasC s.op 98)) rfl (by kernel_rfl) (fun q => Eq.trans (b := xb8) (by kernel_rfl) (hb8 (by rw [q]))))) ?_
  intro xb9 hb9
  refine plan.sym_op 10 1 _ true (.bool k1) (.bool ((HasC s.op 97) || (HasC s.op 98))) rfl rfl (by kernel_rfl) (fun K => by have e := hb9 K; subst e; show _ = _; kernel_rfl) ?_
  intro xb10 hb10
  refine plan.sym_op 11 10 _ false (xb10) (.pointer (some ⟨w.heap.size, 5, none⟩)) rfl rfl (by kernel_rfl) (fun K => (by kernel_rfl)) ?_
  intro xb11 hb11
  refine plan.sym_op 12 10 _ false (xb10) (.int .i64 s.a) rfl rfl (by kernel_rfl) (fun K => by have e := hb11 K; subst e; exact (exec_cell_int (ad := ⟨w.heap.size, 5, none⟩) rfl (by kernel_rfl) ((HZ.out _ hSb8).cell 5) Try.isAgg3)) ?_
  intro xb12 hb12
  refine plan.sym_op 13 10 _ false (xb10) (.bool (s.a == 0)) rfl rfl (by kernel_rfl) (fun K => by have e := hb12 K; subst e; exact (exec_eql_int (n := s.a) (m := 0) rfl (by kernel_rfl) (by kernel_rfl))) ?_
  intro xb13 hb13
  refine plan.sym_op 14 1 _ true (.bool k1) (.bool (((HasC s.op 97) || (HasC s.op 98)) || (s.a == 0))) rfl rfl (by kernel_rfl) (fun K => by have e := hb10 K; subst e; exact (plan.exec_pick_or (c := ((HasC s.op 97) || (HasC s.op 98))) (e := (s.a == 0)) rfl (by kernel_rfl) (fun q => Eq.trans (b := xb13) (by kernel_rfl) (hb13 (by rw [q]))))) ?_
  intro xb14 hb14
  refine plan.line_same 15 _ (.bool (k1 && (((HasC s.op 97) || (HasC s.op 98)) || (s.a == 0)))) rfl (by kernel_rfl) (plan.exec_pick_and (c := k1) (e := (((HasC s.op 97) || (HasC s.op 98)) || (s.a == 0))) rfl (by kernel_rfl) (fun q => Eq.trans (b := xb14) (by kernel_rfl) (hb14 (by rw [q])))) ?_
  refine plan.line_same 16 _ (.bool (k1 && (((HasC s.op 97) || (HasC s.op 98)) || (s.a == 0)))) rfl (by kernel_rfl) (by kernel_rfl) ?_
  refine plan.sym_op 17 16 _ true (.bool (k1 && (((HasC s.op 97) || (HasC s.op 98)) || (s.a == 0)))) (.pointer (some ⟨w.heap.size, 0, none⟩)) rfl rfl (by kernel_rfl) (fun K => (by kernel_rfl)) ?_
  intro xb17 hb17
  refine plan.sym_op 18 16 _ true (.bool (k1 && (((HasC s.op 97) || (HasC s.op 98)) || (s.a == 0)))) (.int .i64 s.op) rfl rfl (by kernel_rfl) (fun K => by have e := hb17 K; subst e; exact (exec_cell_int (ad := ⟨w.heap.size, 0, none⟩) rfl (by kernel_rfl) ((HZ.out _ hSb8).cell 0) Try.isAgg3)) ?_
  intro xb18 hb18
  refine plan.sym_call 19 16 _ true (.bool (k1 && (((HasC s.op 97) || (HasC s.op 98)) || (s.a == 0)))) (.bool (HasC s.op 98)) 57 #[.int .i64 s.op, .int .u8 98] (fun w' => Below W0.heap.size W0 w') rfl rfl (by kernel_rfl) hSb8 (fun K => by have e := hb18 K; subst e; show _ = _; kernel_rfl) (fun K => gives_from (has_any s.op 98 wb8) hSb8) ?_
  intro xb19 wb19 hSb19 hb19
  refine plan.sym_op 20 16 _ true (.bool (k1 && (((HasC s.op 97) || (HasC s.op 98)) || (s.a == 0)))) (.bool (HasC s.op 98)) rfl rfl (by kernel_rfl) (fun K => by have e := hb19 K; subst e; show _ = _; kernel_rfl) ?_
  intro xb20 hb20
  refine plan.sym_op 21 20 _ false (xb20) (.pointer (some ⟨w.heap.size, 6, none⟩)) rfl rfl (by kernel_rfl) (fun K => (by kernel_rfl)) ?_
  intro xb21 hb21
  refine plan.sym_op 22 20 _ false (xb20) (.int .i64 s.b) rfl rfl (by kernel_rfl) (fun K => by have e := hb21 K; subst e; exact (exec_cell_int (ad := ⟨w.heap.size, 6, none⟩) rfl (by kernel_rfl) ((HZ.out _ hSb19).cell 6) Try.isAgg3)) ?_
  intro xb22 hb22
  refine plan.sym_op 23 20 _ false (xb20) (.bool (s.b == 0)) rfl rfl (by kernel_rfl) (fun K => by have e := hb22 K; subst e; exact (exec_eql_int (n := s.b) (m := 0) rfl (by kernel_rfl) (by kernel_rfl))) ?_
  intro xb23 hb23
  refine plan.sym_op 24 16 _ true (.bool (k1 && (((HasC s.op 97) || (HasC s.op 98)) || (s.a == 0)))) (.bool ((HasC s.op 98) || (s.b == 0))) rfl rfl (by kernel_rfl) (fun K => by have e := hb20 K; subst e; exact (plan.exec_pick_or (c := (HasC s.op 98)) (e := (s.b == 0)) rfl (by kernel_rfl) (fun q => Eq.trans (b := xb23) (by kernel_rfl) (hb23 (by rw [q]))))) ?_
  intro xb24 hb24
  refine plan.line_same 25 _ (.bool ((k1 && (((HasC s.op 97) || (HasC s.op 98)) || (s.a == 0))) && ((HasC s.op 98) || (s.b == 0)))) rfl (by kernel_rfl) (plan.exec_pick_and (c := (k1 && (((HasC s.op 97) || (HasC s.op 98)) || (s.a == 0)))) (e := ((HasC s.op 98) || (s.b == 0))) rfl (by kernel_rfl) (fun q => Eq.trans (b := xb24) (by kernel_rfl) (hb24 (by rw [q])))) ?_
  obtain ⟨k2, hk2⟩ : ∃ q, Hid (((k1 && (((HasC s.op 97) || (HasC s.op 98)) || (s.a == 0))) && ((HasC s.op 98) || (s.b == 0))) = q) := ⟨_, hid rfl⟩
  refine plan.line_same 26 _ (.bool k2) rfl (by kernel_rfl) (plan.exec_assign_b (c := ((k1 && (((HasC s.op 97) || (HasC s.op 98)) || (s.a == 0))) && ((HasC s.op 98) || (s.b == 0)))) rfl (by kernel_rfl) hk2.out) ?_
  refine plan.line_done (by decide) ?_
  walk_nrm
  go_upto_region 3 with fail
  refine plan.line ?_
  refine plan.line_same 0 _ (.bool k2) rfl (by kernel_rfl) (by kernel_rfl) ?_
  refine plan.line_same 1 _ (.bool k2) rfl (by kernel_rfl) (by kernel_rfl) ?_
  refine plan.sym_op 2 1 _ true (.bool k2) (.pointer (some ⟨w.heap.size, 0, none⟩)) rfl rfl (by kernel_rfl) (fun K => (by kernel_rfl)) ?_
  intro xc2 hc2
  refine plan.sym_op 3 1 _ true (.bool k2) (.int .i64 s.op) rfl rfl (by kernel_rfl) (fun K => by have e := hc2 K; subst e; exact (exec_cell_int (ad := ⟨w.heap.size, 0, none⟩) rfl (by kernel_rfl) ((HZ.out _ hSb19).cell 0) Try.isAgg3)) ?_
  intro xc3 hc3
  refine plan.sym_call 4 1 _ true (.bool k2) (.bool (HasC s.op 70)) 57 #[.int .i64 s.op, .int .u8 70] (fun w' => Below W0.heap.size W0 w') rfl rfl (by kernel_rfl) hSb19 (fun K => by have e := hc3 K; subst e; show _ = _; kernel_rfl) (fun K => gives_from (has_any s.op 70 wb19) hSb19) ?_
  intro xc4 wc4 hSc4 hc4
  refine plan.sym_op 5 1 _ true (.bool k2) (.bool (HasC s.op 70)) rfl rfl (by kernel_rfl) (fun K => by have e := hc4 K; subst e; show _ = _; kernel_rfl) ?_
  intro xc5 hc5
  refine plan.sym_op 6 5 _ false (xc5) (.pointer (some ⟨w.heap.size, 7, none⟩)) rfl rfl (by kernel_rfl) (fun K => (by kernel_rfl)) ?_
  intro xc6 hc6
  refine plan.sym_op 7 5 _ false (xc5) (.agg #[.int .i64 s.f.id, .int .i64 s.f.kind, .int .i64 s.f.lo, .int .i64 s.f.hi, .int .i64 s.f.most]) rfl rfl (by kernel_rfl) (fun K => by have e := hc6 K; subst e; exact (exec_load_at (b := w.heap.size) (off := 7) rfl (by kernel_rfl) (range_f (HZ.out _ hSc4)) Try.underlying26 rfl info_fd.out)) ?_
  intro xc7 hc7
  refine plan.sym_op 8 5 _ false (xc5) (.agg #[.int .i64 fd0.id, .int .i64 fd0.kind, .int .i64 fd0.lo, .int .i64 fd0.hi, .int .i64 fd0.most]) rfl rfl (by kernel_rfl) (fun K => (by kernel_rfl)) ?_
  intro xc8 hc8
  refine plan.sym_op 9 5 _ false (xc5) (.bool (decide (s.f = fd0))) rfl rfl (by kernel_rfl) (fun K => by have e := hc7 K; subst e; have e := hc8 K; subst e; exact (exec_two rfl (by kernel_rfl) (by kernel_rfl) (eqg_fd _ _ _ _ _ _) (eq_fd s.f fd0 _))) ?_
  intro xc9 hc9
  refine plan.sym_op 10 1 _ true (.bool k2) (.bool ((HasC s.op 70) || (decide (s.f = fd0)))) rfl rfl (by kernel_rfl) (fun K => by have e := hc5 K; subst e; exact (plan.exec_pick_or (c := (HasC s.op 70)) (e := (decide (s.f = fd0))) rfl (by kernel_rfl) (fun q => Eq.trans (b := xc9) (by kernel_rfl) (hc9 (by rw [q]))))) ?_
  intro xc10 hc10
  refine plan.line_same 11 _ (.bool (k2 && ((HasC s.op 70) || (decide (s.f = fd0))))) rfl (by kernel_rfl) (plan.exec_pick_and (c := k2) (e := ((HasC s.op 70) || (decide (s.f = fd0)))) rfl (by kernel_rfl) (fun q => Eq.trans (b := xc10) (by kernel_rfl) (hc10 (by rw [q])))) ?_
  refine plan.line_same 12 _ (.bool (k2 && ((HasC s.op 70) || (decide (s.f = fd0))))) rfl (by kernel_rfl) (by kernel_rfl) ?_
  refine plan.sym_op 13 12 _ true (.bool (k2 && ((HasC s.op 70) || (decide (s.f = fd0))))) (.pointer (some ⟨w.heap.size, 0, none⟩)) rfl rfl (by kernel_rfl) (fun K => (by kernel_rfl)) ?_
  intro xc13 hc13
  refine plan.sym_op 14 12 _ true (.bool (k2 && ((HasC s.op 70) || (decide (s.f = fd0))))) (.int .i64 s.op) rfl rfl (by kernel_rfl) (fun K => by have e := hc13 K; subst e; exact (exec_cell_int (ad := ⟨w.heap.size, 0, none⟩) rfl (by kernel_rfl) ((HZ.out _ hSc4).cell 0) Try.isAgg3)) ?_
  intro xc14 hc14
  refine plan.sym_call 15 12 _ true (.bool (k2 && ((HasC s.op 70) || (decide (s.f = fd0))))) (.bool (HasC s.op 86)) 57 #[.int .i64 s.op, .int .u8 86] (fun w' => Below W0.heap.size W0 w') rfl rfl (by kernel_rfl) hSc4 (fun K => by have e := hc14 K; subst e; show _ = _; kernel_rfl) (fun K => gives_from (has_any s.op 86 wc4) hSc4) ?_
  intro xc15 wc15 hSc15 hc15
  refine plan.sym_op 16 12 _ true (.bool (k2 && ((HasC s.op 70) || (decide (s.f = fd0))))) (.bool (HasC s.op 86)) rfl rfl (by kernel_rfl) (fun K => by have e := hc15 K; subst e; show _ = _; kernel_rfl) ?_
  intro xc16 hc16
  refine plan.sym_op 17 16 _ false (xc16) (.pointer (some ⟨w.heap.size, 12, none⟩)) rfl rfl (by kernel_rfl) (fun K => (by kernel_rfl)) ?_
  intro xc17 hc17
  refine plan.sym_op 18 16 _ false (xc16) (.agg #[.int .i64 s.v.n, .string s.v.s]) rfl rfl (by kernel_rfl) (fun K => by have e := hc17 K; subst e; exact (exec_load_at (b := w.heap.size) (off := 12) rfl (by kernel_rfl) (range_v (HZ.out _ hSc15)) Try.underlying28 rfl info_va.out)) ?_
  intro xc18 hc18
  refine plan.sym_op 19 16 _ false (xc16) (.agg #[.int .i64 va0.n, .string va0.s]) rfl rfl (by kernel_rfl) (fun K => (by kernel_rfl)) ?_
  intro xc19 hc19
  refine plan.sym_op 20 16 _ false (xc16) (.bool (decide (s.v = va0))) rfl rfl (by kernel_rfl) (fun K => by have e := hc18 K; subst e; have e := hc19 K; subst e; exact (exec_two rfl (by kernel_rfl) (by kernel_rfl) (eqg_va _ _ _ _ _ _) (eq_va s.v va0 _))) ?_
  intro xc20 hc20
  refine plan.sym_op 21 12 _ true (.bool (k2 && ((HasC s.op 70) || (decide (s.f = fd0))))) (.bool ((HasC s.op 86) || (decide (s.v = va0)))) rfl rfl (by kernel_rfl) (fun K => by have e := hc16 K; subst e; exact (plan.exec_pick_or (c := (HasC s.op 86)) (e := (decide (s.v = va0))) rfl (by kernel_rfl) (fun q => Eq.trans (b := xc20) (by kernel_rfl) (hc20 (by rw [q]))))) ?_
  intro xc21 hc21
  refine plan.line_same 22 _ (.bool ((k2 && ((HasC s.op 70) || (decide (s.f = fd0)))) && ((HasC s.op 86) || (decide (s.v = va0))))) rfl (by kernel_rfl) (plan.exec_pick_and (c := (k2 && ((HasC s.op 70) || (decide (s.f = fd0))))) (e := ((HasC s.op 86) || (decide (s.v = va0)))) rfl (by kernel_rfl) (fun q => Eq.trans (b := xc21) (by kernel_rfl) (hc21 (by rw [q])))) ?_
  obtain ⟨k3, hk3⟩ : ∃ q, Hid (((k2 && ((HasC s.op 70) || (decide (s.f = fd0)))) && ((HasC s.op 86) || (decide (s.v = va0)))) = q) := ⟨_, hid rfl⟩
  refine plan.line_same 23 _ (.bool k3) rfl (by kernel_rfl) (plan.exec_assign_b (c := ((k2 && ((HasC s.op 70) || (decide (s.f = fd0)))) && ((HasC s.op 86) || (decide (s.v = va0))))) rfl (by kernel_rfl) hk3.out) ?_
  refine plan.line_done (by decide) ?_
  walk_nrm
  go_upto_region 4 with fail
  refine plan.line ?_
  refine plan.line_same 0 _ (.bool k3) rfl (by kernel_rfl) (by kernel_rfl) ?_
  refine plan.line_same 1 _ (.bool k3) rfl (by kernel_rfl) (by kernel_rfl) ?_
  refine plan.sym_op 2 1 _ true (.bool k3) (.pointer (some ⟨w.heap.size, 0, none⟩)) rfl rfl (by kernel_rfl) (fun K => (by kernel_rfl)) ?_
  intro xd2 hd2
  refine plan.sym_op 3 1 _ true (.bool k3) (.int .i64 s.op) rfl rfl (by kernel_rfl) (fun K => by have e := hd2 K; subst e; exact (exec_cell_int (ad := ⟨w.heap.size, 0, none⟩) rfl (by kernel_rfl) ((HZ.out _ hSc15).cell 0) Try.isAgg3)) ?_
  intro xd3 hd3
  refine plan.sym_call 4 1 _ true (.bool k3) (.bool (HasC s.op 84)) 57 #[.int .i64 s.op, .int .u8 84] (fun w' => Below W0.heap.size W0 w') rfl rfl (by kernel_rfl) hSc15 (fun K => by have e := hd3 K; subst e; show _ = _; kernel_rfl) (fun K => gives_from (has_any s.op 84 wc15) hSc15) ?_
  intro xd4 wd4 hSd4 hd4
  refine plan.sym_op 5 1 _ true (.bool k3) (.bool (HasC s.op 84)) rfl rfl (by kernel_rfl) (fun K => by have e := hd4 K; subst e; show _ = _; kernel_rfl) ?_
  intro xd5 hd5
  refine plan.sym_op 6 5 _ false (xd5) (.pointer (some ⟨w.heap.size, 14, none⟩)) rfl rfl (by kernel_rfl) (fun K => (by kernel_rfl)) ?_
  intro xd6 hd6
  refine plan.sym_op 7 5 _ false (xd5) (.slice ta s.t.length tc) rfl rfl (by kernel_rfl) (fun K => by have e := hd6 K; subst e; exact (exec_cell_slice (ad := ⟨w.heap.size, 14, none⟩) rfl (by kernel_rfl) ((HZ.out _ hSd4).cell 14) Try.isAgg29)) ?_
  intro xd7 hd7
  refine plan.sym_op 8 5 _ false (xd5) (.int .i64 (s.t.length : Int)) rfl rfl (by kernel_rfl) (fun K => by have e := hd7 K; subst e; show _ = _; kernel_rfl) ?_
  intro xd8 hd8
  refine plan.sym_op 9 5 _ false (xd5) (.bool ((s.t.length : Int) == 0)) rfl rfl (by kernel_rfl) (fun K => by have e := hd8 K; subst e; exact (exec_eql_int (n := (s.t.length : Int)) (m := 0) rfl (by kernel_rfl) (by kernel_rfl))) ?_
  intro xd9 hd9
  refine plan.sym_op 10 1 _ true (.bool k3) (.bool ((HasC s.op 84) || ((s.t.length : Int) == 0))) rfl rfl (by kernel_rfl) (fun K => by have e := hd5 K; subst e; exact (plan.exec_pick_or (c := (HasC s.op 84)) (e := ((s.t.length : Int) == 0)) rfl (by kernel_rfl) (fun q => Eq.trans (b := xd9) (by kernel_rfl) (hd9 (by rw [q]))))) ?_
  intro xd10 hd10
  refine plan.line_same 11 _ (.bool (k3 && ((HasC s.op 84) || ((s.t.length : Int) == 0)))) rfl (by kernel_rfl) (plan.exec_pick_and (c := k3) (e := ((HasC s.op 84) || ((s.t.length : Int) == 0))) rfl (by kernel_rfl) (fun q => Eq.trans (b := xd10) (by kernel_rfl) (hd10 (by rw [q])))) ?_
  refine plan.line_same 12 _ (.bool (k3 && ((HasC s.op 84) || ((s.t.length : Int) == 0)))) rfl (by kernel_rfl) (by kernel_rfl) ?_
  refine plan.sym_op 13 12 _ true (.bool (k3 && ((HasC s.op 84) || ((s.t.length : Int) == 0)))) (.pointer (some ⟨w.heap.size, 0, none⟩)) rfl rfl (by kernel_rfl) (fun K => (by kernel_rfl)) ?_
  intro xd13 hd13
  refine plan.sym_op 14 12 _ true (.bool (k3 && ((HasC s.op 84) || ((s.t.length : Int) == 0)))) (.int .i64 s.op) rfl rfl (by kernel_rfl) (fun K => by have e := hd13 K; subst e; exact (exec_cell_int (ad := ⟨w.heap.size, 0, none⟩) rfl (by kernel_rfl) ((HZ.out _ hSd4).cell 0) Try.isAgg3)) ?_
  intro xd14 hd14
  refine plan.sym_call 15 12 _ true (.bool (k3 && ((HasC s.op 84) || ((s.t.length : Int) == 0)))) (.bool (HasC s.op 76)) 57 #[.int .i64 s.op, .int .u8 76] (fun w' => Below W0.heap.size W0 w') rfl rfl (by kernel_rfl) hSd4 (fun K => by have e := hd14 K; subst e; show _ = _; kernel_rfl) (fun K => gives_from (has_any s.op 76 wd4) hSd4) ?_
  intro xd15 wd15 hSd15 hd15
  refine plan.sym_op 16 12 _ true (.bool (k3 && ((HasC s.op 84) || ((s.t.length : Int) == 0)))) (.bool (HasC s.op 76)) rfl rfl (by kernel_rfl) (fun K => by have e := hd15 K; subst e; show _ = _; kernel_rfl) ?_
  intro xd16 hd16
  refine plan.sym_op 17 16 _ false (xd16) (.pointer (some ⟨w.heap.size, 15, none⟩)) rfl rfl (by kernel_rfl) (fun K => (by kernel_rfl)) ?_
  intro xd17 hd17
  refine plan.sym_op 18 16 _ false (xd16) (.slice la s.l.length lc) rfl rfl (by kernel_rfl) (fun K => by have e := hd17 K; subst e; exact (exec_cell_slice (ad := ⟨w.heap.size, 15, none⟩) rfl (by kernel_rfl) ((HZ.out _ hSd15).cell 15) Try.isAgg30)) ?_
  intro xd18 hd18
  refine plan.sym_op 19 16 _ false (xd16) (.int .i64 (s.l.length : Int)) rfl rfl (by kernel_rfl) (fun K => by have e := hd18 K; subst e; show _ = _; kernel_rfl) ?_
  intro xd19 hd19
  refine plan.sym_op 20 16 _ false (xd16) (.bool ((s.l.length : Int) == 0)) rfl rfl (by kernel_rfl) (fun K => by have e := hd19 K; subst e; exact (exec_eql_int (n := (s.l.length : Int)) (m := 0) rfl (by kernel_rfl) (by kernel_rfl))) ?_
  intro xd20 hd20
  refine plan.sym_op 21 12 _ true (.bool (k3 && ((HasC s.op 84) || ((s.t.length : Int) == 0)))) (.bool ((HasC s.op 76) || ((s.l.length : Int) == 0))) rfl rfl (by kernel_rfl) (fun K => by have e := hd16 K; subst e; exact (plan.exec_pick_or (c := (HasC s.op 76)) (e := ((s.l.length : Int) == 0)) rfl (by kernel_rfl) (fun q => Eq.trans (b := xd20) (by kernel_rfl) (hd20 (by rw [q]))))) ?_
  intro xd21 hd21
  refine plan.line_same 22 _ (.bool ((k3 && ((HasC s.op 84) || ((s.t.length : Int) == 0))) && ((HasC s.op 76) || ((s.l.length : Int) == 0)))) rfl (by kernel_rfl) (plan.exec_pick_and (c := (k3 && ((HasC s.op 84) || ((s.t.length : Int) == 0)))) (e := ((HasC s.op 76) || ((s.l.length : Int) == 0))) rfl (by kernel_rfl) (fun q => Eq.trans (b := xd21) (by kernel_rfl) (hd21 (by rw [q])))) ?_
  obtain ⟨k4, hk4⟩ : ∃ q, Hid (((k3 && ((HasC s.op 84) || ((s.t.length : Int) == 0))) && ((HasC s.op 76) || ((s.l.length : Int) == 0))) = q) := ⟨_, hid rfl⟩
  refine plan.line_same 23 _ (.bool k4) rfl (by kernel_rfl) (plan.exec_assign_b (c := ((k3 && ((HasC s.op 84) || ((s.t.length : Int) == 0))) && ((HasC s.op 76) || ((s.l.length : Int) == 0)))) rfl (by kernel_rfl) hk4.out) ?_
  refine plan.line_done (by decide) ?_
  walk_nrm
  go_wp2
  go_ret
  refine ⟨?_, HB0.out.trans (hSd15.mono HB0.out.size)⟩
  rw [← hk4.out, ← hk3.out, ← hk2.out, ← hk1.out]
  rfl
end Go.Proofs.Ytiajpjkkopdmgaa.step
