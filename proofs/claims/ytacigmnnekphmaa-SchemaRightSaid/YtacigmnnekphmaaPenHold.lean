/- A pen and an eye in the memory: what their blocks hold, and what a call may turn. No condition. -/
import Derived.Test.YtacigmnnekphmaaPenMath
import Derived.Test.YtacigmnnekphmaaAppend
import Derived.Maps.AppendAt
namespace Go.Proofs.Ytacigmnnekphmaa.pen
open Go.RowKit
set_option linter.unusedVariables false

def u8v (xs : List Nat) : List Value := xs.map fun x : Nat => Value.int .u8 (x : Int)
theorem u8v_length (xs : List Nat) : (u8v xs).length = xs.length := by simp [u8v]
theorem u8v_one (xs : List Nat) : ∀ v ∈ u8v xs, v.oneCell' = true := by intro v hv; obtain ⟨x, _, rfl⟩ := List.mem_map.1 hv; rfl
theorem u8v_append (xs ys : List Nat) : u8v (xs ++ ys) = u8v xs ++ u8v ys := by simp [u8v]
theorem u8v_get (xs : List Nat) (i : Nat) (h : i < xs.length) : (u8v xs)[i]? = some (.int .u8 ((xs.getD i 0 : Nat) : Int)) := by
  simp only [u8v, List.getElem?_map, List.getD_eq_getElem?_getD, List.getElem?_eq_getElem h]; rfl

/-- append onto a row of the call's own, from whatever slice, and where the new row lies -/
theorem wpList_append_at_from {P : Program} {w : World} {ops : Array Oper} {rest : List Oper} {o : Oper} {a : Act} {Q : Exit → Act → World → Prop} (hgd : o.guard = none) (s x : Operand) (t : TypeId)
    (ho : o.op = .call { callee := .builtin .append, args := #[s, x], argTypes := #[t, t] })
    (base : Nat) (e : TypeId) (i : TypeInfo) (z : Value) (bytes : Nat) (ht : P.underlying t = some (.slice e)) (hi : P.info? e = some i) (hz : i.zero = some z)
    (hsize : i.size = 1) (hby : i.bytes = bytes) (hzs : z.cells.size = 1)
    (v : Value) (n : Nat) (xs : List Value) (hs : a.eval s = v) (hown : w.ownsRow base e 1 v n xs)
    (ap : Option Addr) (m c : Nat) (news : List Value) (hx : a.eval x = .slice ap m c) (hl : news.length = m)
    (hnews : m = 0 ∨ ∃ ad, ap = some ad ∧ ∀ j u, news[j]? = some u → w.cell? (ad.add j) = some u) (h1 : ∀ u ∈ news, u.oneCell' = true)
    (h63 : n + m ≤ maxLen) (hbytes : (n + m) * bytes ≤ 140737488355328) (hbase : base ≤ w.heap.size)
    (h : ∀ v' w', w'.ownsRow base e 1 v' (n + m) (xs ++ news) → w.grownBy w' v.ownBlock → (v'.ownBlock = v.ownBlock ∨ v'.ownBlock = some w.heap.size) → wpList P ops Q rest (a.put o.dst v') w') : wpList P ops Q (o :: rest) a w := by
  by_cases hm : m = 0
  · subst hm
    obtain rfl : news = [] := List.eq_nil_of_length_eq_zero hl
    obtain ⟨bp, cp, rfl, hcp⟩ := ownsRow_slice hown
    have hsrc : Src P i.size t (.slice ap 0 c) 0 [] w := by
      cases ap with
      | none => exact Src.ofNil w ht c
      | some ad => exact Src.ofSlice w ht ad 0 c [] (by simp) (by simp) (by simp)
    have hrun := run_append_nothing w t t o.type e i ht hi bp n cp hcp _ hsrc
    refine wpList_plain hgd fun K hK => ?_
    unfold Oper.wp
    simp [execOp, ho, resolve, invoke, builtin, hs, hx, hrun, Result.andThen]
    exact hK _ _ (h _ w (by simpa using hown) (grown_refl _ _) (.inl rfl))
  · rcases hnews with h0 | ⟨ad, rfl, hc⟩
    · exact absurd h0 hm
    · exact wpList_append_own_at w hgd s x t ho base e i z 1 bytes ht hi hz hsize hby hzs (by decide) v n xs hs hown ad m c news hx (by omega) hc h1 h63 hbytes hbase (fun v' w' h2 h3 _ h5 => h v' w' h2 h3 h5)

theorem Reads.news {w : World} {a : Option Addr} {len : Nat} {xs : List Nat} (h : Reads .u8 w a len xs) : len = 0 ∨ ∃ ad, a = some ad ∧ ∀ j u, (u8v xs)[j]? = some u → w.cell? (ad.add j) = some u := by
  rcases h.2 with h0 | ⟨b, off, ha, _, hc⟩
  · exact .inl h0
  · refine .inr ⟨_, ha, fun j u hu => ?_⟩
    have hj : j < xs.length := by have := (List.getElem?_eq_some_iff.1 hu).1; rwa [u8v_length] at this
    rw [u8v_get xs j hj] at hu
    cases hu
    rw [Addr.add_lit]
    exact hc j (by rw [← h.1]; exact hj)

/-- but for block b and the row v, which may have moved, what there was stands -/
structure Turns (w : World) (b : Nat) (v : Value) (w' : World) (v' : Value) : Prop where
  os : w'.os = w.os
  tape : w'.tape = w.tape
  output : w'.output = w.output
  size : w.heap.size ≤ w'.heap.size
  block : ∀ k, k < w.heap.size → k ≠ b → some k ≠ v.ownBlock → w'.heap[k]? = w.heap[k]?
  moved : v'.ownBlock = v.ownBlock ∨ ∃ g, v'.ownBlock = some g ∧ w.heap.size ≤ g
theorem Turns.refl (w : World) (b : Nat) (v : Value) : Turns w b v w v := ⟨rfl, rfl, rfl, Nat.le_refl _, fun _ _ _ _ => rfl, .inl rfl⟩
theorem Turns.trans {w w1 w2 : World} {b : Nat} {v v1 v2 : Value} (h : Turns w b v w1 v1) (k : Turns w1 b v1 w2 v2) : Turns w b v w2 v2 := by
  refine ⟨k.os.trans h.os, k.tape.trans h.tape, k.output.trans h.output, Nat.le_trans h.size k.size, fun j h1 h2 h3 => ?_, ?_⟩
  · refine (k.block j (Nat.lt_of_lt_of_le h1 h.size) h2 ?_).trans (h.block j h1 h2 h3)
    rcases h.moved with e | ⟨g, e, hg⟩
    · rw [e]; exact h3
    · rw [e]; intro he; cases he; omega
  · rcases k.moved with e | ⟨g, e, hg⟩
    · rw [e]; exact h.moved
    · exact .inr ⟨g, e, Nat.le_trans h.size hg⟩
theorem Turns.below {w w' : World} {b B : Nat} {v v' : Value} (h : Turns w b v w' v') (hB : B ≤ w.heap.size) (hb : B ≤ b) (hv : ∀ g, v.ownBlock = some g → B ≤ g) : Below B w w' :=
  ⟨h.os, h.tape, h.output, h.size, fun k hk => h.block k (by omega) (by omega) (fun e => by have := hv k e.symm; omega)⟩
theorem turns_later {w w' : World} {b : Nat} {v : Value} (h : Below w.heap.size w w') : Turns w b v w' v := ⟨h.os, h.tape, h.output, h.size, fun k hk _ _ => h.block k hk, .inl rfl⟩
theorem ownsRow_heap {w w' : World} {base e size n : Nat} {v : Value} {xs : List Value} (h : w.ownsRow base e size v n xs) (hh : ∀ g, v.ownBlock = some g → w'.heap[g]? = w.heap[g]?) : w'.ownsRow base e size v n xs := by
  refine ⟨h.1, ?_⟩
  rcases h.2 with h0 | ⟨g, cap, cur, hv, h1, hg, h2, h3, h4, h5⟩
  · exact .inl h0
  · exact .inr ⟨g, cap, cur, hv, h1, (hh g (by rw [hv]; rfl)).trans hg, h2, h3, h4, h5⟩

/-- the pen at block b: its row v holds the bytes xs; its error is bad -/
def PenAt (lo b : Nat) (v : Value) (xs : List Nat) (bad : Int) (w : World) : Prop :=
  Block w b 84 [v, .int .i64 bad] ∧ v.ownBlock ≠ some b ∧ w.ownsRow lo 5 1 v xs.length (u8v xs)
theorem PenAt.row {lo b : Nat} {v : Value} {xs : List Nat} {bad : Int} {w : World} (h : PenAt lo b v xs bad w) : w.cell? ⟨b, 0, none⟩ = some v := by rw [h.1.cell]; rfl
theorem PenAt.err {lo b : Nat} {v : Value} {xs : List Nat} {bad : Int} {w : World} (h : PenAt lo b v xs bad w) : w.cell? ⟨b, 1, none⟩ = some (.int .i64 bad) := by rw [h.1.cell]; rfl
theorem PenAt.lo {lo b : Nat} {v : Value} {xs : List Nat} {bad : Int} {w : World} (h : PenAt lo b v xs bad w) : ∀ g, v.ownBlock = some g → lo ≤ g ∧ g < w.heap.size := World.ownsRow.lt h.2.2
theorem PenAt.later {lo b : Nat} {v : Value} {xs : List Nat} {bad : Int} {w w' : World} (h : PenAt lo b v xs bad w) (hb : Below w.heap.size w w') : PenAt lo b v xs bad w' :=
  ⟨h.1.later hb, h.2.1, ownsRow_heap h.2.2 fun g hg => hb.block g (h.lo g hg).2⟩
theorem PenAt.drewN {lo b : Nat} {v : Value} {xs : List Nat} {bad : Int} {w : World} (h : PenAt lo b v xs bad w) (n : Nat) : PenAt lo b v xs bad (w.drewN n) := h
/-- behind an append and the store of the new row -/
theorem PenAt.stored {lo b : Nat} {v v' : Value} {xs ys : List Nat} {bad : Int} {w w1 : World} (h : PenAt lo b v xs bad w) (hg : w.grownBy w1 v.ownBlock) (ha : v'.ownBlock = v.ownBlock ∨ v'.ownBlock = some w.heap.size)
    (ho : w1.ownsRow lo 5 1 v' (xs.length + ys.length) (u8v xs ++ u8v ys)) :
    PenAt lo b v' (xs ++ ys) bad (w1.setCell ⟨b, 0, none⟩ v') ∧ Turns w b v (w1.setCell ⟨b, 0, none⟩ v') v' := by
  have hb : Block w1 b 84 [v, .int .i64 bad] := (hg.block b h.1.lt (fun e => h.2.1 e.symm)).trans h.1
  have hne : v'.ownBlock ≠ some b := by
    rcases ha with e | e
    · rw [e]; exact h.2.1
    · rw [e]; intro he; cases he; exact absurd h.1.lt (Nat.lt_irrefl _)
  refine ⟨⟨hb.setCell 0 v', hne, ?_⟩, hg.os, hg.tape, hg.output, by simpa using hg.size, fun k h1 h2 h3 => ?_, ?_⟩
  · rw [List.length_append, u8v_append]
    exact ownsRow_heap ho fun g hg' => Below.heap_setCell w1 ⟨b, 0, none⟩ v' g (by rintro rfl; exact hne hg')
  · exact (Below.heap_setCell w1 ⟨b, 0, none⟩ v' k h2).trans (hg.block k h1 h3)
  · rcases ha with e | e
    · exact .inl e
    · exact .inr ⟨_, e, Nat.le_refl _⟩
theorem PenAt.fail {lo b : Nat} {v : Value} {xs : List Nat} {bad : Int} {w : World} (h : PenAt lo b v xs bad w) (z : Int) :
    PenAt lo b v xs z (w.setCell ⟨b, 1, none⟩ (.int .i64 z)) ∧ Turns w b v (w.setCell ⟨b, 1, none⟩ (.int .i64 z)) v := by
  refine ⟨⟨h.1.setCell 1 _, h.2.1, ownsRow_heap h.2.2 fun g hg' => Below.heap_setCell w ⟨b, 1, none⟩ _ g (by rintro rfl; exact h.2.1 hg')⟩, rfl, rfl, rfl, by simp, fun k h1 h2 h3 => Below.heap_setCell w ⟨b, 1, none⟩ _ k h2, .inl rfl⟩
/-- a function without results ends -/
theorem ret0 {P : Program} {fn : Func} {R : Ending → World → Prop} {a : Act} {w : World} (h : fn.results = #[]) (hd : a.defers = []) (hR : R (.returned (.tuple #[])) w) : bodyPost P fn R .normal a w :=
  ⟨hd, .tuple #[], by simp [results, h], hR⟩
theorem info5 : (Try.prog.info? 5).map (fun i => (i.zero, i.size, i.bytes)) = some (some (.int .u8 0), 1, 1) := by kernel_rfl
theorem Reads.new (w : World) (t : TypeId) (xs : List Nat) : Reads .u8 (w.alloc (.cells (u8v xs).toArray t)) (some ⟨w.heap.size, 0, none⟩) xs.length xs :=
  (Block.new w t (u8v xs)).reads 0 xs (fun i hi => by rw [Nat.zero_add]; exact u8v_get xs i hi) _ rfl

/-- the call writes ys at the end of the pen's row -/
def Wrote (lo b : Nat) (v : Value) (xs ys : List Nat) (bad : Int) (w : World) (e : Ending) (w' : World) : Prop :=
  e = .returned (.tuple #[]) ∧ ∃ v', PenAt lo b v' (xs ++ ys) bad w' ∧ Turns w b v w' v'

theorem put_any (lo b : Nat) (v : Value) (xs : List Nat) (bad : Int) (w : World) (h : PenAt lo b v xs bad w) (hlo : lo ≤ w.heap.size) (a : Option Addr) (m c : Nat) (ys : List Nat) (hr : Reads .u8 w a m ys) (hn : xs.length + m ≤ 140737488355328) :
    Calls Try.prog 71 #[.pointer (some ⟨b, 0, none⟩), .slice a m c] w (Wrote lo b v xs ys bad w) := by
  obtain ⟨i0, hi, hz0, hz1, hz2⟩ := info_parts info5
  have c0 := h.row
  have f0 := h.1.frozen 0
  have HP := hid h
  have HU := hid (u8v_length ys)
  have HN := hid (Reads.news hr)
  have HM : Hid (ys.length = m) := hr.1
  have HN2 : Hid (xs.length + m ≤ maxLen) := by show _ ≤ _; unfold maxLen; omega
  have HN3 : Hid ((xs.length + m) * 1 ≤ 140737488355328) := by show _ ≤ _; omega
  clear h hr hn
  go_enter Try.func71, Try.ntmps71
  go_wp2_with (at_builtin; refine wpList_append_at_from rfl _ _ 39 rfl lo 5 i0 (.int .u8 0) 1 Try.underlying39 hi hz0 hz1 hz2 rfl v xs.length (u8v xs) rfl HP.out.2.2 a m c (u8v ys) rfl (by rw [HU.out, HM.out]) HN.out (u8v_one ys) HN2.out HN3.out hlo ?_)
  intro v' w1 ho hg ha
  obtain ⟨a', c', rfl, _⟩ := ownsRow_slice ho
  have hs := HP.out.stored (ys := ys) hg ha (by rw [HM.out]; exact ho)
  have hb : Block w1 b 84 [v, .int .i64 bad] := (hg.block b HP.out.1.lt (fun e => HP.out.2.1 e.symm)).trans HP.out.1
  have c1 : w1.cell? ⟨b, 0, none⟩ = some v := by rw [hb.cell]; rfl
  have f1 := hb.frozen 0
  have HS := hid hs
  clear hs hb ho hg ha
  go_wp2
  exact bodyPost_ret (v := .tuple #[]) (by kernel_rfl) rfl ⟨rfl, _, HS.out.1, HS.out.2⟩
theorem put_nil (u : Value) (w : World) : Calls Try.prog 71 #[.pointer none, u] w (Quiet (.tuple #[]) w) := by
  go_enter Try.func71, Try.ntmps71
  go_wp2
  exact bodyPost_ret (v := .tuple #[]) (by kernel_rfl) rfl ⟨rfl, 0, rfl⟩
end Go.Proofs.Ytacigmnnekphmaa.pen
