/- Contracts and lemmas that the claims of this seat share: TypingFields, TypingSearch. Each says its own conditions. -/
import Derived.Test.YtiajpjkkopdmgaaCmI
import Derived.Test.YtiajpjkkopdmgaaCmD
import Derived.Conc.WalkWords
import Derived.Test.YtiajpjkkopdmgaaCmF
import Derived.Test.YtiajpjkkopdmgaaCmE
import Derived.Handy

namespace Go.Proofs.Ytiajpjkkopdmgaa.typing
open Go.RowKit Go.Proofs.Ytiajpjkkopdmgaa.schema Go.Proofs.Ytiajpjkkopdmgaa.rows
open Go.Proofs.Ytiajpjkkopdmgaa.field (Gives newB gives_from)
set_option linter.unusedVariables false

/-- what holds of the place of a step's field -/
def Places (c : Ch) : Prop := (c.s.op = 1 → 0 ≤ c.s.pl ∧ c.s.pl ≤ c.L.length) ∧ (c.s.op = 7 → 0 ≤ c.s.pl ∧ c.s.pl ≤ (c.L.length : Int) - 1) ∧ (c.s.op ≠ 1 → 0 ≤ c.at_ ∧ c.at_ < c.L.length)
theorem mid_range {w : World} {b o : Nat} {cs ds : List Value} (h : w.rangeAt b 0 cs) (hd : ∀ j v, ds[j]? = some v → cs[o + j]? = some v) : w.rangeAt b o ds := fun j v hj => by
  have := h (o + j) v (hd j v hj)
  rwa [Nat.zero_add] at this
/-- two operations may come up -/
theorem bothS {P : Program} {md : Region.Mode} {Q : Exit → Act → World → Prop} {l : List Oper} {S : World → Prop} {f : Nat} {listed : Array Bool} {a : Act} {w : World} (i j : Nat) (hr : Region.ready md l.toArray listed = [i, j])
    (hi : ∃ o, l[i]? = some o ∧ o.guard = none ∧ ((∃ v w1, (execOp a.eval o).run P w = .ok (.value v) w1 ∧ S w1 ∧ wpAnyH P md l.toArray (NoPanic Q) S f (listed.setIfInBounds i true) (a.put o.dst v) w1) ∨
       (∃ F args, (execOp a.eval o).run P w = .ok (.enter F args) w ∧ Calls P F args w fun e w' => ∃ v, e = .returned v ∧ S w' ∧ wpAnyH P md l.toArray (NoPanic Q) S f (listed.setIfInBounds i true) (a.put o.dst v) w')))
    (hj : ∃ o, l[j]? = some o ∧ o.guard = none ∧ ((∃ v w1, (execOp a.eval o).run P w = .ok (.value v) w1 ∧ S w1 ∧ wpAnyH P md l.toArray (NoPanic Q) S f (listed.setIfInBounds j true) (a.put o.dst v) w1) ∨
       (∃ F args, (execOp a.eval o).run P w = .ok (.enter F args) w ∧ Calls P F args w fun e w' => ∃ v, e = .returned v ∧ S w' ∧ wpAnyH P md l.toArray (NoPanic Q) S f (listed.setIfInBounds j true) (a.put o.dst v) w'))) :
    wpAnyH P md l.toArray (NoPanic Q) S (f + 1) listed a w := by
  refine plan.every (by rw [hr]; simp) fun k hk => ?_
  rw [hr] at hk
  simp only [List.mem_cons, List.not_mem_nil, or_false] at hk
  rcases hk with rfl | rfl
  · exact hi
  · exact hj
theorem exec_inc {o : Oper} {a : Act} {w : World} {x y : Operand} {t : TypeId} {n : Int} (ho : o.op = .binOp .add 3 x y t) (hx : a.eval x = .int .i64 n) (hy : a.eval y = .int .i64 1) (h0 : 0 ≤ n) (hn : n ≤ 1000) :
    (execOp a.eval o).run Try.prog w = .ok (.value (.int .i64 (n + 1))) w := by
  unfold execOp
  rw [ho]
  simp only [hx, hy]
  go_simp
  exact IntWalk.i64_in _ (by omega)
set_option maxRecDepth 20000 in
set_option maxHeartbeats 3200000 in
theorem fields_any (c : Ch) (ta : Option Addr) (tc : Nat) (la : Option Addr) (lc : Nat) (fa : Option Addr) (fc : Nat) (w : World) (h : field.Fds w fa c.L) (hL : c.L.length ≤ 40) (hp : Places c) (hb4 : c.s.op = 4 → Bd c) (hb6 : c.s.op = 6 → Bq c) :
    Calls Try.prog 52 #[.agg #[.int .i64 c.s.op, .int .i64 c.s.fm, .int .i64 c.s.fd, .int .i64 c.s.pl, .int .i64 c.s.tt, .int .i64 c.s.a, .int .i64 c.s.b, .int .i64 c.s.f.id, .int .i64 c.s.f.kind, .int .i64 c.s.f.lo, .int .i64 c.s.f.hi, .int .i64 c.s.f.most, .int .i64 c.s.v.n, .string c.s.v.s, .slice ta c.s.t.length tc, .slice la c.s.l.length lc, .int .i64 c.fi, .slice fa c.L.length fc, .bool c.kn, .int .i64 c.at_, .int .i64 c.old.id, .int .i64 c.old.kind, .int .i64 c.old.lo, .int .i64 c.old.hi, .int .i64 c.old.most]] w (OwnsF (fields c) w) := by
  have hN := newB w (.cells #[.int .i64 c.s.op, .int .i64 c.s.fm, .int .i64 c.s.fd, .int .i64 c.s.pl, .int .i64 c.s.tt, .int .i64 c.s.a, .int .i64 c.s.b, .int .i64 c.s.f.id, .int .i64 c.s.f.kind, .int .i64 c.s.f.lo, .int .i64 c.s.f.hi, .int .i64 c.s.f.most, .int .i64 c.s.v.n, .string c.s.v.s, .slice ta c.s.t.length tc, .slice la c.s.l.length lc, .int .i64 c.fi, .slice fa c.L.length fc, .bool c.kn, .int .i64 c.at_, .int .i64 c.old.id, .int .i64 c.old.kind, .int .i64 c.old.lo, .int .i64 c.old.hi, .int .i64 c.old.most] 58)
  have cC := cloneF_any fa fc c.L ((w.alloc (.cells #[.int .i64 c.s.op, .int .i64 c.s.fm, .int .i64 c.s.fd, .int .i64 c.s.pl, .int .i64 c.s.tt, .int .i64 c.s.a, .int .i64 c.s.b, .int .i64 c.s.f.id, .int .i64 c.s.f.kind, .int .i64 c.s.f.lo, .int .i64 c.s.f.hi, .int .i64 c.s.f.most, .int .i64 c.s.v.n, .string c.s.v.s, .slice ta c.s.t.length tc, .slice la c.s.l.length lc, .int .i64 c.fi, .slice fa c.L.length fc, .bool c.kn, .int .i64 c.at_, .int .i64 c.old.id, .int .i64 c.old.kind, .int .i64 c.old.lo, .int .i64 c.old.hi, .int .i64 c.old.most] 58))) (h.below hN) (by omega)
  have HX : Hid (∀ w', Below ((w.alloc (.cells #[.int .i64 c.s.op, .int .i64 c.s.fm, .int .i64 c.s.fd, .int .i64 c.s.pl, .int .i64 c.s.tt, .int .i64 c.s.a, .int .i64 c.s.b, .int .i64 c.s.f.id, .int .i64 c.s.f.kind, .int .i64 c.s.f.lo, .int .i64 c.s.f.hi, .int .i64 c.s.f.most, .int .i64 c.s.v.n, .string c.s.v.s, .slice ta c.s.t.length tc, .slice la c.s.l.length lc, .int .i64 c.fi, .slice fa c.L.length fc, .bool c.kn, .int .i64 c.at_, .int .i64 c.old.id, .int .i64 c.old.kind, .int .i64 c.old.lo, .int .i64 c.old.hi, .int .i64 c.old.most] 58))).heap.size ((w.alloc (.cells #[.int .i64 c.s.op, .int .i64 c.s.fm, .int .i64 c.s.fd, .int .i64 c.s.pl, .int .i64 c.s.tt, .int .i64 c.s.a, .int .i64 c.s.b, .int .i64 c.s.f.id, .int .i64 c.s.f.kind, .int .i64 c.s.f.lo, .int .i64 c.s.f.hi, .int .i64 c.s.f.most, .int .i64 c.s.v.n, .string c.s.v.s, .slice ta c.s.t.length tc, .slice la c.s.l.length lc, .int .i64 c.fi, .slice fa c.L.length fc, .bool c.kn, .int .i64 c.at_, .int .i64 c.old.id, .int .i64 c.old.kind, .int .i64 c.old.lo, .int .i64 c.old.hi, .int .i64 c.old.most] 58))) w' → Block w' w.heap.size 58 [.int .i64 c.s.op, .int .i64 c.s.fm, .int .i64 c.s.fd, .int .i64 c.s.pl, .int .i64 c.s.tt, .int .i64 c.s.a, .int .i64 c.s.b, .int .i64 c.s.f.id, .int .i64 c.s.f.kind, .int .i64 c.s.f.lo, .int .i64 c.s.f.hi, .int .i64 c.s.f.most, .int .i64 c.s.v.n, .string c.s.v.s, .slice ta c.s.t.length tc, .slice la c.s.l.length lc, .int .i64 c.fi, .slice fa c.L.length fc, .bool c.kn, .int .i64 c.at_, .int .i64 c.old.id, .int .i64 c.old.kind, .int .i64 c.old.lo, .int .i64 c.old.hi, .int .i64 c.old.most] ∧ Below w.heap.size w w') := hid (fun w' hb => ⟨(Block.new w _ _).later hb, below_out hb⟩)
  have HI : Hid ((Try.prog.info? 58).map (·.size) = some ([.int .i64 c.s.op, .int .i64 c.s.fm, .int .i64 c.s.fd, .int .i64 c.s.pl, .int .i64 c.s.tt, .int .i64 c.s.a, .int .i64 c.s.b, .int .i64 c.s.f.id, .int .i64 c.s.f.kind, .int .i64 c.s.f.lo, .int .i64 c.s.f.hi, .int .i64 c.s.f.most, .int .i64 c.s.v.n, .string c.s.v.s, .slice ta c.s.t.length tc, .slice la c.s.l.length lc, .int .i64 c.fi, .slice fa c.L.length fc, .bool c.kn, .int .i64 c.at_, .int .i64 c.old.id, .int .i64 c.old.kind, .int .i64 c.old.lo, .int .i64 c.old.hi, .int .i64 c.old.most] : List Value).length) := hid ch_info
  have HSZ : Hid (w.heap.size ≤ ((w.alloc (.cells #[.int .i64 c.s.op, .int .i64 c.s.fm, .int .i64 c.s.fd, .int .i64 c.s.pl, .int .i64 c.s.tt, .int .i64 c.s.a, .int .i64 c.s.b, .int .i64 c.s.f.id, .int .i64 c.s.f.kind, .int .i64 c.s.f.lo, .int .i64 c.s.f.hi, .int .i64 c.s.f.most, .int .i64 c.s.v.n, .string c.s.v.s, .slice ta c.s.t.length tc, .slice la c.s.l.length lc, .int .i64 c.fi, .slice fa c.L.length fc, .bool c.kn, .int .i64 c.at_, .int .i64 c.old.id, .int .i64 c.old.kind, .int .i64 c.old.lo, .int .i64 c.old.hi, .int .i64 c.old.most] 58))).heap.size) := hid hN.size
  have hv1 : ∀ u ∈ fdV c.L, u.oneCell' = true := fdV_one c.L
  have HV1 := hid hv1
  unfold OwnsF at cC
  clear h hN hv1
  obtain ⟨T, hT⟩ : ∃ T, Hid (((w.alloc (.cells #[.int .i64 c.s.op, .int .i64 c.s.fm, .int .i64 c.s.fd, .int .i64 c.s.pl, .int .i64 c.s.tt, .int .i64 c.s.a, .int .i64 c.s.b, .int .i64 c.s.f.id, .int .i64 c.s.f.kind, .int .i64 c.s.f.lo, .int .i64 c.s.f.hi, .int .i64 c.s.f.most, .int .i64 c.s.v.n, .string c.s.v.s, .slice ta c.s.t.length tc, .slice la c.s.l.length lc, .int .i64 c.fi, .slice fa c.L.length fc, .bool c.kn, .int .i64 c.at_, .int .i64 c.old.id, .int .i64 c.old.kind, .int .i64 c.old.lo, .int .i64 c.old.hi, .int .i64 c.old.most] 58))).heap.size = T) := ⟨_, rfl⟩
  by_cases h1 : c.s.op = 1
  · have d1 := bt h1
    obtain ⟨p0, p1⟩ := hp.1 h1
    obtain ⟨i, hi⟩ : ∃ i, c.s.pl.toNat = i := ⟨_, rfl⟩
    have hii : ((i : Nat) : Int) = c.s.pl := by omega
    have hsp : fields c = putL c.L i c.s.f := by unfold fields; rw [if_pos h1, hi]
    rw [hsp]
    clear hsp hp hb4 hb6 h1 hi
    have cI := fun (n cap : Nat) (x : Option Addr) (w1 : World) (hown : w1.ownsRow ((w.alloc (.cells #[.int .i64 c.s.op, .int .i64 c.s.fm, .int .i64 c.s.fd, .int .i64 c.s.pl, .int .i64 c.s.tt, .int .i64 c.s.a, .int .i64 c.s.b, .int .i64 c.s.f.id, .int .i64 c.s.f.kind, .int .i64 c.s.f.lo, .int .i64 c.s.f.hi, .int .i64 c.s.f.most, .int .i64 c.s.v.n, .string c.s.v.s, .slice ta c.s.t.length tc, .slice la c.s.l.length lc, .int .i64 c.fi, .slice fa c.L.length fc, .bool c.kn, .int .i64 c.at_, .int .i64 c.old.id, .int .i64 c.old.kind, .int .i64 c.old.lo, .int .i64 c.old.hi, .int .i64 c.old.most] 58))).heap.size 26 5 (.slice x n cap) n (fdV c.L)) (hnl : n = c.L.length) (hb : ((w.alloc (.cells #[.int .i64 c.s.op, .int .i64 c.s.fm, .int .i64 c.s.fd, .int .i64 c.s.pl, .int .i64 c.s.tt, .int .i64 c.s.a, .int .i64 c.s.b, .int .i64 c.s.f.id, .int .i64 c.s.f.kind, .int .i64 c.s.f.lo, .int .i64 c.s.f.hi, .int .i64 c.s.f.most, .int .i64 c.s.v.n, .string c.s.v.s, .slice ta c.s.t.length tc, .slice la c.s.l.length lc, .int .i64 c.fi, .slice fa c.L.length fc, .bool c.kn, .int .i64 c.at_, .int .i64 c.old.id, .int .i64 c.old.kind, .int .i64 c.old.lo, .int .i64 c.old.hi, .int .i64 c.old.most] 58))).heap.size ≤ w1.heap.size) =>
      insertF_any ((w.alloc (.cells #[.int .i64 c.s.op, .int .i64 c.s.fm, .int .i64 c.s.fd, .int .i64 c.s.pl, .int .i64 c.s.tt, .int .i64 c.s.a, .int .i64 c.s.b, .int .i64 c.s.f.id, .int .i64 c.s.f.kind, .int .i64 c.s.f.lo, .int .i64 c.s.f.hi, .int .i64 c.s.f.most, .int .i64 c.s.v.n, .string c.s.v.s, .slice ta c.s.t.length tc, .slice la c.s.l.length lc, .int .i64 c.fi, .slice fa c.L.length fc, .bool c.kn, .int .i64 c.at_, .int .i64 c.old.id, .int .i64 c.old.kind, .int .i64 c.old.lo, .int .i64 c.old.hi, .int .i64 c.old.most] 58))).heap.size n i w1.heap.size 0 1 (fdC c.s.f) 26 (.slice x n cap) (fdV c.L) (fdC c.s.f) (w1.alloc (.cells #[.int .i64 c.s.f.id, .int .i64 c.s.f.kind, .int .i64 c.s.f.lo, .int .i64 c.s.f.hi, .int .i64 c.s.f.most] 26)) (hown.alloc _) (by simp at hb ⊢; omega) (by omega) rfl (Block.new w1 _ _) (by simp [fdC]) (fun e => by have := World.ownsRow.lt hown _ e; omega) (fun j u hj => by rw [Nat.zero_add]; exact hj) (by have := fdV_one [c.s.f]; rwa [fdV_one'] at this) HV1.out (by omega)
    rw [hii] at cI
    unfold MadeF at cI
    go_enter Try.func52, Try.ntmps52
    go_wp2_with (first
      | (go_at_call 50; ((with_reducible refine cC.mono ?_); rintro e w1 ⟨v, rfl, ho1, hb1⟩; obtain ⟨x, xc, rfl, hxc⟩ := ownsRow_slice ho1; obtain ⟨b0, hbo⟩ := HX.out w1 hb1; have y0 := b0.cell 0; have y3 := b0.cell 3; have y7 := b0.cell 7; have y8 := b0.cell 8; have y9 := b0.cell 9; have y10 := b0.cell 10; have y11 := b0.cell 11; have HO1 := hid ho1; have HB1 := hid hb1; have HBO := hid hbo; clear ho1 hb1 b0 hbo))
      | (go_at_call 84; ((with_reducible refine (cI _ _ _ _ HO1.out rfl HB1.out.size).mono ?_); rintro e w3 ⟨v3, rfl, ho3, hg3⟩; have HO3 := hid ho3; have HG3 := hid hg3; clear ho3 hg3)))
    go_ret
    refine finish (HBO.out.alloc HBO.out.size _) HSZ.out (fun k hk => (World.ownsRow.lt HO1.out k hk).1) HO3.out HG3.out ?_ ?_
    · unfold putL
      rw [fdV_append, fdV_append, fdV_one', fdV_take, fdV_drop]
    · unfold putL
      simp only [List.length_append, List.length_take, List.length_drop, List.length_cons, List.length_nil]
      omega
  · have d1 := bf h1
    obtain ⟨a0, a1⟩ := hp.2.2 h1
    obtain ⟨k, hk⟩ : ∃ k, c.at_.toNat = k := ⟨_, rfl⟩
    have hkk : ((k : Nat) : Int) = c.at_ := by omega
    obtain ⟨N, hN⟩ : ∃ N, Hid (c.L.length = N + 1) := ⟨c.L.length - 1, hid (by omega)⟩
    by_cases h7 : c.s.op = 7
    · have d7 := bt h7
      obtain ⟨p0, p1⟩ := hp.2.1 h7
      obtain ⟨i, hi⟩ : ∃ i, c.s.pl.toNat = i := ⟨_, rfl⟩
      have hii : ((i : Nat) : Int) = c.s.pl := by omega
      have hsp : fields c = putL (cutL c.L k) i c.old := by unfold fields; rw [if_neg h1, if_pos h7, hk, hi]
      rw [hsp]
      have hcut : fdV (cutL c.L k) = (fdV c.L).take (k * 5) ++ (fdV c.L).drop ((k + 1) * 5) := by unfold cutL; rw [fdV_append, fdV_take, fdV_drop]
      have hcl : (cutL c.L k).length = N := by unfold cutL; have := hN.out; simp only [List.length_append, List.length_take, List.length_drop]; omega
      have hput : ∀ ys, ys = (fdV (cutL c.L k)).take (i * 5) ++ (fdC c.old ++ (fdV (cutL c.L k)).drop (i * 5)) → ys = fdV (putL (cutL c.L k) i c.old) := fun ys hy => by
        rw [hy]; unfold putL; rw [fdV_append, fdV_append, fdV_one', fdV_take, fdV_drop]
      have hpl : N + 1 = (putL (cutL c.L k) i c.old).length := by
        unfold putL
        simp only [List.length_append, List.length_take, List.length_drop, List.length_cons, List.length_nil, hcl]
        have := hN.out
        omega
      have h1c : ∀ u ∈ fdC c.old, u.oneCell' = true := by have := fdV_one [c.old]; rwa [fdV_one'] at this
      have h1x : ∀ u ∈ fdV (cutL c.L k), u.oneCell' = true := fdV_one _
      have hN40 : N ≤ 40 := by have := hN.out; omega
      have hiN : i ≤ N := by have := hN.out; omega
      have hkN : k ≤ N := by have := hN.out; omega
      clear hsp hp hb4 hb6 h1 hk h7 hi
      go_enter Try.func52, Try.ntmps52
      go_wp2_with (go_at_call 50; ((with_reducible refine cC.mono ?_); rintro e w1 ⟨v, rfl, ho1, hb1⟩; obtain ⟨x, xc, rfl, hxc⟩ := ownsRow_slice ho1; obtain ⟨b0, hbo⟩ := HX.out w1 hb1; have y0 := b0.cell 0; have HO1 := hid ho1; have HB1 := hid hb1; have HBO := hid hbo; clear ho1 hb1 b0 hbo))
      have hvl : ∀ j, (Value.slice x c.L.length xc).ownBlock = some j → ((w.alloc (.cells #[.int .i64 c.s.op, .int .i64 c.s.fm, .int .i64 c.s.fd, .int .i64 c.s.pl, .int .i64 c.s.tt, .int .i64 c.s.a, .int .i64 c.s.b, .int .i64 c.s.f.id, .int .i64 c.s.f.kind, .int .i64 c.s.f.lo, .int .i64 c.s.f.hi, .int .i64 c.s.f.most, .int .i64 c.s.v.n, .string c.s.v.s, .slice ta c.s.t.length tc, .slice la c.s.l.length lc, .int .i64 c.fi, .slice fa c.L.length fc, .bool c.kn, .int .i64 c.at_, .int .i64 c.old.id, .int .i64 c.old.kind, .int .i64 c.old.lo, .int .i64 c.old.hi, .int .i64 c.old.most] 58))).heap.size ≤ j := fun j hj => (World.ownsRow.lt HO1.out j hj).1
      have hvg : ∀ j, (Value.slice x c.L.length xc).ownBlock = some j → j < w1.heap.size := fun j hj => (World.ownsRow.lt HO1.out j hj).2
      have ho1 : w1.drew.ownsRow ((w.alloc (.cells #[.int .i64 c.s.op, .int .i64 c.s.fm, .int .i64 c.s.fd, .int .i64 c.s.pl, .int .i64 c.s.tt, .int .i64 c.s.a, .int .i64 c.s.b, .int .i64 c.s.f.id, .int .i64 c.s.f.kind, .int .i64 c.s.f.lo, .int .i64 c.s.f.hi, .int .i64 c.s.f.most, .int .i64 c.s.v.n, .string c.s.v.s, .slice ta c.s.t.length tc, .slice la c.s.l.length lc, .int .i64 c.fi, .slice fa c.L.length fc, .bool c.kn, .int .i64 c.at_, .int .i64 c.old.id, .int .i64 c.old.kind, .int .i64 c.old.lo, .int .i64 c.old.hi, .int .i64 c.old.most] 58))).heap.size 26 5 (.slice x c.L.length xc) (N + 1) (fdV c.L) := by rw [← hN.out]; exact HO1.out
      have hS : Below ((w.alloc (.cells #[.int .i64 c.s.op, .int .i64 c.s.fm, .int .i64 c.s.fd, .int .i64 c.s.pl, .int .i64 c.s.tt, .int .i64 c.s.a, .int .i64 c.s.b, .int .i64 c.s.f.id, .int .i64 c.s.f.kind, .int .i64 c.s.f.lo, .int .i64 c.s.f.hi, .int .i64 c.s.f.most, .int .i64 c.s.v.n, .string c.s.v.s, .slice ta c.s.t.length tc, .slice la c.s.l.length lc, .int .i64 c.fi, .slice fa c.L.length fc, .bool c.kn, .int .i64 c.at_, .int .i64 c.old.id, .int .i64 c.old.kind, .int .i64 c.old.lo, .int .i64 c.old.hi, .int .i64 c.old.most] 58))).heap.size ((w.alloc (.cells #[.int .i64 c.s.op, .int .i64 c.s.fm, .int .i64 c.s.fd, .int .i64 c.s.pl, .int .i64 c.s.tt, .int .i64 c.s.a, .int .i64 c.s.b, .int .i64 c.s.f.id, .int .i64 c.s.f.kind, .int .i64 c.s.f.lo, .int .i64 c.s.f.hi, .int .i64 c.s.f.most, .int .i64 c.s.v.n, .string c.s.v.s, .slice ta c.s.t.length tc, .slice la c.s.l.length lc, .int .i64 c.fi, .slice fa c.L.length fc, .bool c.kn, .int .i64 c.at_, .int .i64 c.old.id, .int .i64 c.old.kind, .int .i64 c.old.lo, .int .i64 c.old.hi, .int .i64 c.old.most] 58))) w1.drew := below_drew HB1.out
      refine plan.regionS (S := fun w' => Below ((w.alloc (.cells #[.int .i64 c.s.op, .int .i64 c.s.fm, .int .i64 c.s.fd, .int .i64 c.s.pl, .int .i64 c.s.tt, .int .i64 c.s.a, .int .i64 c.s.b, .int .i64 c.s.f.id, .int .i64 c.s.f.kind, .int .i64 c.s.f.lo, .int .i64 c.s.f.hi, .int .i64 c.s.f.most, .int .i64 c.s.v.n, .string c.s.v.s, .slice ta c.s.t.length tc, .slice la c.s.l.length lc, .int .i64 c.fi, .slice fa c.L.length fc, .bool c.kn, .int .i64 c.at_, .int .i64 c.old.id, .int .i64 c.old.kind, .int .i64 c.old.lo, .int .i64 c.old.hi, .int .i64 c.old.most] 58))).heap.size ((w.alloc (.cells #[.int .i64 c.s.op, .int .i64 c.s.fm, .int .i64 c.s.fd, .int .i64 c.s.pl, .int .i64 c.s.tt, .int .i64 c.s.a, .int .i64 c.s.b, .int .i64 c.s.f.id, .int .i64 c.s.f.kind, .int .i64 c.s.f.lo, .int .i64 c.s.f.hi, .int .i64 c.s.f.most, .int .i64 c.s.v.n, .string c.s.v.s, .slice ta c.s.t.length tc, .slice la c.s.l.length lc, .int .i64 c.fi, .slice fa c.L.length fc, .bool c.kn, .int .i64 c.at_, .int .i64 c.old.id, .int .i64 c.old.kind, .int .i64 c.old.lo, .int .i64 c.old.hi, .int .i64 c.old.most] 58))) w') (by kernel_rfl) ?_
      refine plan.firstS 0 _ (.slice x c.L.length xc) rfl (by kernel_rfl) (by kernel_rfl) (by kernel_rfl) (by kernel_rfl) (fun w' hS' => (by kernel_rfl)) hS ?_
      refine plan.firstS 1 _ (.pointer (some ⟨w.heap.size, 19, none⟩)) rfl (by kernel_rfl) (by kernel_rfl) (by kernel_rfl) (by kernel_rfl) (fun w' hS' => (by kernel_rfl)) hS ?_
      refine plan.firstS 2 _ (.int .i64 c.at_) rfl (by kernel_rfl) (by kernel_rfl) (by kernel_rfl) (by kernel_rfl) (fun w' hS' => exec_cell_int (ad := ⟨w.heap.size, 19, none⟩) rfl (by kernel_rfl) ((HX.out w' hS').1.cell 19) Try.isAgg3) hS ?_
      refine plan.firstS 3 _ (.pointer (some ⟨w.heap.size, 19, none⟩)) rfl (by kernel_rfl) (by kernel_rfl) (by kernel_rfl) (by kernel_rfl) (fun w' hS' => (by kernel_rfl)) hS ?_
      refine plan.firstS 4 _ (.int .i64 c.at_) rfl (by kernel_rfl) (by kernel_rfl) (by kernel_rfl) (by kernel_rfl) (fun w' hS' => exec_cell_int (ad := ⟨w.heap.size, 19, none⟩) rfl (by kernel_rfl) ((HX.out w' hS').1.cell 19) Try.isAgg3) hS ?_
      refine plan.firstS 5 _ (.int .i64 (c.at_ + 1)) rfl (by kernel_rfl) (by kernel_rfl) (by kernel_rfl) (by kernel_rfl) (fun w' hS' => exec_inc rfl (by kernel_rfl) (by kernel_rfl) a0 (by omega)) hS ?_
      refine plan.firstS 7 _ (.pointer (some ⟨w.heap.size, 0, none⟩)) rfl (by kernel_rfl) (by kernel_rfl) (by kernel_rfl) (by kernel_rfl) (fun w' hS' => (by kernel_rfl)) hS ?_
      refine plan.firstS 8 _ (.pointer (some ⟨w.heap.size, 3, none⟩)) rfl (by kernel_rfl) (by kernel_rfl) (by kernel_rfl) (by kernel_rfl) (fun w' hS' => (by kernel_rfl)) hS ?_
      refine plan.firstS 9 _ (.int .i64 c.s.pl) rfl (by kernel_rfl) (by kernel_rfl) (by kernel_rfl) (by kernel_rfl) (fun w' hS' => exec_cell_int (ad := ⟨w.heap.size, 3, none⟩) rfl (by kernel_rfl) ((HX.out w' hS').1.cell 3) Try.isAgg3) hS ?_
      refine plan.firstS 10 _ (.pointer (some ⟨w.heap.size, 20, none⟩)) rfl (by kernel_rfl) (by kernel_rfl) (by kernel_rfl) (by kernel_rfl) (fun w' hS' => (by kernel_rfl)) hS ?_
      refine plan.firstS 11 _ (.agg #[.int .i64 c.old.id, .int .i64 c.old.kind, .int .i64 c.old.lo, .int .i64 c.old.hi, .int .i64 c.old.most]) rfl (by kernel_rfl) (by kernel_rfl) (by kernel_rfl) (by kernel_rfl) (fun w' hS' => exec_load_at (cs := [.int .i64 c.old.id, .int .i64 c.old.kind, .int .i64 c.old.lo, .int .i64 c.old.hi, .int .i64 c.old.most]) (b := w.heap.size) (off := 20) rfl (by kernel_rfl) (mid_range (HX.out w' hS').1.whole (fun j v hj => by match j, hj with | 0, hj => exact hj | 1, hj => exact hj | 2, hj => exact hj | 3, hj => exact hj | 4, hj => exact hj | n + 5, hj => simp at hj)) Try.underlying26 rfl info_fd.out) hS ?_
      refine bothS 6 12 (by kernel_rfl) ?_ ?_
      · have cD := deleteF_any ((w.alloc (.cells #[.int .i64 c.s.op, .int .i64 c.s.fm, .int .i64 c.s.fd, .int .i64 c.s.pl, .int .i64 c.s.tt, .int .i64 c.s.a, .int .i64 c.s.b, .int .i64 c.s.f.id, .int .i64 c.s.f.kind, .int .i64 c.s.f.lo, .int .i64 c.s.f.hi, .int .i64 c.s.f.most, .int .i64 c.s.v.n, .string c.s.v.s, .slice ta c.s.t.length tc, .slice la c.s.l.length lc, .int .i64 c.fi, .slice fa c.L.length fc, .bool c.kn, .int .i64 c.at_, .int .i64 c.old.id, .int .i64 c.old.kind, .int .i64 c.old.lo, .int .i64 c.old.hi, .int .i64 c.old.most] 58))).heap.size N k (.slice x c.L.length xc) (fdV c.L) w1.drew ho1 hkN HV1.out (by omega)
        rw [hkk, ← hcut] at cD
        unfold LessF at cD
        refine ⟨_, rfl, rfl, .inr ⟨85, #[.slice x c.L.length xc, .int .i64 c.at_, .int .i64 (c.at_ + 1)], by kernel_rfl, cD.mono ?_⟩⟩
        rintro e w3 ⟨v3, rfl, ho3, hg3, hob⟩
        have hS3 := hS.grown hg3 hS.size hvl
        refine ⟨v3, rfl, hS3, ?_⟩
        have hSi : Below ((w.alloc (.cells #[.int .i64 c.s.op, .int .i64 c.s.fm, .int .i64 c.s.fd, .int .i64 c.s.pl, .int .i64 c.s.tt, .int .i64 c.s.a, .int .i64 c.s.b, .int .i64 c.s.f.id, .int .i64 c.s.f.kind, .int .i64 c.s.f.lo, .int .i64 c.s.f.hi, .int .i64 c.s.f.most, .int .i64 c.s.v.n, .string c.s.v.s, .slice ta c.s.t.length tc, .slice la c.s.l.length lc, .int .i64 c.fi, .slice fa c.L.length fc, .bool c.kn, .int .i64 c.at_, .int .i64 c.old.id, .int .i64 c.old.kind, .int .i64 c.old.lo, .int .i64 c.old.hi, .int .i64 c.old.most] 58))).heap.size ((w.alloc (.cells #[.int .i64 c.s.op, .int .i64 c.s.fm, .int .i64 c.s.fd, .int .i64 c.s.pl, .int .i64 c.s.tt, .int .i64 c.s.a, .int .i64 c.s.b, .int .i64 c.s.f.id, .int .i64 c.s.f.kind, .int .i64 c.s.f.lo, .int .i64 c.s.f.hi, .int .i64 c.s.f.most, .int .i64 c.s.v.n, .string c.s.v.s, .slice ta c.s.t.length tc, .slice la c.s.l.length lc, .int .i64 c.fi, .slice fa c.L.length fc, .bool c.kn, .int .i64 c.at_, .int .i64 c.old.id, .int .i64 c.old.kind, .int .i64 c.old.lo, .int .i64 c.old.hi, .int .i64 c.old.most] 58))) (w3.alloc (.cells #[.int .i64 c.old.id, .int .i64 c.old.kind, .int .i64 c.old.lo, .int .i64 c.old.hi, .int .i64 c.old.most] 26)) := hS3.alloc hS3.size _
        refine plan.oneS (w1 := w3.alloc (.cells #[.int .i64 c.old.id, .int .i64 c.old.kind, .int .i64 c.old.lo, .int .i64 c.old.hi, .int .i64 c.old.most] 26)) 12 _ (.slice (some ⟨w3.heap.size, 0, none⟩) 1 1) rfl rfl (by kernel_rfl) (by kernel_rfl) hSi ?_
        have hv3 : ∀ j, v3.ownBlock = some j → ((w.alloc (.cells #[.int .i64 c.s.op, .int .i64 c.s.fm, .int .i64 c.s.fd, .int .i64 c.s.pl, .int .i64 c.s.tt, .int .i64 c.s.a, .int .i64 c.s.b, .int .i64 c.s.f.id, .int .i64 c.s.f.kind, .int .i64 c.s.f.lo, .int .i64 c.s.f.hi, .int .i64 c.s.f.most, .int .i64 c.s.v.n, .string c.s.v.s, .slice ta c.s.t.length tc, .slice la c.s.l.length lc, .int .i64 c.fi, .slice fa c.L.length fc, .bool c.kn, .int .i64 c.at_, .int .i64 c.old.id, .int .i64 c.old.kind, .int .i64 c.old.lo, .int .i64 c.old.hi, .int .i64 c.old.most] 58))).heap.size ≤ j := fun j hj => (World.ownsRow.lt ho3 j hj).1
        have cI := insertF_any ((w.alloc (.cells #[.int .i64 c.s.op, .int .i64 c.s.fm, .int .i64 c.s.fd, .int .i64 c.s.pl, .int .i64 c.s.tt, .int .i64 c.s.a, .int .i64 c.s.b, .int .i64 c.s.f.id, .int .i64 c.s.f.kind, .int .i64 c.s.f.lo, .int .i64 c.s.f.hi, .int .i64 c.s.f.most, .int .i64 c.s.v.n, .string c.s.v.s, .slice ta c.s.t.length tc, .slice la c.s.l.length lc, .int .i64 c.fi, .slice fa c.L.length fc, .bool c.kn, .int .i64 c.at_, .int .i64 c.old.id, .int .i64 c.old.kind, .int .i64 c.old.lo, .int .i64 c.old.hi, .int .i64 c.old.most] 58))).heap.size N i w3.heap.size 0 1 (fdC c.old) 26 v3 (fdV (cutL c.L k)) (fdC c.old) (w3.alloc (.cells #[.int .i64 c.old.id, .int .i64 c.old.kind, .int .i64 c.old.lo, .int .i64 c.old.hi, .int .i64 c.old.most] 26)) (ho3.alloc _) hSi.size hiN rfl (Block.new w3 _ _) (by simp [fdC]) (fun e => by have := World.ownsRow.lt ho3 _ e; omega) (fun j u hj => by rw [Nat.zero_add]; exact hj) h1c h1x (by omega)
        rw [hii] at cI
        unfold MadeF at cI
        refine plan.callS 13 _ 84 #[v3, .int .i64 c.s.pl, .slice (some ⟨w3.heap.size, 0, none⟩) 1 1] rfl (by kernel_rfl) (by kernel_rfl) (by kernel_rfl) (cI.mono ?_)
        rintro e w4 ⟨v4, rfl, ho4, hg4⟩
        have hS4 := hSi.grown hg4 hSi.size hv3
        refine ⟨v4, rfl, hS4, ?_⟩
        refine plan.oneS (w1 := w4) 14 _ v4 rfl rfl (by kernel_rfl) (by kernel_rfl) hS4 ?_
        refine plan.doneS (by kernel_rfl) ?_
        have HFIN : Hid (OwnsF (putL (cutL c.L k) i c.old) w (.returned v4) w4) := hid (finish (HX.out _ hSi).2 HSZ.out hv3 ho4 hg4 (hput _ rfl) hpl)
        clear ho4 hg4 hS4
        walk_nrm
        go_wp2
        go_ret
        exact HFIN.out
      · have hSa : Below ((w.alloc (.cells #[.int .i64 c.s.op, .int .i64 c.s.fm, .int .i64 c.s.fd, .int .i64 c.s.pl, .int .i64 c.s.tt, .int .i64 c.s.a, .int .i64 c.s.b, .int .i64 c.s.f.id, .int .i64 c.s.f.kind, .int .i64 c.s.f.lo, .int .i64 c.s.f.hi, .int .i64 c.s.f.most, .int .i64 c.s.v.n, .string c.s.v.s, .slice ta c.s.t.length tc, .slice la c.s.l.length lc, .int .i64 c.fi, .slice fa c.L.length fc, .bool c.kn, .int .i64 c.at_, .int .i64 c.old.id, .int .i64 c.old.kind, .int .i64 c.old.lo, .int .i64 c.old.hi, .int .i64 c.old.most] 58))).heap.size ((w.alloc (.cells #[.int .i64 c.s.op, .int .i64 c.s.fm, .int .i64 c.s.fd, .int .i64 c.s.pl, .int .i64 c.s.tt, .int .i64 c.s.a, .int .i64 c.s.b, .int .i64 c.s.f.id, .int .i64 c.s.f.kind, .int .i64 c.s.f.lo, .int .i64 c.s.f.hi, .int .i64 c.s.f.most, .int .i64 c.s.v.n, .string c.s.v.s, .slice ta c.s.t.length tc, .slice la c.s.l.length lc, .int .i64 c.fi, .slice fa c.L.length fc, .bool c.kn, .int .i64 c.at_, .int .i64 c.old.id, .int .i64 c.old.kind, .int .i64 c.old.lo, .int .i64 c.old.hi, .int .i64 c.old.most] 58))) (w1.drew.alloc (.cells #[.int .i64 c.old.id, .int .i64 c.old.kind, .int .i64 c.old.lo, .int .i64 c.old.hi, .int .i64 c.old.most] 26)) := hS.alloc hS.size _
        refine ⟨_, rfl, rfl, .inl ⟨.slice (some ⟨w1.drew.heap.size, 0, none⟩) 1 1, w1.drew.alloc (.cells #[.int .i64 c.old.id, .int .i64 c.old.kind, .int .i64 c.old.lo, .int .i64 c.old.hi, .int .i64 c.old.most] 26), by kernel_rfl, hSa, ?_⟩⟩
        have cD := deleteF_any ((w.alloc (.cells #[.int .i64 c.s.op, .int .i64 c.s.fm, .int .i64 c.s.fd, .int .i64 c.s.pl, .int .i64 c.s.tt, .int .i64 c.s.a, .int .i64 c.s.b, .int .i64 c.s.f.id, .int .i64 c.s.f.kind, .int .i64 c.s.f.lo, .int .i64 c.s.f.hi, .int .i64 c.s.f.most, .int .i64 c.s.v.n, .string c.s.v.s, .slice ta c.s.t.length tc, .slice la c.s.l.length lc, .int .i64 c.fi, .slice fa c.L.length fc, .bool c.kn, .int .i64 c.at_, .int .i64 c.old.id, .int .i64 c.old.kind, .int .i64 c.old.lo, .int .i64 c.old.hi, .int .i64 c.old.most] 58))).heap.size N k (.slice x c.L.length xc) (fdV c.L) (w1.drew.alloc (.cells #[.int .i64 c.old.id, .int .i64 c.old.kind, .int .i64 c.old.lo, .int .i64 c.old.hi, .int .i64 c.old.most] 26)) (ho1.alloc _) hkN HV1.out (by omega)
        rw [hkk, ← hcut] at cD
        unfold LessF at cD
        refine plan.callS 6 _ 85 #[.slice x c.L.length xc, .int .i64 c.at_, .int .i64 (c.at_ + 1)] rfl (by kernel_rfl) (by kernel_rfl) (by kernel_rfl) (cD.mono ?_)
        rintro e w3 ⟨v3, rfl, ho3, hg3, hob⟩
        have hSi := hSa.grown hg3 hSa.size hvl
        have hG : Block w3 w1.drew.heap.size 26 (fdC c.old) := (hg3.block _ (by simp) (fun e => by have h5 : w1.drew.heap.size < w1.heap.size := hvg _ e.symm; exact absurd h5 (Nat.lt_irrefl _))).trans (Block.new w1.drew _ _)
        refine ⟨v3, rfl, hSi, ?_⟩
        have hv3 : ∀ j, v3.ownBlock = some j → ((w.alloc (.cells #[.int .i64 c.s.op, .int .i64 c.s.fm, .int .i64 c.s.fd, .int .i64 c.s.pl, .int .i64 c.s.tt, .int .i64 c.s.a, .int .i64 c.s.b, .int .i64 c.s.f.id, .int .i64 c.s.f.kind, .int .i64 c.s.f.lo, .int .i64 c.s.f.hi, .int .i64 c.s.f.most, .int .i64 c.s.v.n, .string c.s.v.s, .slice ta c.s.t.length tc, .slice la c.s.l.length lc, .int .i64 c.fi, .slice fa c.L.length fc, .bool c.kn, .int .i64 c.at_, .int .i64 c.old.id, .int .i64 c.old.kind, .int .i64 c.old.lo, .int .i64 c.old.hi, .int .i64 c.old.most] 58))).heap.size ≤ j := fun j hj => (World.ownsRow.lt ho3 j hj).1
        have hne : v3.ownBlock ≠ some w1.drew.heap.size := fun e => by rw [hob] at e; have h5 : w1.drew.heap.size < w1.heap.size := hvg _ e; exact absurd h5 (Nat.lt_irrefl _)
        have cI := insertF_any ((w.alloc (.cells #[.int .i64 c.s.op, .int .i64 c.s.fm, .int .i64 c.s.fd, .int .i64 c.s.pl, .int .i64 c.s.tt, .int .i64 c.s.a, .int .i64 c.s.b, .int .i64 c.s.f.id, .int .i64 c.s.f.kind, .int .i64 c.s.f.lo, .int .i64 c.s.f.hi, .int .i64 c.s.f.most, .int .i64 c.s.v.n, .string c.s.v.s, .slice ta c.s.t.length tc, .slice la c.s.l.length lc, .int .i64 c.fi, .slice fa c.L.length fc, .bool c.kn, .int .i64 c.at_, .int .i64 c.old.id, .int .i64 c.old.kind, .int .i64 c.old.lo, .int .i64 c.old.hi, .int .i64 c.old.most] 58))).heap.size N i w1.drew.heap.size 0 1 (fdC c.old) 26 v3 (fdV (cutL c.L k)) (fdC c.old) w3 ho3 hSi.size hiN rfl hG (by simp [fdC]) hne (fun j u hj => by rw [Nat.zero_add]; exact hj) h1c h1x (by omega)
        rw [hii] at cI
        unfold MadeF at cI
        refine plan.callS 13 _ 84 #[v3, .int .i64 c.s.pl, .slice (some ⟨w1.drew.heap.size, 0, none⟩) 1 1] rfl (by kernel_rfl) (by kernel_rfl) (by kernel_rfl) (cI.mono ?_)
        rintro e w4 ⟨v4, rfl, ho4, hg4⟩
        have hS4 := hSi.grown hg4 hSi.size hv3
        refine ⟨v4, rfl, hS4, ?_⟩
        refine plan.oneS (w1 := w4) 14 _ v4 rfl rfl (by kernel_rfl) (by kernel_rfl) hS4 ?_
        refine plan.doneS (by kernel_rfl) ?_
        have HFIN : Hid (OwnsF (putL (cutL c.L k) i c.old) w (.returned v4) w4) := hid (finish (HX.out _ hSi).2 HSZ.out hv3 ho4 hg4 (hput _ rfl) hpl)
        clear ho4 hg4 hS4
        walk_nrm
        go_wp2
        go_ret
        exact HFIN.out
    · have d7 := bf h7
      have hsp : fields c = c.L.take k ++ (heirs c ++ c.L.drop (k + 1)) := by unfold fields; rw [if_neg h1, if_neg h7, hk]
      rw [hsp]
      have cHe := fun (w' : World) => heirs_any c ta tc la lc fa fc w' hb4 hb6
      have hHl := heirs_len c
      generalize hHH : heirs c = H at *
      clear hsp hp hb4 hb6 h1 hk h7 hHH
      go_enter Try.func52, Try.ntmps52
      go_wp2_with (go_at_call 50; ((with_reducible refine cC.mono ?_); rintro e w1 ⟨v, rfl, ho1, hb1⟩; obtain ⟨x, xc, rfl, hxc⟩ := ownsRow_slice ho1; obtain ⟨b0, hbo⟩ := HX.out w1 hb1; have y0 := b0.cell 0; have HO1 := hid ho1; have HB1 := hid hb1; have HBO := hid hbo; clear ho1 hb1 b0 hbo))
      have HB12 : ∀ w2, Below w1.drew.heap.size w1.drew w2 → Below w1.heap.size w1 w2 := fun w2 h => (below_drew (Below.refl _ _)).trans h
      have hS : Below ((w.alloc (.cells #[.int .i64 c.s.op, .int .i64 c.s.fm, .int .i64 c.s.fd, .int .i64 c.s.pl, .int .i64 c.s.tt, .int .i64 c.s.a, .int .i64 c.s.b, .int .i64 c.s.f.id, .int .i64 c.s.f.kind, .int .i64 c.s.f.lo, .int .i64 c.s.f.hi, .int .i64 c.s.f.most, .int .i64 c.s.v.n, .string c.s.v.s, .slice ta c.s.t.length tc, .slice la c.s.l.length lc, .int .i64 c.fi, .slice fa c.L.length fc, .bool c.kn, .int .i64 c.at_, .int .i64 c.old.id, .int .i64 c.old.kind, .int .i64 c.old.lo, .int .i64 c.old.hi, .int .i64 c.old.most] 58))).heap.size ((w.alloc (.cells #[.int .i64 c.s.op, .int .i64 c.s.fm, .int .i64 c.s.fd, .int .i64 c.s.pl, .int .i64 c.s.tt, .int .i64 c.s.a, .int .i64 c.s.b, .int .i64 c.s.f.id, .int .i64 c.s.f.kind, .int .i64 c.s.f.lo, .int .i64 c.s.f.hi, .int .i64 c.s.f.most, .int .i64 c.s.v.n, .string c.s.v.s, .slice ta c.s.t.length tc, .slice la c.s.l.length lc, .int .i64 c.fi, .slice fa c.L.length fc, .bool c.kn, .int .i64 c.at_, .int .i64 c.old.id, .int .i64 c.old.kind, .int .i64 c.old.lo, .int .i64 c.old.hi, .int .i64 c.old.most] 58))) w1.drew := below_drew HB1.out
      refine plan.regionS (S := fun w' => Below ((w.alloc (.cells #[.int .i64 c.s.op, .int .i64 c.s.fm, .int .i64 c.s.fd, .int .i64 c.s.pl, .int .i64 c.s.tt, .int .i64 c.s.a, .int .i64 c.s.b, .int .i64 c.s.f.id, .int .i64 c.s.f.kind, .int .i64 c.s.f.lo, .int .i64 c.s.f.hi, .int .i64 c.s.f.most, .int .i64 c.s.v.n, .string c.s.v.s, .slice ta c.s.t.length tc, .slice la c.s.l.length lc, .int .i64 c.fi, .slice fa c.L.length fc, .bool c.kn, .int .i64 c.at_, .int .i64 c.old.id, .int .i64 c.old.kind, .int .i64 c.old.lo, .int .i64 c.old.hi, .int .i64 c.old.most] 58))).heap.size ((w.alloc (.cells #[.int .i64 c.s.op, .int .i64 c.s.fm, .int .i64 c.s.fd, .int .i64 c.s.pl, .int .i64 c.s.tt, .int .i64 c.s.a, .int .i64 c.s.b, .int .i64 c.s.f.id, .int .i64 c.s.f.kind, .int .i64 c.s.f.lo, .int .i64 c.s.f.hi, .int .i64 c.s.f.most, .int .i64 c.s.v.n, .string c.s.v.s, .slice ta c.s.t.length tc, .slice la c.s.l.length lc, .int .i64 c.fi, .slice fa c.L.length fc, .bool c.kn, .int .i64 c.at_, .int .i64 c.old.id, .int .i64 c.old.kind, .int .i64 c.old.lo, .int .i64 c.old.hi, .int .i64 c.old.most] 58))) w') (by kernel_rfl) ?_
      refine plan.firstS 0 _ (.slice x c.L.length xc) rfl (by kernel_rfl) (by kernel_rfl) (by kernel_rfl) (by kernel_rfl) (fun w' hS' => (by kernel_rfl)) hS ?_
      refine plan.firstS 1 _ (.pointer (some ⟨w.heap.size, 19, none⟩)) rfl (by kernel_rfl) (by kernel_rfl) (by kernel_rfl) (by kernel_rfl) (fun w' hS' => (by kernel_rfl)) hS ?_
      refine plan.firstS 2 _ (.int .i64 c.at_) rfl (by kernel_rfl) (by kernel_rfl) (by kernel_rfl) (by kernel_rfl) (fun w' hS' => exec_cell_int (ad := ⟨w.heap.size, 19, none⟩) rfl (by kernel_rfl) ((HX.out w' hS').1.cell 19) Try.isAgg3) hS ?_
      refine plan.firstS 3 _ (.pointer (some ⟨w.heap.size, 19, none⟩)) rfl (by kernel_rfl) (by kernel_rfl) (by kernel_rfl) (by kernel_rfl) (fun w' hS' => (by kernel_rfl)) hS ?_
      refine plan.firstS 4 _ (.int .i64 c.at_) rfl (by kernel_rfl) (by kernel_rfl) (by kernel_rfl) (by kernel_rfl) (fun w' hS' => exec_cell_int (ad := ⟨w.heap.size, 19, none⟩) rfl (by kernel_rfl) ((HX.out w' hS').1.cell 19) Try.isAgg3) hS ?_
      refine plan.firstS 5 _ (.int .i64 (c.at_ + 1)) rfl (by kernel_rfl) (by kernel_rfl) (by kernel_rfl) (by kernel_rfl) (fun w' hS' => exec_inc rfl (by kernel_rfl) (by kernel_rfl) a0 (by omega)) hS ?_
      refine plan.firstS 6 _ (.agg #[.int .i64 c.s.op, .int .i64 c.s.fm, .int .i64 c.s.fd, .int .i64 c.s.pl, .int .i64 c.s.tt, .int .i64 c.s.a, .int .i64 c.s.b, .int .i64 c.s.f.id, .int .i64 c.s.f.kind, .int .i64 c.s.f.lo, .int .i64 c.s.f.hi, .int .i64 c.s.f.most, .int .i64 c.s.v.n, .string c.s.v.s, .slice ta c.s.t.length tc, .slice la c.s.l.length lc, .int .i64 c.fi, .slice fa c.L.length fc, .bool c.kn, .int .i64 c.at_, .int .i64 c.old.id, .int .i64 c.old.kind, .int .i64 c.old.lo, .int .i64 c.old.hi, .int .i64 c.old.most]) rfl (by kernel_rfl) (by kernel_rfl) (by kernel_rfl) (by kernel_rfl) (fun w' hS' => exec_load_at (b := w.heap.size) (off := 0) rfl (by kernel_rfl) (HX.out w' hS').1.whole Try.underlying58 rfl ch_info) hS ?_
      refine plan.callS 7 _ 87 #[.agg #[.int .i64 c.s.op, .int .i64 c.s.fm, .int .i64 c.s.fd, .int .i64 c.s.pl, .int .i64 c.s.tt, .int .i64 c.s.a, .int .i64 c.s.b, .int .i64 c.s.f.id, .int .i64 c.s.f.kind, .int .i64 c.s.f.lo, .int .i64 c.s.f.hi, .int .i64 c.s.f.most, .int .i64 c.s.v.n, .string c.s.v.s, .slice ta c.s.t.length tc, .slice la c.s.l.length lc, .int .i64 c.fi, .slice fa c.L.length fc, .bool c.kn, .int .i64 c.at_, .int .i64 c.old.id, .int .i64 c.old.kind, .int .i64 c.old.lo, .int .i64 c.old.hi, .int .i64 c.old.most]] rfl (by kernel_rfl) (by kernel_rfl) (by kernel_rfl) ((cHe w1.drew).mono ?_)
      intro e w2 hout
      obtain ⟨hv, rfl, hb2, hcase⟩ := hout.value
      have hS2 := hS.trans (hb2.mono hS.size)
      refine ⟨hv, rfl, hS2, ?_⟩
      have hown2 : w2.ownsRow ((w.alloc (.cells #[.int .i64 c.s.op, .int .i64 c.s.fm, .int .i64 c.s.fd, .int .i64 c.s.pl, .int .i64 c.s.tt, .int .i64 c.s.a, .int .i64 c.s.b, .int .i64 c.s.f.id, .int .i64 c.s.f.kind, .int .i64 c.s.f.lo, .int .i64 c.s.f.hi, .int .i64 c.s.f.most, .int .i64 c.s.v.n, .string c.s.v.s, .slice ta c.s.t.length tc, .slice la c.s.l.length lc, .int .i64 c.fi, .slice fa c.L.length fc, .bool c.kn, .int .i64 c.at_, .int .i64 c.old.id, .int .i64 c.old.kind, .int .i64 c.old.lo, .int .i64 c.old.hi, .int .i64 c.old.most] 58))).heap.size 26 5 (.slice x c.L.length xc) (N + 1) (fdV c.L) := by
        have := ownsRow_later (w' := w2) HO1.out (HB12 w2 hb2)
        rw [← hN.out]; exact this
      have cR := replace_any ((w.alloc (.cells #[.int .i64 c.s.op, .int .i64 c.s.fm, .int .i64 c.s.fd, .int .i64 c.s.pl, .int .i64 c.s.tt, .int .i64 c.s.a, .int .i64 c.s.b, .int .i64 c.s.f.id, .int .i64 c.s.f.kind, .int .i64 c.s.f.lo, .int .i64 c.s.f.hi, .int .i64 c.s.f.most, .int .i64 c.s.v.n, .string c.s.v.s, .slice ta c.s.t.length tc, .slice la c.s.l.length lc, .int .i64 c.fi, .slice fa c.L.length fc, .bool c.kn, .int .i64 c.at_, .int .i64 c.old.id, .int .i64 c.old.kind, .int .i64 c.old.lo, .int .i64 c.old.hi, .int .i64 c.old.most] 58))).heap.size N k (.slice x c.L.length xc) (fdV c.L) H hv w2 hown2 hS2.size (by have := hN.out; omega) HV1.out (by have := hN.out; omega) (by
        rcases hcase with ⟨q1, q2⟩ | ⟨q1, g, q2, q3, q4⟩
        · exact .inl ⟨q1, q2⟩
        · refine .inr ⟨q1, hHl, g, q3, q4, fun e => ?_⟩
          have h3 := (World.ownsRow.lt HO1.out g e).2
          have h4 : w1.heap.size ≤ g := q2
          omega)
      rw [hkk] at cR
      unfold MadeF at cR
      refine plan.callS 8 _ 86 #[.slice x c.L.length xc, .int .i64 c.at_, .int .i64 (c.at_ + 1), hv] rfl (by kernel_rfl) (by kernel_rfl) (by kernel_rfl) (cR.mono ?_)
      rintro e w3 ⟨v3, rfl, ho3, hg3⟩
      have hvl : ∀ j, (Value.slice x c.L.length xc).ownBlock = some j → ((w.alloc (.cells #[.int .i64 c.s.op, .int .i64 c.s.fm, .int .i64 c.s.fd, .int .i64 c.s.pl, .int .i64 c.s.tt, .int .i64 c.s.a, .int .i64 c.s.b, .int .i64 c.s.f.id, .int .i64 c.s.f.kind, .int .i64 c.s.f.lo, .int .i64 c.s.f.hi, .int .i64 c.s.f.most, .int .i64 c.s.v.n, .string c.s.v.s, .slice ta c.s.t.length tc, .slice la c.s.l.length lc, .int .i64 c.fi, .slice fa c.L.length fc, .bool c.kn, .int .i64 c.at_, .int .i64 c.old.id, .int .i64 c.old.kind, .int .i64 c.old.lo, .int .i64 c.old.hi, .int .i64 c.old.most] 58))).heap.size ≤ j := fun j hj => (World.ownsRow.lt HO1.out j hj).1
      have hS3 := hS2.grown hg3 hS2.size hvl
      refine ⟨v3, rfl, hS3, ?_⟩
      refine plan.oneS (w1 := w3) 9 _ v3 rfl rfl (by kernel_rfl) (by kernel_rfl) hS3 ?_
      refine plan.doneS (by kernel_rfl) ?_
      have HFIN : Hid (OwnsF (c.L.take k ++ (H ++ c.L.drop (k + 1))) w (.returned v3) w3) := hid (finish (HX.out w2 hS2).2 HSZ.out hvl ho3 hg3 (by rw [fdV_append, fdV_append, fdV_take, fdV_drop]) (by have := hN.out; simp only [List.length_append, List.length_take, List.length_drop]; omega))
      clear cR ho3 hg3 hS3 hS2 hS hown2 hvl hcase hout cHe
      walk_nrm
      go_wp2
      go_ret
      exact HFIN.out
end Go.Proofs.Ytiajpjkkopdmgaa.typing

namespace Go.Proofs.Ytiajpjkkopdmgaa.typing
open Go.RowKit Go.Proofs.Ytiajpjkkopdmgaa.schema
open Go.Proofs.Ytiajpjkkopdmgaa.field (Gives newB gives_from)
set_option linter.unusedVariables false

def cmpI (x y : Int) : Int := if x < y then -1 else if y < x then 1 else 0
theorem isNaN_any (x : Int) (w : World) : Calls Try.prog 81 #[.int .i64 x] w (Gives (.bool false) w) := by
  unfold Gives
  go_enter Try.func81, Try.ntmps81
  go_wp2
  go_ret
  exact ⟨by simp, Below.refl _ _⟩
theorem compare_any (x y : Int) (w : World) : Calls Try.prog 48 #[.int .i64 x, .int .i64 y] w (Gives (.int .i64 (cmpI x y)) w) := by
  have cX := fun w' (hb : Below w.heap.size w w') => gives_from (isNaN_any x w') hb
  have cY := fun w' (hb : Below w.heap.size w w') => gives_from (isNaN_any y w') hb
  obtain ⟨v, hv⟩ : ∃ v : Int, Hid (cmpI x y = v) := ⟨_, rfl⟩
  rw [hv.out]
  unfold Gives
  have hw := Below.refl w.heap.size w
  by_cases h1 : x < y
  · obtain rfl : -1 = v := by rw [← hv.out]; unfold cmpI; rw [if_pos h1]
    go_enter Try.func48, Try.ntmps48
    go_wp2_with (first
      | (go_at_call 81; ((with_reducible refine (cX _ hw).mono ?_); rintro e w1 ⟨rfl, hb1⟩))
      | (go_at_call 81; ((with_reducible refine (cY _ hb1).mono ?_); rintro e w2 ⟨rfl, hb2⟩)))
    go_ret
    exact ⟨rfl, hb2⟩
  · by_cases h2 : y < x
    · obtain rfl : 1 = v := by rw [← hv.out]; unfold cmpI; rw [if_neg h1, if_pos h2]
      have d2 : decide (x > y) = true := decide_eq_true h2
      go_enter Try.func48, Try.ntmps48
      go_wp2_with (first
        | (go_at_call 81; ((with_reducible refine (cX _ hw).mono ?_); rintro e w1 ⟨rfl, hb1⟩))
        | (go_at_call 81; ((with_reducible refine (cY _ hb1).mono ?_); rintro e w2 ⟨rfl, hb2⟩)))
      go_ret
      exact ⟨rfl, hb2⟩
    · obtain rfl : 0 = v := by rw [← hv.out]; unfold cmpI; rw [if_neg h1, if_neg h2]
      have d2 : decide (x > y) = false := decide_eq_false h2
      go_enter Try.func48, Try.ntmps48
      go_wp2_with (first
        | (go_at_call 81; ((with_reducible refine (cX _ hw).mono ?_); rintro e w1 ⟨rfl, hb1⟩))
        | (go_at_call 81; ((with_reducible refine (cY _ hb1).mono ?_); rintro e w2 ⟨rfl, hb2⟩)))
      go_ret
      exact ⟨rfl, hb2⟩
theorem byID_any (i : Int) (q : Option Addr) (n qc : Nat) (x : Int) (w : World) :
    Calls Try.prog 47 #[.agg #[.int .i64 i, .slice q n qc], .int .i64 x] w (Gives (.int .i64 (cmpI i x)) w) := by
  have HN := newB w (.cells #[.int .i64 i, .slice q n qc] 52)
  have cC := gives_from (compare_any i x (w.alloc (.cells #[.int .i64 i, .slice q n qc] 52))) HN
  obtain ⟨v, hv⟩ : ∃ v : Int, Hid (cmpI i x = v) := ⟨_, rfl⟩
  rw [hv.out] at cC ⊢
  unfold Gives
  go_enter Try.func47, Try.ntmps47
  go_wp2_with (go_at_call 48; ((with_reducible refine cC.mono ?_); rintro e w1 ⟨rfl, hb1⟩))
  go_ret
  exact ⟨rfl, hb1⟩
/-- what a search knows: all before i are less, none from j on is -/
def Mid (F : List Fm) (x : Int) (i j : Nat) : Prop := (∀ p ∈ (forms F).take i, p.1 < x) ∧ (∀ p ∈ (forms F).drop j, ¬ p.1 < x)
theorem Mid.start (F : List Fm) (x : Int) : Mid F x 0 F.length := ⟨by simp, by rw [List.drop_of_length_le (by rw [forms_length]; exact Nat.le_refl _)]; simp⟩
theorem Mid.up {F : List Fm} {x : Int} {i j h : Nat} {p : Fm} (hm : Mid F x i j) (hs : Sorted (forms F)) (hp : F[h]? = some p) (hx : p.id < x) : Mid F x (h + 1) j := by
  refine ⟨fun q hq => ?_, hm.2⟩
  obtain ⟨k, hk⟩ := List.mem_iff_getElem?.1 hq
  rw [List.getElem?_take] at hk
  split at hk
  · rename_i hlt
    by_cases e : k = h
    · subst e
      rw [forms_at hp] at hk
      cases hk
      exact hx
    · have h1 : ((forms F).map (·.1))[k]? = some q.1 := by rw [List.getElem?_map, hk]; rfl
      have h2 : ((forms F).map (·.1))[h]? = some p.id := by rw [List.getElem?_map, forms_at hp]; rfl
      obtain ⟨a1, a2⟩ := List.getElem?_eq_some_iff.1 h1
      obtain ⟨b1, b2⟩ := List.getElem?_eq_some_iff.1 h2
      have := List.pairwise_iff_getElem.1 hs k h a1 b1 (by omega)
      rw [a2, b2] at this
      omega
  · cases hk
theorem Mid.down {F : List Fm} {x : Int} {i j h : Nat} {p : Fm} (hm : Mid F x i j) (hs : Sorted (forms F)) (hp : F[h]? = some p) (hx : ¬ p.id < x) : Mid F x i h := by
  refine ⟨hm.1, fun q hq => ?_⟩
  obtain ⟨k, hk⟩ := List.mem_iff_getElem?.1 hq
  rw [List.getElem?_drop] at hk
  by_cases e : k = 0
  · subst e
    rw [Nat.add_zero, forms_at hp] at hk
    cases hk
    exact hx
  · have h1 : ((forms F).map (·.1))[h + k]? = some q.1 := by rw [List.getElem?_map, hk]; rfl
    have h2 : ((forms F).map (·.1))[h]? = some p.id := by rw [List.getElem?_map, forms_at hp]; rfl
    obtain ⟨a1, a2⟩ := List.getElem?_eq_some_iff.1 h1
    obtain ⟨b1, b2⟩ := List.getElem?_eq_some_iff.1 h2
    have := List.pairwise_iff_getElem.1 hs h (h + k) b1 a1 (by omega)
    rw [a2, b2] at this
    omega
theorem Mid.pos {F : List Fm} {x : Int} {i : Nat} (hm : Mid F x i i) (hs : Sorted (forms F)) (hi : i ≤ F.length) : pos (forms F) x = i :=
  pos_eq hs (by rw [forms_length]; exact hi) hm.1 hm.2
theorem cmpI_lt {x y : Int} (h : x < y) : cmpI x y = -1 := by unfold cmpI; rw [if_pos h]
theorem cmpI_ge {x y : Int} (h : ¬ x < y) : 0 ≤ cmpI x y := by unfold cmpI; rw [if_neg h]; split <;> omega
theorem search_any (a : Option Addr) (cap : Nat) (F : List Fm) (x : Int) (w : World) (h : Fms w a F) (hF : F.length ≤ 1000) (hs : Sorted (forms F)) :
    Calls Try.prog 46 #[.slice a F.length cap, .int .i64 x, .func (.func 47) #[] #[]] w
      (fun e w' => ∃ b : Bool, e = .returned (.tuple #[.int .i64 (pos (forms F) x : Nat), .bool b]) ∧ Below w.heap.size w w') := by
  have hml : (F.length : Int) ≤ 1000 := by omega
  have HF := hid h
  have HS := hid hs
  have HP : Hid (∀ i, Mid F x i i → i ≤ F.length → pos (forms F) x = i) := hid (fun i hm hi => hm.pos hs hi)
  generalize pos (forms F) x = P at *
  have HM := hid (Mid.start F x)
  clear h hs
  go_enter Try.func46, Try.ntmps46
  go_wp2
  go_loopw [9, 10] (fun n m wr => ∃ i j : Nat, i ≤ j ∧ j ≤ F.length ∧ n = .int .i64 (i : Int) ∧ m = .int .i64 (j : Int) ∧ Hid (Mid F x i j) ∧ Hid (Below w.heap.size w wr)) (fun n m _ => (intOf m).toNat - (intOf n).toNat)
  case atStart => exact ⟨0, F.length, Nat.zero_le _, Nat.le_refl _, rfl, rfl, HM, hid (Below.refl _ _)⟩
  case round =>
    obtain ⟨i, j, hij, hj, rfl, rfl, HMD, HB⟩ := hrel
    by_cases hlt : i < j
    · obtain ⟨H, hH⟩ : ∃ H : Nat, (i + j) / 2 = H := ⟨_, rfl⟩
      have i1 : (i : Int) < j := by omega
      have i2 : (j : Int) ≤ F.length := by omega
      have hH1 : i ≤ H := by omega
      have hH2 : H < j := by omega
      have s1 : ((i : Int) + (j : Int)) / 2 = (H : Int) := by omega
      have i3 : (H : Int) < F.length := by omega
      obtain ⟨b, off, p, rfl, hbl, hp, c0, c1⟩ := (HF.out.below HB.out).at (i := H) (by omega)
      have cB := byID_any p.id p.f p.fL.length p.fCap x wr
      unfold Gives at cB
      have HUP := hid (fun hx => HMD.out.up HS.out hp hx)
      have HDN := hid (fun hx => HMD.out.down HS.out hp hx)
      clear hp hH
      by_cases hx : p.id < x
      · rw [cmpI_lt hx] at cB
        have HX := hid hx
        clear hx
        go_wp2_with (go_at_call 47; ((with_reducible refine cB.mono ?_); rintro e w1 ⟨rfl, hb1⟩))
        exact ⟨⟨H + 1, j, by omega, hj, by go_num, rfl, hid (HUP.out HX.out), hid (HB.out.trans (hb1.mono HB.out.size))⟩, by simp [intOf]; omega⟩
      · obtain ⟨V, hV⟩ : ∃ V : Int, Hid (cmpI p.id x = V) := ⟨_, rfl⟩
        have hV0 : 0 ≤ V := by rw [← hV.out]; exact cmpI_ge hx
        rw [hV.out] at cB
        have HX := hid hx
        clear hx
        have d1 : decide (V < 0) = false := decide_eq_false (by omega)
        have d2 : ¬ V < 0 := by omega
        go_wp2_with (go_at_call 47; ((with_reducible refine cB.mono ?_); rintro e w1 ⟨rfl, hb1⟩))
        exact ⟨⟨i, H, hH1, by omega, rfl, rfl, hid (HDN.out HX.out), hid (HB.out.trans (hb1.mono HB.out.size))⟩, by simp [intOf]; omega⟩
    · obtain rfl : i = j := by omega
      obtain rfl : P = i := HP.out i HMD.out hj
      have j1 : ¬ ((P : Int) < (P : Int)) := by omega
      by_cases hl : P < F.length
      · have i3 : (P : Int) < F.length := by omega
        obtain ⟨b, off, p, rfl, hbl, hp, c0, c1⟩ := (HF.out.below HB.out).at (i := P) hl
        have cB := byID_any p.id p.f p.fL.length p.fCap x wr
        unfold Gives at cB
        obtain ⟨V, hV⟩ : ∃ V : Int, Hid (cmpI p.id x = V) := ⟨_, rfl⟩
        rw [hV.out] at cB
        clear hp
        go_wp2_with (go_at_call 47; ((with_reducible refine cB.mono ?_); rintro e w1 ⟨rfl, hb1⟩))
        go_ret2
        exact ⟨_, rfl, HB.out.trans (hb1.mono HB.out.size)⟩
      · have i3 : ¬ ((P : Int) < F.length) := by omega
        go_wp2
        go_ret2
        exact ⟨.inl rfl, HB.out⟩
end Go.Proofs.Ytiajpjkkopdmgaa.typing
