/- Contracts and lemmas that the claims of this seat share: Append, FieldRow, InsertF, DeleteF. Each says its own conditions. -/
import Derived.Test.YtaciegkblklokaaGreatCmB
import Derived.Test.YtaciegkblklokaaGreatCmA
import Derived.Deep.Upon
import Derived.Maps.AppendAt
import Derived.Laws.Cover3
import Derived.Test.YtaciegkblklokaaGreatCmC
set_option linter.unusedVariables false
namespace Go.Proofs.YtaciegkblklokaaGreat
open Go.RowKit
theorem ownsRow_heap {w w' : World} {base e size n : Nat} {v : Value} {xs : List Value} (h : w.ownsRow base e size v n xs) (hh : ∀ g, v.ownBlock = some g → w'.heap[g]? = w.heap[g]?) : w'.ownsRow base e size v n xs := by
 refine ⟨h.1, ?_⟩
 rcases h.2 with h0 | ⟨g, cap, cur, hv, h1, hg, h2, h3, h4, h5⟩
 ·exact .inl h0
 ·exact .inr ⟨g, cap, cur, hv, h1, (hh g (by rw [hv]; rfl)).trans hg, h2, h3, h4, h5⟩
theorem grown_refl (w : World) (row : Option Nat) : w.grownBy w row := ⟨rfl, rfl, rfl, Nat.le_refl _, fun _ _ _ => rfl⟩
theorem wpList_append_from {P : Program} {w : World} {ops : Array Oper} {rest : List Oper} {o : Oper} {a : Act} {Q : Exit → Act → World → Prop} (hgd : o.guard = none) (s x : Operand) (t : TypeId)
  (ho : o.op = .call { callee := .builtin .append, args := #[s, x], argTypes := #[t, t] })
  (base : Nat) (e : TypeId) (i : TypeInfo) (z : Value) (bytes : Nat) (ht : P.underlying t = some (.slice e)) (hi : P.info? e = some i) (hz : i.zero = some z)
  (hsize : i.size = 1) (hby : i.bytes = bytes) (hzs : z.cells.size = 1)
  (v : Value) (n : Nat) (xs : List Value) (hs : a.eval s = v) (hown : w.ownsRow base e 1 v n xs)
  (ap : Option Addr) (m c : Nat) (news : List Value) (hx : a.eval x = .slice ap m c) (hl : news.length = m)
  (hnews : m = 0 ∨ ∃ ad, ap = some ad ∧ ∀ j u, news[j]? = some u → w.cell? (ad.add j) = some u) (h1 : ∀ u ∈ news, u.oneCell' = true)
  (h63 : n + m ≤ maxLen) (hbytes : (n + m) * bytes ≤ 140737488355328) (hbase : base ≤ w.heap.size)
  (h : ∀ v' w', w'.ownsRow base e 1 v' (n + m) (xs ++ news) → w.grownBy w' v.ownBlock → wpList P ops Q rest (a.put o.dst v') w') : wpList P ops Q (o :: rest) a w := by
 by_cases hm : m = 0
 ·subst hm
  obtain rfl : news = [] := List.eq_nil_of_length_eq_zero hl
  obtain ⟨bp, cp, rfl, hcp⟩ := ownsRow_slice hown
  have hsrc : Src P i.size t (.slice ap 0 c) 0 [] w := by
   cases ap with
   | none => exact Src.ofNil w ht c
   | some ad => exact Src.ofSlice w ht ad 0 c [] (by simp) (by simp) (by simp)
  have hrun := run_append_nothing w t t o.type e i ht hi bp n cp hcp _ hsrc
  refine wpList_plain hgd fun K hK => ?_
  unfold Oper.wp
  simp [execOp, ho, resolve, invoke, builtin, hs, hx, hrun, Result.andThen]
  exact hK _ _ (h _ w (by simpa using hown) (grown_refl _ _))
 ·rcases hnews with h0 | ⟨ad, rfl, hc⟩
  ·exact absurd h0 hm
  ·exact wpList_append_own w hgd s x t ho base e i z 1 bytes ht hi hz hsize hby hzs (by decide) v n xs hs hown ad m c news hx (by omega) hc h1 h63 hbytes hbase (fun v' w' h2 h3 _ => h v' w' h2 h3)
end Go.Proofs.YtaciegkblklokaaGreat
namespace Go.Proofs.YtaciegkblklokaaGreat.schema
open Go.RowKit
def fdC (p : field.Fd) : List Value := (zF p)
def fdV : List field.Fd → List Value
 | [] => []
 | p :: L => fdC p ++ fdV L
theorem fdV_append : ∀ a b, fdV (a ++ b) = fdV a ++ fdV b
 | [], _ => rfl
 | p :: a, b => by rw [List.cons_append, fdV, fdV, fdV_append a b, List.append_assoc]
theorem fdV_length : ∀ L, (fdV L).length = L.length * 5
 | [] => rfl
 | p :: L => by rw [fdV]; simp only [fdC, List.length_append, List.length_cons, List.length_nil, fdV_length L]; omega
theorem fdV_one : ∀ L, ∀ u ∈ fdV L, u.oneCell' = true
 | [], u, h => by simp [fdV] at h
 | p :: L, u, h => by
  rw [fdV, List.mem_append] at h
  rcases h with h | h
  ·simp [fdC] at h; rcases h with rfl | rfl | rfl | rfl | rfl <;> rfl
  ·exact fdV_one L u h
theorem fdV_get : ∀ (L : List field.Fd) (j : Nat) (u : Value), (fdV L)[j]? = some u → ∃ i p c, L[i]? = some p ∧ j = i * 5 + c ∧ c < 5 ∧ (fdC p)[c]? = some u
 | [], j, u, h => by simp [fdV] at h
 | p :: L, j, u, h => by
  rw [fdV] at h
  by_cases hj : j < 5
  ·rw [List.getElem?_append_left (by simp [fdC]; omega)] at h
   exact ⟨0, p, j, rfl, by omega, hj, h⟩
  ·rw [List.getElem?_append_right (by simp [fdC]; omega)] at h
   obtain ⟨i, q, c, h1, h2, h3, h4⟩ := fdV_get L _ u h
   simp only [fdC, List.length_cons, List.length_nil] at h2
   exact ⟨i + 1, q, c, by simpa using h1, by omega, h3, h4⟩
theorem fdV_at : ∀ (L : List field.Fd) (i : Nat) (p : field.Fd) (c : Nat), L[i]? = some p → c < 5 → (fdV L)[i * 5 + c]? = (fdC p)[c]?
 | [], i, p, c, h, _ => by simp at h
 | q :: L, 0, p, c, h, hc => by
  simp at h; subst h
  rw [fdV, List.getElem?_append_left (by simp [fdC]; omega)]
  simp
 | q :: L, i + 1, p, c, h, hc => by
  rw [fdV, List.getElem?_append_right (by simp [fdC]; omega)]
  rw [← fdV_at L i p c (by simpa using h) hc]
  congr 1
  simp only [fdC, List.length_cons, List.length_nil]; omega
theorem fds_news {w : World} {a : Option Addr} {L : List field.Fd} (h : field.Fds w a L) : L.length = 0 ∨ ∃ ad, a = some ad ∧ ∀ j u, (fdV L)[j]? = some u → w.cell? (ad.add j) = some u := by
 rcases h with h | ⟨b, off, ha, hlt, hc⟩
 ·exact .inl (by rw [h]; rfl)
 ·refine .inr ⟨_, ha, fun j u hj => ?_⟩
  obtain ⟨i, p, c, h1, rfl, h3, h4⟩ := fdV_get L j u hj
  obtain ⟨c0, c1, c2, c3, c4⟩ := hc i p h1
  rw [Addr.add_lit]
  match c, h3, h4 with
  | 0, _, h4 => rw [show (some u) = some (.int .i64 p.id) from h4.symm.trans rfl]; exact c0
  | 1, _, h4 => rw [show (some u) = some (.int .i64 p.kind) from h4.symm.trans rfl, ← Nat.add_assoc]; exact c1
  | 2, _, h4 => rw [show (some u) = some (.int .i64 p.lo) from h4.symm.trans rfl, ← Nat.add_assoc]; exact c2
  | 3, _, h4 => rw [show (some u) = some (.int .i64 p.hi) from h4.symm.trans rfl, ← Nat.add_assoc]; exact c3
  | 4, _, h4 => rw [show (some u) = some (.int .i64 p.most) from h4.symm.trans rfl, ← Nat.add_assoc]; exact c4
theorem own_fds {w : World} {base n : Nat} {a : Option Addr} {cap : Nat} {L : List field.Fd} {e : TypeId} (h : w.ownsRow base e 5 (.slice a n cap) n (fdV L)) : field.Fds w a L ∧ n = L.length ∧ n ≤ cap := by
 obtain ⟨hl, hr⟩ := h
 have hn : n = L.length := by have := fdV_length L; rw [hl] at this; omega
 rcases hr with ⟨hv, h0⟩ | ⟨b, cap', cur, hv, _, hg, hcp, _, _, htake⟩
 ·cases hv
  exact ⟨.inl (List.eq_nil_of_length_eq_zero (by omega)), hn, by omega⟩
 ·cases hv
  refine ⟨.inr ⟨b, 0, rfl, (Array.getElem?_eq_some_iff.1 hg).1, fun i p hp => ?_⟩, hn, hcp⟩
  have hi : i < L.length := (List.getElem?_eq_some_iff.1 hp).1
  have key : ∀ c x, c < 5 → (fdC p)[c]? = some x → w.cell? ⟨b, 0 + (i * 5 + c), none⟩ = some x := by
   intro c x hc hx
   have h1 := fdV_at L i p c hp hc
   rw [hx, ← htake, List.getElem?_take, if_pos (by omega)] at h1
   rw [cell_of_row w b _ cur _ _ hg, Nat.zero_add, ← h1, Array.getElem?_toList]
  exact ⟨key 0 _ (by omega) rfl, key 1 _ (by omega) rfl, key 2 _ (by omega) rfl, key 3 _ (by omega) rfl, key 4 _ (by omega) rfl⟩
theorem fd_info : (Tryz.prog.info? 26).map (fun i => (i.zero, i.size, i.bytes)) = some (some (.agg #[.int .i64 0, .int .i64 0, .int .i64 0, .int .i64 0, .int .i64 0]), 5, 40) := by kernel_rfl
theorem fd_info_parts : ∃ i, Tryz.prog.info? 26 = some i ∧ i.zero = some (.agg #[.int .i64 0, .int .i64 0, .int .i64 0, .int .i64 0, .int .i64 0]) ∧ i.size = 5 ∧ i.bytes = 40 := by
 obtain ⟨i, hi, he⟩ := Option.map_eq_some_iff.1 fd_info
 simp only [Prod.mk.injEq] at he
 exact ⟨i, hi, he.1, he.2.1, he.2.2⟩
theorem wpList_append_fromN {P : Program} {w : World} {ops : Array Oper} {rest : List Oper} {o : Oper} {a : Act} {Q : Exit → Act → World → Prop} (hgd : o.guard = none) (s x : Operand) (t : TypeId)
  (ho : o.op = .call { callee := .builtin .append, args := #[s, x], argTypes := #[t, t] })
  (base : Nat) (e : TypeId) (i : TypeInfo) (z : Value) (size bytes : Nat) (ht : P.underlying t = some (.slice e)) (hi : P.info? e = some i) (hz : i.zero = some z)
  (hsize : i.size = size) (hby : i.bytes = bytes) (hzs : z.cells.size = size) (hsz : 0 < size)
  (v : Value) (n : Nat) (xs : List Value) (hs : a.eval s = v) (hown : w.ownsRow base e size v n xs)
  (ap : Option Addr) (m c : Nat) (news : List Value) (hx : a.eval x = .slice ap m c) (hl : news.length = m * size)
  (hnews : m = 0 ∨ ∃ ad, ap = some ad ∧ ∀ j u, news[j]? = some u → w.cell? (ad.add j) = some u) (h1 : ∀ u ∈ news, u.oneCell' = true)
  (h63 : n + m ≤ maxLen) (hbytes : (n + m) * bytes ≤ 140737488355328) (hbase : base ≤ w.heap.size)
  (h : ∀ v' w', w'.ownsRow base e size v' (n + m) (xs ++ news) → w.grownBy w' v.ownBlock → wpList P ops Q rest (a.put o.dst v') w') : wpList P ops Q (o :: rest) a w := by
 by_cases hm : m = 0
 ·subst hm
  obtain rfl : news = [] := List.eq_nil_of_length_eq_zero (by omega)
  obtain ⟨bp, cp, rfl, hcp⟩ := ownsRow_slice hown
  have hsrc : Src P i.size t (.slice ap 0 c) 0 [] w := by
   cases ap with
   | none => exact Src.ofNil w ht c
   | some ad => exact Src.ofSlice w ht ad 0 c [] (by simp) (by simp) (by simp)
  have hrun := run_append_nothing w t t o.type e i ht hi bp n cp hcp _ hsrc
  refine wpList_plain hgd fun K hK => ?_
  unfold Oper.wp
  simp [execOp, ho, resolve, invoke, builtin, hs, hx, hrun, Result.andThen]
  exact hK _ _ (h _ w (by simpa using hown) (grown_refl _ _))
 ·rcases hnews with h0 | ⟨ad, rfl, hc⟩
  ·exact absurd h0 hm
  ·exact wpList_append_own w hgd s x t ho base e i z size bytes ht hi hz hsize hby hzs hsz v n xs hs hown ad m c news hx hl hc h1 h63 hbytes hbase (fun v' w' h2 h3 _ => h v' w' h2 h3)
end Go.Proofs.YtaciegkblklokaaGreat.schema
namespace Go.Proofs.YtaciegkblklokaaGreat.schema
open Go.RowKit Go.Proofs.YtaciegkblklokaaGreat.rows
def MadeF (base : Nat) (ob : Option Nat) (n : Nat) (ys : List Value) (w : World) (e : Ending) (w' : World) : Prop := ∃ v', e = .returned v' ∧ w'.ownsRow base 26 5 v' n ys ∧ w.grownBy w' ob
set_option maxRecDepth 20000 in
theorem insertF_any (base n i g goff vc : Nat) (gC : List Value) (gt : TypeId) (v : Value) (xs news : List Value) (w : World) (hown : w.ownsRow base 26 5 v n xs) (hbase : base ≤ w.heap.size) (hi : i ≤ n)
  (hl : news.length = 5) (hG : Block w g gt gC) (hgo : goff + 5 ≤ gC.length) (hgv : v.ownBlock ≠ some g) (hnews : ∀ j u, news[j]? = some u → gC[goff + j]? = some u) (h1 : ∀ u ∈ news, u.oneCell' = true) (hx1 : ∀ u ∈ xs, u.oneCell' = true) (hn : n ≤ 1000) :
  Calls Tryz.prog 92 #[v, .int .i64 i, .slice (some ⟨g, goff, none⟩) 1 vc] w (MadeF base v.ownBlock (n + 1) (xs.take (i * 5) ++ (news ++ xs.drop (i * 5))) w) := by
 obtain ⟨i0, hi0, hz0, hz1, hz2⟩ := fd_info_parts
 have hxl := hown.1
 have hcell : ∀ j u, news[j]? = some u → w.cell? ((⟨g, goff, none⟩ : Addr).add j) = some u := fun j u hj => by rw [Addr.add_lit, hG.cell]; exact hnews j u hj
 have b1 : (i : Int) ≤ n := by omega
 have b2 : (n : Int) ≤ 1000 := by omega
 by_cases hin : i = n
 ·subst hin
  have e1 : xs.take (i * 5) = xs := List.take_of_length_le (by omega)
  have e2 : xs.drop (i * 5) = [] := List.drop_of_length_le (by omega)
  rw [e1, e2, List.append_nil]
  obtain ⟨bp, cp, rfl, hcp⟩ := ownsRow_slice hown
  have HO := hid hown
  have HC := hid hcell
  have HN2 : Hid (i + 1 ≤ maxLen) := by show _ ≤ _; unfold maxLen; omega
  have HN3 : Hid ((i + 1) * 40 ≤ 140737488355328) := by show _ ≤ _; omega
  have HL := hid hl
  have H1 := hid h1
  have HB := hid hbase
  obtain ⟨OB, hOB⟩ : ∃ OB, (Value.slice bp i cp).ownBlock = OB := ⟨_, rfl⟩
  have HOB := hid hOB
  rw [hOB]
  clear hOB hown hcell hxl hG hgo hnews h1 hx1 e1 e2 hl hbase hgv
  by_cases hci : i = cp
  ·subst hci
   go_enter Tryz.func92, Tryz.ntmps92
   go_wp2_with (at_builtin; refine wpList_append_fromN rfl _ _ 30 rfl base 26 i0 _ 5 40 Tryz.underlying30 hi0 hz0 hz1 hz2 (by simp [Value.cells]) (by omega) _ i xs rfl HO.out (some ⟨g, goff, none⟩) 1 vc news rfl (by rw [HL.out]) (.inr ⟨_, rfl, HC.out⟩) H1.out HN2.out HN3.out HB.out ?_)
   intro v' w1 ho hg
   have HO2 := hid ho
   have HG2 := hid hg
   rw [HOB.out] at HG2
   clear ho hg
   go_wp2
   go_ret
   exact ⟨_, rfl, HO2.out, HG2.out⟩
  ·go_enter Tryz.func92, Tryz.ntmps92
   go_wp2_with (at_builtin; refine wpList_append_fromN rfl _ _ 30 rfl base 26 i0 _ 5 40 Tryz.underlying30 hi0 hz0 hz1 hz2 (by simp [Value.cells]) (by omega) _ i xs rfl HO.out (some ⟨g, goff, none⟩) 1 vc news rfl (by rw [HL.out]) (.inr ⟨_, rfl, HC.out⟩) H1.out HN2.out HN3.out HB.out ?_)
   intro v' w1 ho hg
   have HO2 := hid ho
   have HG2 := hid hg
   rw [HOB.out] at HG2
   clear ho hg
   go_wp2
   go_ret
   exact ⟨_, rfl, HO2.out, HG2.out⟩
 ·rcases hown.2 with ⟨rfl, h0⟩ | ⟨b, cap, cur, rfl, hbb, hB, hnc, hcm, hcs, htake⟩
  ·omega
  ·obtain ⟨C, rfl⟩ : ∃ C : List Value, cur = C.toArray := ⟨cur.toList, by simp⟩
   simp only [List.size_toArray] at hcs
   have htk : C.take (n * 5) = xs := by simpa using htake
   have hbg : g ≠ b := by intro h; subst h; exact hgv rfl
   have hX1 : C.take (i * 5) = xs.take (i * 5) := by rw [← htk, List.take_take, Nat.min_eq_left (Nat.mul_le_mul_right _ hi)]
   have hX2l : (xs.drop (i * 5)).length = (n - i) * 5 := by rw [List.length_drop, hxl, Nat.sub_mul]
   have hX2c : ∀ j u, (xs.drop (i * 5))[j]? = some u → C[i * 5 + j]? = some u := fun j u hj => by
    rw [List.getElem?_drop, ← htk, List.getElem?_take] at hj
    split at hj
    ·exact hj
    ·cases hj
   have hX21 : ∀ u ∈ xs.drop (i * 5), u.oneCell' = true := fun u hu => hx1 u (List.mem_of_mem_drop hu)
   obtain ⟨X2, hX2⟩ : ∃ X2, xs.drop (i * 5) = X2 := ⟨_, rfl⟩
   rw [hX2] at hX2l hX2c hX21 ⊢
   rw [← hX1]
   have hlt : i < n := by omega
   have c1 : (i : Int) < n := by omega
   have c2 : ¬ ((i : Int) = (n : Int)) := by omega
   have c3 : ¬ (cap = i) := by omega
   have hcm' : cap ≤ 9223372036854775807 := by unfold maxLen at hcm; omega
   have w1 : IntKind.i64.wrap ((i : Int) + 1) = (i : Int) + 1 := by rw [IntKind.wrap_i64]; omega
   have w2 : IntKind.i64.wrap ((n : Int) + 1) = (n : Int) + 1 := by rw [IntKind.wrap_i64]; omega
   have t1 : ((i : Int) + 1).toNat = i + 1 := by omega
   have t2 : ((n : Int) + 1).toNat = n + 1 := by omega
   have p1 : (0 : Int) ≤ (i : Int) + 1 := by omega
   have p2 : (i : Int) + 1 ≤ (n : Int) + 1 := by omega
   have hBB : Block w b 26 C := hB
   have hOB : (Value.slice (some ⟨b, 0, none⟩) n cap).ownBlock = some b := rfl
   rw [hOB]
   clear hOB
   by_cases hroom : n + 1 ≤ cap
   ·have c4 : ¬ ((cap : Int) < (n : Int) + 1) := by omega
    have c5 : ¬ (cap = i + 1) := by omega
    have c6 : (n : Int) + 1 ≤ (cap : Int) := by omega
    have hov : ∀ lb cb, (callFunc 105 #[.slice (some ⟨g, goff, none⟩) 1 vc, .slice (some ⟨b, (i + 1) * 5, none⟩) lb cb]).run Tryz.prog w = .ok (.value (.bool false)) w := fun lb cb => by
     rw [run_callFunc_extern Tryz.func105 (by kernel_rfl) (by kernel_rfl) (by kernel_rfl) (e := Extern.SlicesOverlaps.overlaps #[30, 30] #[4]) (by kernel_rfl),
      run_overlapsN w 30 4 26 Tryz.underlying30 i0 hi0 ⟨g, goff, none⟩ ⟨b, (i + 1) * 5, none⟩ 1 vc lb cb hbg gt 26 gC C hG hBB (by intro h; subst h; simp at hcs; omega)]
     rfl
    have HB := hid hBB
    have HG := hid hG
    have HCS := hid hcs
    have HL := hid hl
    have HX2l := hid hX2l
    have HX2c := hid hX2c
    have HX21 := hid hX21
    have H1 := hid h1
    have HNW := hid hnews
    have HGO := hid hgo
    have HCM := hid hcm
    have HBB := hid hbb
    clear hown hcell hxl hG hgo hnews h1 hx1 hl hbase hgv htake htk hX1 hX2 hX2l hX2c hX21 hB hBB hcs hcm hbb
    go_enter Tryz.func92, Tryz.ntmps92
    go_wp2_with (simp only [hov])
    refine tail.region 8 (by kernel_rfl) (by kernel_rfl) ?_
    simp only [List.take_succ_cons, List.take_zero, List.drop_succ_cons, List.drop_zero]
    repeat (go_big_quiet_step (fail))
    refine wpQuiet_nil ?_
    rintro _ ⟨nq, rfl⟩
    refine wpList_copyN rfl _ _ 30 30 rfl 26 i0 5 Tryz.underlying30 hi0 hz1 _ _ _ _ _ _ rfl rfl b ((i + 1) * 5) C 26 (HB.out.drewN nq) (n - i) (by simp only [Nat.min_def]; split <;> omega) X2 HX2l.out (fun _ => ⟨rfl, ⟨b, i * 5, none⟩, rfl, fun j u hj => by rw [Addr.add_lit, (HB.out.drewN nq).cell]; exact HX2c.out j u hj⟩) (by rw [HX2l.out, HCS.out, ← Nat.add_mul]; exact Nat.mul_le_mul_right _ (by omega)) HX21.out ?_
    intro w3 h3
    have hG3 : Block w3 g gt gC := HG.out.but h3.out.2.1 HG.out.lt hbg
    have HG3 := hid hG3
    have hs3 := h3.out.2.2
    clear hG3
    go_wp2_with (refine wpList_copyN rfl _ _ 30 30 rfl 26 i0 5 Tryz.underlying30 hi0 hz1 _ _ _ _ _ _ rfl rfl b (i * 5) (splice C ((i + 1) * 5) X2) 26 h3.out.1 1 (by simp only [Nat.min_def]; split <;> omega) news (by rw [HL.out]) (fun _ => ⟨rfl, ⟨g, goff, none⟩, rfl, fun j u hj => by rw [Addr.add_lit, HG3.out.cell]; exact HNW.out j u hj⟩) (by rw [length_splice _ _ _ (by rw [HX2l.out, HCS.out, ← Nat.add_mul]; exact Nat.mul_le_mul_right _ (by omega)), HL.out, HCS.out]; exact (by omega : i * 5 + 5 ≤ cap * 5)) H1.out ?_)
    intro w4 h4
    go_wp2
    go_ret
    have hl2 := two C (i * 5) news X2 (by rw [HL.out, HX2l.out, HCS.out]; omega)
    rw [HL.out, HX2l.out, show i * 5 + 5 = (i + 1) * 5 by omega, show (i + 1) * 5 + (n - i) * 5 = (n + 1) * 5 by omega, List.append_assoc] at hl2
    refine ⟨_, rfl, own_of h4.out.1 HBB.out hroom HCM.out ?_ hl2, ?_⟩
    ·rw [length_splice, length_splice, HCS.out]
     ·rw [HX2l.out, HCS.out]; omega
     ·rw [length_splice, HL.out, HCS.out]
      ·omega
      ·rw [HX2l.out, HCS.out]; omega
    ·have e3 := h3.out.2.1
     have e4 := h4.out.2.1
     exact grown_of_but (v := .slice (some ⟨b, 0, none⟩) n cap) (But.trans (But.drewN e3 0) e4) rfl
   ·obtain rfl : n = cap := by omega
    have c4 : (n : Int) < (n : Int) + 1 := by omega
    have k1 : IntKind.i64.wrap ((n : Int) + 1 - (i : Int)) = (n : Int) + 1 - (i : Int) := by rw [IntKind.wrap_i64]; omega
    have HB := hid hBB
    have HG := hid hG
    have HCS := hid hcs
    have HL := hid hl
    have HX2l := hid hX2l
    have HX2c := hid hX2c
    have HX21 := hid hX21
    have H1 := hid h1
    have HNW := hid hnews
    have HGO := hid hgo
    have HCM := hid hcm
    have HBB := hid hbb
    have HBW := hid hbase
    have hsz0 : 0 < 5 := by omega
    have HN3 : Hid ((i + (n + 1 - i)) * 40 ≤ 140737488355328) := by show _ ≤ _; omega
    have HN2 : Hid (i + (n + 1 - i) ≤ maxLen) := by show _ ≤ _; unfold maxLen; omega
    have HF0 : Hid (i * 5 ≤ C.length) := by show _ ≤ _; rw [hcs]; omega
    clear hown hcell hxl hG hgo hnews h1 hx1 hl hbase hgv htake htk hX1 hX2 hX2l hX2c hX21 hB hBB hcs hcm hbb
    go_enter Tryz.func92, Tryz.ntmps92
    go_wp2_with (at_builtin; refine wpList_append_zerosN rfl _ _ 30 3 rfl 26 i0 _ 5 40 Tryz.underlying30 Tryz.underlying3 hi0 hz0 hz1 hz2 (by simp [Value.cells]) hsz0 b i n rfl (n + 1 - i) _ rfl (by omega) (by omega) C HB.out HF0.out (by omega) (by omega) HN3.out HN2.out ?_)
    intro G R w3 h3
    have hs3 : w.heap.size < w3.heap.size := h3.out.2.2.2.2.2
    have g1 : ¬ (G = i) := by have := h3.out.2.2.1; omega
    have g2 : ¬ (G = i + 1) := by have := h3.out.2.2.1; omega
    have g3 : i + (n + 1 - i) = n + 1 := by omega
    have HG1 := hid h3.out.2.2.1
    have HG2 := hid h3.out.2.2.2.1
    have HRl := hid h3.out.2.1
    have HLT := hid HB.out.lt
    have HLG := hid HG.out.lt
    have HB3 : Hid (Block w3 b 26 C) := hid (HB.out.later h3.out.2.2.2.2.1)
    have HG3 : Hid (Block w3 g gt gC) := hid (HG.out.later h3.out.2.2.2.2.1)
    have HCL : Hid ((C.take (i * 5) ++ R).length = G * 5) := by
     show _ = _
     rw [List.length_append, List.length_take, Nat.min_eq_left HF0.out, HRl.out, ← Nat.add_mul]
     congr 1
     have := HG1.out
     omega
    rw [g3]
    go_wp2_with (refine wpList_copyN rfl _ _ 30 30 rfl 26 i0 5 Tryz.underlying30 hi0 hz1 _ _ _ _ _ _ rfl rfl w.heap.size (i * 5) (C.take (i * 5) ++ R) 26 h3.out.1 1 (by simp only [Nat.min_def]; split <;> omega) news (by rw [HL.out]) (fun _ => ⟨rfl, ⟨g, goff, none⟩, rfl, fun j u hj => by rw [Addr.add_lit, HG3.out.cell]; exact HNW.out j u hj⟩) (by rw [HCL.out, HL.out]; have := HG1.out; omega) H1.out ?_)
    intro w4 h4
    have HB4 : Hid (Block w4 b 26 C) := hid (HB3.out.but h4.out.2.1 HB3.out.lt (by have := HLT.out; omega))
    have hs4 := h4.out.2.2
    have HL4 : Hid ((splice (C.take (i * 5) ++ R) (i * 5) news).length = G * 5) := hid (by rw [length_splice _ _ _ (by rw [HCL.out, HL.out]; have := HG1.out; omega), HCL.out])
    go_wp2
    refine tail.region 8 (by kernel_rfl) (by kernel_rfl) ?_
    simp only [List.take_succ_cons, List.take_zero, List.drop_succ_cons, List.drop_zero]
    repeat (go_big_quiet_step (fail))
    refine wpQuiet_nil ?_
    rintro _ ⟨nq, rfl⟩
    refine wpList_copyN rfl _ _ 30 30 rfl 26 i0 5 Tryz.underlying30 hi0 hz1 _ _ _ _ _ _ rfl rfl w.heap.size ((i + 1) * 5) (splice (C.take (i * 5) ++ R) (i * 5) news) 26 (h4.out.1.drewN nq) (n - i) (by simp only [Nat.min_def]; split <;> omega) X2 HX2l.out (fun _ => ⟨rfl, ⟨b, i * 5, none⟩, rfl, fun j u hj => by rw [Addr.add_lit, (HB4.out.drewN nq).cell]; exact HX2c.out j u hj⟩) (by rw [HL4.out, HX2l.out]; have := HG1.out; omega) HX21.out ?_
    intro w5 h5
    go_wp2
    go_ret
    have hl2 := two' (C.take (i * 5) ++ R) (i * 5) news X2 (by rw [HL.out, HX2l.out, HCL.out]; have := HG1.out; omega)
    rw [HL.out, HX2l.out, show i * 5 + 5 = (i + 1) * 5 by omega, show (i + 1) * 5 + (n - i) * 5 = (n + 1) * 5 by omega, List.append_assoc, List.take_left' (by rw [List.length_take, Nat.min_eq_left HF0.out])] at hl2
    refine ⟨_, rfl, own_of h5.out.1 HBW.out (by have := HG1.out; omega) HG2.out ?_ hl2, ?_⟩
    ·rw [length_splice, HL4.out]
     rw [HX2l.out, HL4.out]; have := HG1.out; omega
    ·exact grown_of_below (h3.out.2.2.2.2.1.trans ((But.trans (But.drewN h4.out.2.1 0) (by have := h5.out.2.1; exact this.mono (by simp [hs4]))).below (by omega) (Nat.le_refl _)))
end Go.Proofs.YtaciegkblklokaaGreat.schema
namespace Go.Proofs.YtaciegkblklokaaGreat.schema
open Go.RowKit Go.Proofs.YtaciegkblklokaaGreat.rows
def LessF (base : Nat) (ob : Option Nat) (n : Nat) (ys : List Value) (w : World) (e : Ending) (w' : World) : Prop := ∃ v', e = .returned v' ∧ w'.ownsRow base 26 5 v' n ys ∧ w.grownBy w' ob ∧ v'.ownBlock = ob
set_option maxRecDepth 20000 in
theorem deleteF_any (base N i : Nat) (v : Value) (xs : List Value) (w : World) (hown : w.ownsRow base 26 5 v (N + 1) xs) (hi : i ≤ N) (hx1 : ∀ u ∈ xs, u.oneCell' = true) (hn : N ≤ 1000) :
  Calls Tryz.prog 93 #[v, .int .i64 i, .int .i64 ((i : Int) + 1)] w (LessF base v.ownBlock N (xs.take (i * 5) ++ xs.drop ((i + 1) * 5)) w) := by
 obtain ⟨i0, hi0, hz0, hz1, hz2⟩ := fd_info_parts
 have hxl := hown.1
 rcases hown.2 with ⟨_, h0⟩ | ⟨b, cap, cur, rfl, hbb, hB, hnc, hcm, hcs, htake⟩
 ·omega
 ·obtain ⟨C, rfl⟩ : ∃ C : List Value, cur = C.toArray := ⟨cur.toList, by simp⟩
  simp only [List.size_toArray] at hcs
  have htk : C.take ((N + 1) * 5) = xs := by simpa using htake
  have hX1 : C.take (i * 5) = xs.take (i * 5) := by rw [← htk, List.take_take, Nat.min_eq_left (Nat.mul_le_mul_right _ (by omega))]
  have hX2l : (xs.drop ((i + 1) * 5)).length = (N - i) * 5 := by rw [List.length_drop, hxl, ← Nat.sub_mul]; congr 1; omega
  have hX2c : ∀ j u, (xs.drop ((i + 1) * 5))[j]? = some u → C[(i + 1) * 5 + j]? = some u := fun j u hj => by
   rw [List.getElem?_drop, ← htk, List.getElem?_take] at hj
   split at hj
   ·exact hj
   ·cases hj
  have hX21 : ∀ u ∈ xs.drop ((i + 1) * 5), u.oneCell' = true := fun u hu => hx1 u (List.mem_of_mem_drop hu)
  obtain ⟨X2, hX2⟩ : ∃ X2, xs.drop ((i + 1) * 5) = X2 := ⟨_, rfl⟩
  rw [hX2] at hX2l hX2c hX21 ⊢
  rw [← hX1]
  have hOB : (Value.slice (some ⟨b, 0, none⟩) (N + 1) cap).ownBlock = some b := rfl
  rw [hOB]
  clear hOB
  have c1 : (i : Int) ≤ N := by omega
  have c2 : ¬ ((i : Int) = (i : Int) + 1) := by omega
  have c3 : ¬ (cap = N) := by omega
  have c4 : ¬ (cap = i) := by omega
  have hcm' : cap ≤ 9223372036854775807 := by unfold maxLen at hcm; omega
  have b2 : (N : Int) ≤ 1000 := by omega
  have t1 : ((i : Int) + 1).toNat = i + 1 := by omega
  have t2 : ((N : Int) + 1).toNat = N + 1 := by omega
  have p1 : (0 : Int) ≤ (i : Int) + 1 := by omega
  have hBB : Block w b 26 C := hB
  have hz1c : ∀ u ∈ (Value.cells (.agg #[.int .i64 0, .int .i64 0, .int .i64 0, .int .i64 0, .int .i64 0])).toList, u.oneCell' = true := by simp [Value.cells]; try decide
  have h0z : 0 < 5 := by omega
  have g3 : i + (N - i) = N := by omega
  have HB := hid hBB
  have HCS := hid hcs
  have HX2l := hid hX2l
  have HX2c := hid hX2c
  have HX21 := hid hX21
  have HCM := hid hcm
  have HBB := hid hbb
  have HNC : Hid ((N + 1) * 5 ≤ cap * 5) := Nat.mul_le_mul_right _ hnc
  clear hown hxl hx1 htake htk hX1 hX2 hX2l hX2c hX21 hB hBB hcs hcm hbb
  by_cases c5 : cap = i + 1
  ·obtain rfl : i = N := by omega
   subst c5
   go_enter Tryz.func93, Tryz.ntmps93
   go_wp2
   refine tail.region 6 (by kernel_rfl) (by kernel_rfl) ?_
   simp only [List.take_succ_cons, List.take_zero, List.drop_succ_cons, List.drop_zero]
   repeat (go_big_quiet_step (fail))
   refine wpQuiet_nil ?_
   rintro _ ⟨nq, rfl⟩
   refine wpList_append_inN rfl _ _ 30 rfl 26 i0 5 Tryz.underlying30 hi0 hz1 b _ _ rfl C (HB.out.drewN nq) _ 0 _ rfl X2 (by have := HX2l.out; simpa using this) (fun h => absurd h (by omega)) HX21.out (by omega) (by rw [HX2l.out, HCS.out]; have := HNC.out; omega) ?_
   intro w3 h3
   have HL3 : Hid ((splice C (i * 5) X2).length = (i + 1) * 5) := hid (by rw [length_splice _ _ _ (by rw [HX2l.out, HCS.out]; have := HNC.out; omega), HCS.out])
   go_wp2_with (refine wpList_clearN rfl _ 30 rfl 26 i0 _ 5 Tryz.underlying30 hi0 hz0 (by simp [Value.cells]) hz1c h0z _ 1 _ rfl b (i * 5) (splice C (i * 5) X2) 26 h3.out.1 (fun _ => by simp) (by rw [HL3.out]; have := HNC.out; omega) ?_)
   intro Z w4 h4
   go_wp2
   go_ret
   have hl2 : (splice (splice C (i * 5) X2) (i * 5) Z).take (i * 5) = C.take (i * 5) ++ X2 := by
    rw [splice_head _ _ _ _ (Nat.le_refl _) (by rw [HL3.out]; have := HNC.out; omega)]
    have := splice_take C (i * 5) X2 (by rw [HCS.out]; have := HNC.out; omega)
    rw [HX2l.out, ← Nat.add_mul, g3] at this
    exact this
   refine ⟨_, rfl, own_of h4.out.2.1 HBB.out (by omega) HCM.out (by rw [length_splice _ _ _ (by rw [HL3.out, h4.out.1]; have := HNC.out; omega), HL3.out]) hl2, ?_, rfl⟩
   exact grown_of_but (v := .slice (some ⟨b, 0, none⟩) i (i + 1)) (But.trans (But.drewN h3.out.2.1 0) (h4.out.2.2.1.mono (by have := h3.out.2.2; simp at this; omega))) rfl
  ·go_enter Tryz.func93, Tryz.ntmps93
   go_wp2
   refine tail.region 6 (by kernel_rfl) (by kernel_rfl) ?_
   simp only [List.take_succ_cons, List.take_zero, List.drop_succ_cons, List.drop_zero]
   repeat (go_big_quiet_step (fail))
   refine wpQuiet_nil ?_
   rintro _ ⟨nq, rfl⟩
   refine wpList_append_inN rfl _ _ 30 rfl 26 i0 5 Tryz.underlying30 hi0 hz1 b _ _ rfl C (HB.out.drewN nq) _ (N - i) _ (by rfl) X2 HX2l.out (fun h => ⟨⟨b, (i + 1) * 5, none⟩, rfl, fun j u hj => by rw [Addr.add_lit, (HB.out.drewN nq).cell]; exact HX2c.out j u hj⟩) HX21.out (by omega) (by rw [HX2l.out, HCS.out]; have := HNC.out; omega) ?_
   intro w3 h3
   rw [g3]
   have HL3 : Hid ((splice C (i * 5) X2).length = cap * 5) := hid (by rw [length_splice _ _ _ (by rw [HX2l.out, HCS.out]; have := HNC.out; omega), HCS.out])
   go_wp2_with (refine wpList_clearN rfl _ 30 rfl 26 i0 _ 5 Tryz.underlying30 hi0 hz0 (by simp [Value.cells]) hz1c h0z _ 1 _ rfl b (N * 5) (splice C (i * 5) X2) 26 h3.out.1 (fun _ => by simp) (by rw [HL3.out]; have := HNC.out; omega) ?_)
   intro Z w4 h4
   go_wp2
   go_ret
   have hl2 : (splice (splice C (i * 5) X2) (N * 5) Z).take (N * 5) = C.take (i * 5) ++ X2 := by
    rw [splice_head _ _ _ _ (Nat.le_refl _) (by rw [HL3.out]; have := HNC.out; omega)]
    have := splice_take C (i * 5) X2 (by rw [HCS.out]; have := HNC.out; omega)
    rw [HX2l.out, ← Nat.add_mul, g3] at this
    exact this
   refine ⟨_, rfl, own_of h4.out.2.1 HBB.out (by omega) HCM.out (by rw [length_splice _ _ _ (by rw [HL3.out, h4.out.1]; have := HNC.out; omega), HL3.out]) hl2, ?_, rfl⟩
   exact grown_of_but (v := .slice (some ⟨b, 0, none⟩) N cap) (But.trans (But.drewN h3.out.2.1 0) (h4.out.2.2.1.mono (by have := h3.out.2.2; simp at this; omega))) rfl
end Go.Proofs.YtaciegkblklokaaGreat.schema
