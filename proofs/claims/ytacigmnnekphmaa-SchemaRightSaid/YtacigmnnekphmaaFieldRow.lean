/- Rows of fields that a call has made: appended to, cloned. No condition but rows of at most 2^47 bytes. -/
import Derived.Test.YtacigmnnekphmaaAppend
import Derived.Test.YtacigmnnekphmaaFieldRows
import Derived.Maps.AppendAt
import Derived.Laws.Cover3
namespace Go.Proofs.Ytacigmnnekphmaa.schema
open Go.RowKit
set_option linter.unusedVariables false

/-- the cells of fields -/
def fdC (p : field.Fd) : List Value := [.int .i64 p.id, .int .i64 p.kind, .int .i64 p.lo, .int .i64 p.hi, .int .i64 p.most]
def fdV : List field.Fd → List Value
  | [] => []
  | p :: L => fdC p ++ fdV L
theorem fdV_append : ∀ a b, fdV (a ++ b) = fdV a ++ fdV b
  | [], _ => rfl
  | p :: a, b => by rw [List.cons_append, fdV, fdV, fdV_append a b, List.append_assoc]
theorem fdV_length : ∀ L, (fdV L).length = L.length * 5
  | [] => rfl
  | p :: L => by rw [fdV]; simp only [fdC, List.length_append, List.length_cons, List.length_nil, fdV_length L]; omega
theorem fdV_one : ∀ L, ∀ u ∈ fdV L, u.oneCell' = true
  | [], u, h => by simp [fdV] at h
  | p :: L, u, h => by
    rw [fdV, List.mem_append] at h
    rcases h with h | h
    · simp [fdC] at h; rcases h with rfl | rfl | rfl | rfl | rfl <;> rfl
    · exact fdV_one L u h
theorem fdV_get : ∀ (L : List field.Fd) (j : Nat) (u : Value), (fdV L)[j]? = some u → ∃ i p c, L[i]? = some p ∧ j = i * 5 + c ∧ c < 5 ∧ (fdC p)[c]? = some u
  | [], j, u, h => by simp [fdV] at h
  | p :: L, j, u, h => by
    rw [fdV] at h
    by_cases hj : j < 5
    · rw [List.getElem?_append_left (by simp [fdC]; omega)] at h
      exact ⟨0, p, j, rfl, by omega, hj, h⟩
    · rw [List.getElem?_append_right (by simp [fdC]; omega)] at h
      obtain ⟨i, q, c, h1, h2, h3, h4⟩ := fdV_get L _ u h
      simp only [fdC, List.length_cons, List.length_nil] at h2
      exact ⟨i + 1, q, c, by simpa using h1, by omega, h3, h4⟩
theorem fdV_at : ∀ (L : List field.Fd) (i : Nat) (p : field.Fd) (c : Nat), L[i]? = some p → c < 5 → (fdV L)[i * 5 + c]? = (fdC p)[c]?
  | [], i, p, c, h, _ => by simp at h
  | q :: L, 0, p, c, h, hc => by
    simp at h; subst h
    rw [fdV, List.getElem?_append_left (by simp [fdC]; omega)]
    simp
  | q :: L, i + 1, p, c, h, hc => by
    rw [fdV, List.getElem?_append_right (by simp [fdC]; omega)]
    rw [← fdV_at L i p c (by simpa using h) hc]
    congr 1
    simp only [fdC, List.length_cons, List.length_nil]; omega
/-- what lies in fields that came in, as the cells of a row -/
theorem fds_news {w : World} {a : Option Addr} {L : List field.Fd} (h : field.Fds w a L) : L.length = 0 ∨ ∃ ad, a = some ad ∧ ∀ j u, (fdV L)[j]? = some u → w.cell? (ad.add j) = some u := by
  rcases h with h | ⟨b, off, ha, hlt, hc⟩
  · exact .inl (by rw [h]; rfl)
  · refine .inr ⟨_, ha, fun j u hj => ?_⟩
    obtain ⟨i, p, c, h1, rfl, h3, h4⟩ := fdV_get L j u hj
    obtain ⟨c0, c1, c2, c3, c4⟩ := hc i p h1
    rw [Addr.add_lit]
    match c, h3, h4 with
    | 0, _, h4 => rw [show (some u) = some (.int .i64 p.id) from h4.symm.trans rfl]; exact c0
    | 1, _, h4 => rw [show (some u) = some (.int .i64 p.kind) from h4.symm.trans rfl, ← Nat.add_assoc]; exact c1
    | 2, _, h4 => rw [show (some u) = some (.int .i64 p.lo) from h4.symm.trans rfl, ← Nat.add_assoc]; exact c2
    | 3, _, h4 => rw [show (some u) = some (.int .i64 p.hi) from h4.symm.trans rfl, ← Nat.add_assoc]; exact c3
    | 4, _, h4 => rw [show (some u) = some (.int .i64 p.most) from h4.symm.trans rfl, ← Nat.add_assoc]; exact c4
/-- a row of the call's own reads as fields -/
theorem own_fds {w : World} {base n : Nat} {a : Option Addr} {cap : Nat} {L : List field.Fd} {e : TypeId} (h : w.ownsRow base e 5 (.slice a n cap) n (fdV L)) : field.Fds w a L ∧ n = L.length ∧ n ≤ cap := by
  obtain ⟨hl, hr⟩ := h
  have hn : n = L.length := by have := fdV_length L; rw [hl] at this; omega
  rcases hr with ⟨hv, h0⟩ | ⟨b, cap', cur, hv, _, hg, hcp, _, _, htake⟩
  · cases hv
    exact ⟨.inl (List.eq_nil_of_length_eq_zero (by omega)), hn, by omega⟩
  · cases hv
    refine ⟨.inr ⟨b, 0, rfl, (Array.getElem?_eq_some_iff.1 hg).1, fun i p hp => ?_⟩, hn, hcp⟩
    have hi : i < L.length := (List.getElem?_eq_some_iff.1 hp).1
    have key : ∀ c x, c < 5 → (fdC p)[c]? = some x → w.cell? ⟨b, 0 + (i * 5 + c), none⟩ = some x := by
      intro c x hc hx
      have h1 := fdV_at L i p c hp hc
      rw [hx, ← htake, List.getElem?_take, if_pos (by omega)] at h1
      rw [cell_of_row w b _ cur _ _ hg, Nat.zero_add, ← h1, Array.getElem?_toList]
    exact ⟨key 0 _ (by omega) rfl, key 1 _ (by omega) rfl, key 2 _ (by omega) rfl, key 3 _ (by omega) rfl, key 4 _ (by omega) rfl⟩
theorem fd_info : (Try.prog.info? 50).map (fun i => (i.zero, i.size, i.bytes)) = some (some (.agg #[.int .i64 0, .int .i64 0, .int .i64 0, .int .i64 0, .int .i64 0]), 5, 40) := by kernel_rfl
theorem fd_info_parts : ∃ i, Try.prog.info? 50 = some i ∧ i.zero = some (.agg #[.int .i64 0, .int .i64 0, .int .i64 0, .int .i64 0, .int .i64 0]) ∧ i.size = 5 ∧ i.bytes = 40 := by
  obtain ⟨i, hi, he⟩ := Option.map_eq_some_iff.1 fd_info
  simp only [Prod.mk.injEq] at he
  exact ⟨i, hi, he.1, he.2.1, he.2.2⟩
theorem wpList_append_fromN {P : Program} {w : World} {ops : Array Oper} {rest : List Oper} {o : Oper} {a : Act} {Q : Exit → Act → World → Prop} (hgd : o.guard = none) (s x : Operand) (t : TypeId)
    (ho : o.op = .call { callee := .builtin .append, args := #[s, x], argTypes := #[t, t] })
    (base : Nat) (e : TypeId) (i : TypeInfo) (z : Value) (size bytes : Nat) (ht : P.underlying t = some (.slice e)) (hi : P.info? e = some i) (hz : i.zero = some z)
    (hsize : i.size = size) (hby : i.bytes = bytes) (hzs : z.cells.size = size) (hsz : 0 < size)
    (v : Value) (n : Nat) (xs : List Value) (hs : a.eval s = v) (hown : w.ownsRow base e size v n xs)
    (ap : Option Addr) (m c : Nat) (news : List Value) (hx : a.eval x = .slice ap m c) (hl : news.length = m * size)
    (hnews : m = 0 ∨ ∃ ad, ap = some ad ∧ ∀ j u, news[j]? = some u → w.cell? (ad.add j) = some u) (h1 : ∀ u ∈ news, u.oneCell' = true)
    (h63 : n + m ≤ maxLen) (hbytes : (n + m) * bytes ≤ 140737488355328) (hbase : base ≤ w.heap.size)
    (h : ∀ v' w', w'.ownsRow base e size v' (n + m) (xs ++ news) → w.grownBy w' v.ownBlock → wpList P ops Q rest (a.put o.dst v') w') : wpList P ops Q (o :: rest) a w := by
  by_cases hm : m = 0
  · subst hm
    obtain rfl : news = [] := List.eq_nil_of_length_eq_zero (by omega)
    obtain ⟨bp, cp, rfl, hcp⟩ := ownsRow_slice hown
    have hsrc : Src P i.size t (.slice ap 0 c) 0 [] w := by
      cases ap with
      | none => exact Src.ofNil w ht c
      | some ad => exact Src.ofSlice w ht ad 0 c [] (by simp) (by simp) (by simp)
    have hrun := run_append_nothing w t t o.type e i ht hi bp n cp hcp _ hsrc
    refine wpList_plain hgd fun K hK => ?_
    unfold Oper.wp
    simp [execOp, ho, resolve, invoke, builtin, hs, hx, hrun, Result.andThen]
    exact hK _ _ (h _ w (by simpa using hown) (grown_refl _ _))
  · rcases hnews with h0 | ⟨ad, rfl, hc⟩
    · exact absurd h0 hm
    · exact wpList_append_own w hgd s x t ho base e i z size bytes ht hi hz hsize hby hzs hsz v n xs hs hown ad m c news hx hl hc h1 h63 hbytes hbase (fun v' w' h2 h3 _ => h v' w' h2 h3)
end Go.Proofs.Ytacigmnnekphmaa.schema
