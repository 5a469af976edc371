/- Rows of items that a call has made, and items held against each other. No condition but rows of at most 2^47 bytes. -/
import Derived.Test.YtccaibdklgkgeaaItemMath
import Derived.Test.YtccaibdklgkgeaaAppendN
import Derived.Laws.StructEq
namespace Go.Proofs.Ytccaibdklgkgeaa.item
open Go.RowKit
set_option linter.unusedVariables false

/-- the call returns v, and nothing that was there has turned -/
def Gives (v : Value) (w : World) (e : Ending) (w' : World) : Prop := e = .returned v ∧ Below w.heap.size w w'
theorem newB (w : World) (d : Obj) : Below w.heap.size w (w.alloc d) := (Below.refl _ _).alloc (Nat.le_refl _) _
theorem below_out {w w' : World} {d : Obj} (hb : Below (w.alloc d).heap.size (w.alloc d) w') : Below w.heap.size w w' := (newB w d).trans (hb.mono ((newB w d).size))
/-- the cells of items -/
def itC (p : It) : List Value := [.int .u32 (p.key : Nat), .string p.data]
def itV : List It → List Value
  | [] => []
  | p :: L => itC p ++ itV L
/-- the call returns a row of the call's own with these items, and y beside it -/
def Lists (L : List It) (w : World) (e : Ending) (w' : World) : Prop := ∃ a c, e = .returned (.slice a L.length c) ∧ w'.ownsRow w.heap.size 37 2 (.slice a L.length c) L.length (itV L) ∧ Below w.heap.size w w'
def Lists2 (L : List It) (y : Value) (w : World) (e : Ending) (w' : World) : Prop := ∃ a c, e = .returned (.tuple #[.slice a L.length c, y]) ∧ w'.ownsRow w.heap.size 37 2 (.slice a L.length c) L.length (itV L) ∧ Below w.heap.size w w'
theorem itV_append : ∀ a b, itV (a ++ b) = itV a ++ itV b
  | [], _ => rfl
  | p :: a, b => by rw [List.cons_append, itV, itV, itV_append a b, List.append_assoc]
theorem itV_length : ∀ L, (itV L).length = L.length * 2
  | [] => rfl
  | p :: L => by rw [itV]; simp only [itC, List.length_append, List.length_cons, List.length_nil, itV_length L]; omega
theorem itC_one (p : It) : ∀ u ∈ itC p, u.oneCell' = true := by intro u hu; simp [itC] at hu; rcases hu with rfl | rfl <;> rfl
theorem itV_one : ∀ L, ∀ u ∈ itV L, u.oneCell' = true
  | [], u, h => by simp [itV] at h
  | p :: L, u, h => by
    rw [itV, List.mem_append] at h
    rcases h with h | h
    · exact itC_one p u h
    · exact itV_one L u h
theorem itV_get : ∀ (L : List It) (j : Nat) (u : Value), (itV L)[j]? = some u → ∃ i p c, L[i]? = some p ∧ j = i * 2 + c ∧ c < 2 ∧ (itC p)[c]? = some u
  | [], j, u, h => by simp [itV] at h
  | p :: L, j, u, h => by
    rw [itV] at h
    by_cases hj : j < 2
    · rw [List.getElem?_append_left (by simp [itC]; omega)] at h
      exact ⟨0, p, j, rfl, by omega, hj, h⟩
    · rw [List.getElem?_append_right (by simp [itC]; omega)] at h
      obtain ⟨i, q, c, h1, h2, h3, h4⟩ := itV_get L _ u h
      simp only [itC, List.length_cons, List.length_nil] at h2
      exact ⟨i + 1, q, c, by simpa using h1, by omega, h3, h4⟩
theorem itV_at : ∀ (L : List It) (i : Nat) (p : It) (c : Nat), L[i]? = some p → c < 2 → (itV L)[i * 2 + c]? = (itC p)[c]?
  | [], i, p, c, h, _ => by simp at h
  | q :: L, 0, p, c, h, hc => by
    simp at h; subst h
    rw [itV, List.getElem?_append_left (by simp [itC]; omega)]
    simp
  | q :: L, i + 1, p, c, h, hc => by
    rw [itV, List.getElem?_append_right (by simp [itC]; omega)]
    rw [← itV_at L i p c (by simpa using h) hc]
    congr 1
    simp only [itC, List.length_cons, List.length_nil]; omega
/-- what lies in items that came in, as the cells of a row -/
theorem its_news {w : World} {a : Option Addr} {L : List It} (h : Its w a L) : L.length = 0 ∨ ∃ ad, a = some ad ∧ ∀ j u, (itV L)[j]? = some u → w.cell? (ad.add j) = some u := by
  rcases h with h | ⟨b, off, ha, hlt, hc⟩
  · exact .inl (by rw [h]; rfl)
  · refine .inr ⟨_, ha, fun j u hj => ?_⟩
    obtain ⟨i, p, c, h1, rfl, h3, h4⟩ := itV_get L j u hj
    obtain ⟨c0, c1⟩ := hc i p h1
    rw [Addr.add_lit]
    match c, h3, h4 with
    | 0, _, h4 => rw [show (some u) = some (.int .u32 (p.key : Nat)) from h4.symm.trans rfl]; exact c0
    | 1, _, h4 => rw [show (some u) = some (.string p.data) from h4.symm.trans rfl, ← Nat.add_assoc]; exact c1
/-- a row of the call's own reads as items -/
theorem own_its {w : World} {base n : Nat} {a : Option Addr} {cap : Nat} {L : List It} {e : TypeId} (h : w.ownsRow base e 2 (.slice a n cap) n (itV L)) : Its w a L ∧ n = L.length ∧ n ≤ cap ∧ cap ≤ maxLen := by
  obtain ⟨hl, hr⟩ := h
  have hn : n = L.length := by have := itV_length L; rw [hl] at this; omega
  rcases hr with ⟨hv, h0⟩ | ⟨b, cap', cur, hv, _, hg, hcp, hcm, _, htake⟩
  · cases hv
    exact ⟨.inl (List.eq_nil_of_length_eq_zero (by omega)), hn, by omega, by unfold maxLen; omega⟩
  · cases hv
    refine ⟨.inr ⟨b, 0, rfl, (Array.getElem?_eq_some_iff.1 hg).1, fun i p hp => ?_⟩, hn, hcp, hcm⟩
    have hi : i < L.length := (List.getElem?_eq_some_iff.1 hp).1
    have key : ∀ c x, c < 2 → (itC p)[c]? = some x → w.cell? ⟨b, 0 + (i * 2 + c), none⟩ = some x := by
      intro c x hc hx
      have h1 := itV_at L i p c hp hc
      rw [hx, ← htake, List.getElem?_take, if_pos (by omega)] at h1
      rw [cell_of_row w b _ cur _ _ hg, Nat.zero_add, ← h1, Array.getElem?_toList]
    exact ⟨key 0 _ (by omega) rfl, key 1 _ (by omega) rfl⟩
theorem it_info : (Try.prog.info? 37).map (fun i => (i.zero, i.size, i.bytes)) = some (some (.agg #[.int .u32 0, .string ⟨#[]⟩]), 2, 24) := by kernel_rfl
theorem it_info_parts : ∃ i, Try.prog.info? 37 = some i ∧ i.zero = some (.agg #[.int .u32 0, .string ⟨#[]⟩]) ∧ i.size = 2 ∧ i.bytes = 24 := by
  obtain ⟨i, hi, he⟩ := Option.map_eq_some_iff.1 it_info
  simp only [Prod.mk.injEq] at he
  exact ⟨i, hi, he.1, he.2.1, he.2.2⟩
theorem info_it2 : Hid ((Try.prog.info? 37).map (·.size) = some ([.int .u32 0, .string ⟨#[]⟩] : List Value).length) := by show _ = _; kernel_rfl
theorem info_it : Hid ((Try.prog.info? 37).map (·.size) = some 2) := by show _ = _; kernel_rfl
/-- an append of items onto a row of items -/
theorem wpList_append_its {w : World} {ops : Array Oper} {rest : List Oper} {o : Oper} {a : Act} {Q : Exit → Act → World → Prop} (hgd : o.guard = none) (s x : Operand)
    (ho : o.op = .call { callee := .builtin .append, args := #[s, x], argTypes := #[35, 35] })
    (base : Nat) (v : Value) (n : Nat) (L : List It) (hs : a.eval s = v) (hown : w.ownsRow base 37 2 v n (itV L))
    (ap : Option Addr) (m c : Nat) (M : List It) (hx : a.eval x = .slice ap m c) (hm : m = M.length) (hM : Its w ap M) (hn : n + m ≤ 17179869184) (hbase : base ≤ w.heap.size)
    (h : ∀ v' w', w'.ownsRow base 37 2 v' (n + m) (itV (L ++ M)) → w.grownBy w' v.ownBlock → wpList Try.prog ops Q rest (a.put o.dst v') w') : wpList Try.prog ops Q (o :: rest) a w := by
  obtain ⟨i0, hi, hz0, hz1, hz2⟩ := it_info_parts
  exact schema.wpList_append_fromN hgd s x 35 ho base 37 i0 _ 2 24 Try.underlying35 hi hz0 hz1 hz2 (by simp [Value.cells]) (by omega) v n (itV L) hs hown ap m c (itV M) hx (by rw [itV_length, hm])
    (by rcases its_news hM with h0 | h1; · exact .inl (hm.trans h0)
        · exact .inr h1) (itV_one M) (by unfold maxLen; omega) (by omega) hbase (fun v' w' h1 h2 => h v' w' (by rw [itV_append]; exact h1) h2)
/-- an item's cells in a later world -/
theorem it_at {w w' : World} {a : Option Addr} {L : List It} (h : Its w a L) (hb : Below w.heap.size w w') {k : Nat} (hk : k < L.length) :
    ∃ b off p, a = some ⟨b, off, none⟩ ∧ b < w'.heap.size ∧ L[k]? = some p ∧ w'.cell? ⟨b, off + k * 2, none⟩ = some (.int .u32 (p.key : Nat)) ∧ w'.cell? ⟨b, off + k * 2 + 1, none⟩ = some (.string p.data) := by
  obtain ⟨b, off, p, h1, h2, h3, h4, h5⟩ := (h.below hb).at hk
  exact ⟨b, off, p, h1, h2, h3, h4, h5⟩
theorem neq_it (p q : It) (w : World) : (binOp .neq 37 (.agg #[.int .u32 (p.key : Nat), .string p.data]) (.agg #[.int .u32 (q.key : Nat), .string q.data])).run Try.prog w = .ok (.bool (!decide (p = q))) w := by
  rw [run_neq_struct, show (10000 : Nat) = 9999 + 1 from rfl, run_equalIn_struct w 9999 37 _ _ (by kernel_rfl) Try.stoodInHeld37]
  go_simp
  obtain ⟨n, s⟩ := p
  obtain ⟨m, t⟩ := q
  rw [show decide ((⟨n, s⟩ : It) = ⟨m, t⟩) = decide (n = m ∧ s.toList = t.toList) from decide_eq_decide.2 it_eq]
  by_cases h1 : n = m
  · by_cases h2 : s.toList = t.toList <;> simp [h1, h2]
  · have h1' : ¬ (n : Int) = m := by omega
    simp [h1, h1']
theorem eqgn_it (x y : Operand) (p q : It) (w : World) : (eqGuard .neq 37 x y (.agg #[.int .u32 (p.key : Nat), .string p.data]) (.agg #[.int .u32 (q.key : Nat), .string q.data])).run Try.prog w = .ok () w :=
  run_eqGuard_agg w .neq 37 x y _ _ Try.eqGuardType37
end Go.Proofs.Ytccaibdklgkgeaa.item
