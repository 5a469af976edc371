/- Contracts of layer 8's reference: between, Right, Map. No condition. -/
import Derived.Test.YtkkogoiboanepaaGeomPlaces
import Derived.Test.YtkkogoiboanepaaVals
import Derived.Maps.AppendAt
namespace Go.Proofs.Ytkkogoiboanepaa.geom
open Go.RowKit
set_option linter.unusedVariables false

theorem between_yes (n lo hi : Int) (w : World) (h1 : lo ≤ n) (h2 : n ≤ hi) : Calls Try.prog 19 #[.int .i64 n, .int .i64 lo, .int .i64 hi] w fun e w' => e = .returned (.bool true) ∧ w = w' := by
  go_enter Try.func19, Try.ntmps19
  go_wp2
  go_ret
  exact ⟨rfl, rfl⟩
theorem between_no (n lo hi : Int) (w : World) (h : n < lo ∨ hi < n) : Calls Try.prog 19 #[.int .i64 n, .int .i64 lo, .int .i64 hi] w fun e w' => e = .returned (.bool false) ∧ w = w' := by
  by_cases h1 : n < lo
  · clear h
    go_enter Try.func19, Try.ntmps19
    go_wp2
    go_ret
    exact ⟨rfl, rfl⟩
  · have h2 : hi < n := by omega
    have h3 : lo ≤ n := by omega
    have hd : decide (n ≤ hi) = false := decide_eq_false (by omega)
    clear h h1
    go_enter Try.func19, Try.ntmps19
    go_wp2
    go_ret
    exact ⟨rfl, rfl⟩
theorem right_yes (g : Geo) (h : g.Right) (w : World) : Calls Try.prog 6 #[.agg #[.int .i64 g.sector, .int .i64 g.slot, .int .i64 g.data, .int .i64 g.quota, .int .i64 g.tries, .int .i64 g.life]] w fun e w' => e = .returned (.bool true) ∧ Below w.heap.size w w' := by
  obtain ⟨⟨h1, h2⟩, ⟨h3, h4⟩, ⟨h5, h6⟩, ⟨h7, h8⟩, ⟨h9, h10⟩, ⟨h11, h12⟩⟩ := h
  go_enter Try.func6, Try.ntmps6
  go_wp2_with (go_at_call 19; (with_reducible refine (between_yes _ _ _ _ (by omega) (by omega)).mono ?_); rintro e w' ⟨rfl, rfl⟩)
  go_ret
  exact ⟨rfl, (Below.refl _ _).alloc (Nat.le_refl _) _⟩
theorem right_no (g : Geo) (h : ¬ g.Right) (w : World) : Calls Try.prog 6 #[.agg #[.int .i64 g.sector, .int .i64 g.slot, .int .i64 g.data, .int .i64 g.quota, .int .i64 g.tries, .int .i64 g.life]] w fun e w' => e = .returned (.bool false) ∧ Below w.heap.size w w' := by
  rcases Geo.wrong h with h | h | h | h | h | h
  all_goals
    rename_i hr
    clear hr
    go_enter Try.func6, Try.ntmps6
    go_wp2_with (go_at_call 19; (first
      | ((with_reducible refine (between_yes _ _ _ _ (by omega) (by omega)).mono ?_); rintro e w' ⟨rfl, rfl⟩)
      | ((with_reducible refine (between_no _ _ _ _ (by omega)).mono ?_); rintro e w' ⟨rfl, rfl⟩)))
    go_ret
    exact ⟨rfl, (Below.refl _ _).alloc (Nat.le_refl _) _⟩
theorem right_yes_at (g : Geo) (h : g.Right) (w0 w : World) (hb : Below w0.heap.size w0 w) : Calls Try.prog 6 #[.agg #[.int .i64 g.sector, .int .i64 g.slot, .int .i64 g.data, .int .i64 g.quota, .int .i64 g.tries, .int .i64 g.life]] w fun e w' => e = .returned (.bool true) ∧ Below w0.heap.size w0 w' :=
  (right_yes g h w).mono fun _ _ ⟨he, hw⟩ => ⟨he, hb.trans (hw.mono hb.size)⟩
theorem right_no_at (g : Geo) (h : ¬ g.Right) (w0 w : World) (hb : Below w0.heap.size w0 w) : Calls Try.prog 6 #[.agg #[.int .i64 g.sector, .int .i64 g.slot, .int .i64 g.data, .int .i64 g.quota, .int .i64 g.tries, .int .i64 g.life]] w fun e w' => e = .returned (.bool false) ∧ Below w0.heap.size w0 w' :=
  (right_no g h w).mono fun _ _ ⟨he, hw⟩ => ⟨he, hb.trans (hw.mono hb.size)⟩

/-- the cells of a row of triples -/
def tri : List (Int × Int × Int) → List Value
  | [] => []
  | t :: l => .int .i64 t.1 :: .int .i64 t.2.1 :: .int .i64 t.2.2 :: tri l
theorem tri_append : ∀ a b, tri (a ++ b) = tri a ++ tri b
  | [], b => rfl
  | t :: a, b => by rw [List.cons_append, tri, tri, tri_append a b]; rfl
theorem tri_length : ∀ l, (tri l).length = l.length * 3
  | [] => rfl
  | t :: l => by rw [tri]; simp only [List.length_cons, tri_length l]; omega
theorem tri_at : ∀ (l : List (Int × Int × Int)) (k : Nat) t, l[k]? = some t → (tri l)[k * 3]? = some (.int .i64 t.1) ∧ (tri l)[k * 3 + 1]? = some (.int .i64 t.2.1) ∧ (tri l)[k * 3 + 2]? = some (.int .i64 t.2.2)
  | [], k, t, h => by simp at h
  | x :: l, 0, t, h => by simp at h; subst h; exact ⟨rfl, rfl, rfl⟩
  | x :: l, k + 1, t, h => by
    have := tri_at l k t (by simpa using h)
    rw [tri, show (k + 1) * 3 = k * 3 + 1 + 1 + 1 by omega]
    simp only [List.getElem?_cons_succ]
    exact this
/-- the first k sectors -/
def Geo.rows (g : Geo) (k : Nat) : List (Int × Int × Int) := (List.range k).map fun j : Nat => g.at (j : Int)
theorem Geo.rows_succ (g : Geo) (k : Nat) : g.rows (k + 1) = g.rows k ++ [g.at (k : Int)] := by
  unfold Geo.rows
  rw [List.range_succ, List.map_append]; rfl
theorem Geo.rows_length (g : Geo) (k : Nat) : (g.rows k).length = k := by unfold Geo.rows; simp

theorem info_tri : (Try.prog.info? 39).map (fun i => (i.zero, i.size, i.bytes)) = some (some (.agg #[.int .i64 0, .int .i64 0, .int .i64 0]), 3, 24) := by kernel_rfl
theorem info_tri_parts : ∃ i, Try.prog.info? 39 = some i ∧ i.zero = some (.agg #[.int .i64 0, .int .i64 0, .int .i64 0]) ∧ i.size = 3 ∧ i.bytes = 24 := by
  obtain ⟨i, hi, he⟩ := Option.map_eq_some_iff.1 info_tri
  simp only [Prod.mk.injEq] at he
  exact ⟨i, hi, he.1, he.2.1, he.2.2⟩
/-- the row as it grows: the first k sectors -/
def Row3 (g : Geo) (w0 : World) (k : Nat) (v : Value) (wr : World) : Prop := wr.ownsRow w0.heap.size 39 3 v k (tri (g.rows k)) ∧ Below w0.heap.size w0 wr
theorem wpList_append_tri {ops : Array Oper} {rest : List Oper} {o : Oper} {a : Act} {Q : Exit → Act → World → Prop} {w0 wr : World} (hgd : o.guard = none) (s x : Operand)
    (ho : o.op = .call { callee := .builtin .append, args := #[s, x], argTypes := #[28, 28] })
    (g : Geo) (k : Nat) (v : Value) (hs : a.eval s = v) (hx : a.eval x = .slice (some ⟨wr.heap.size, 0, none⟩) 1 1) (h : Hid (Row3 g w0 k v wr)) (hk : k ≤ 1000) (n1 n2 n3 : Int) (hat : Hid (g.at (k : Int) = (n1, n2, n3)))
    (hq : ∀ v' w', Hid (Row3 g w0 (k + 1) v' w') → wpList Try.prog ops Q rest (a.put o.dst v') w') : wpList Try.prog ops Q (o :: rest) a (wr.alloc (.cells #[.int .i64 n1, .int .i64 n2, .int .i64 n3] 39)) := by
  obtain ⟨i0, hi, hz0, hz1, hz2⟩ := info_tri_parts
  obtain ⟨ho1, hb⟩ := h.out
  refine wpList_append_own_at _ hgd s x 28 ho w0.heap.size 39 i0 _ 3 24 Try.underlying28 hi hz0 hz1 hz2 (by simp [Value.cells]) (by decide) v k (tri (g.rows k)) hs (ownsRow_same ho1 fun x hx => Below.heap_alloc wr _ x (World.ownsRow.lt ho1 x hx).2) ⟨wr.heap.size, 0, none⟩ 1 1 (tri [(n1, n2, n3)]) hx rfl (cells_new wr _ _) (by intro u hu; simp [tri] at hu; rcases hu with rfl | rfl | rfl <;> rfl) (by unfold maxLen; omega) (by omega) (by have := hb.size; simp; omega) ?_
  intro v' w' h1 h2 _ _
  refine hq v' w' (hid ⟨?_, ?_⟩)
  · rw [Geo.rows_succ, tri_append, hat.out]; exact h1
  · exact (hb.alloc hb.size _).grown h2 (by have := hb.size; simp; omega) (fun k hk => (World.ownsRow.lt ho1 k hk).1)
/-- the slice at a reads as the first n sectors -/
def Tris (g : Geo) (w : World) (a : Option Addr) (n : Nat) : Prop :=
  n = 0 ∨ ∃ b, a = some ⟨b, 0, none⟩ ∧ b < w.heap.size ∧ ∀ k : Nat, k < n → w.cell? ⟨b, k * 3, none⟩ = some (.int .i64 (g.at (k : Int)).1) ∧ w.cell? ⟨b, k * 3 + 1, none⟩ = some (.int .i64 (g.at (k : Int)).2.1) ∧ w.cell? ⟨b, k * 3 + 2, none⟩ = some (.int .i64 (g.at (k : Int)).2.2)
theorem Tris.below {g : Geo} {w w' : World} {a : Option Addr} {n : Nat} (h : Tris g w a n) (hb : Below w.heap.size w w') : Tris g w' a n := by
  rcases h with h | ⟨b, ha, hlt, hc⟩
  · exact .inl h
  · refine .inr ⟨b, ha, Nat.lt_of_lt_of_le hlt hb.size, fun k hk => ?_⟩
    rw [hb.cell (p := ⟨b, k * 3, none⟩) hlt, hb.cell (p := ⟨b, k * 3 + 1, none⟩) hlt, hb.cell (p := ⟨b, k * 3 + 2, none⟩) hlt]
    exact hc k hk
theorem Row3.tris {g : Geo} {w0 wr : World} {n cap : Nat} {a : Option Addr} (h : Row3 g w0 n (.slice a n cap) wr) : Tris g wr a n := by
  obtain ⟨⟨hl, hr⟩, _⟩ := h
  rcases hr with ⟨hv, h0⟩ | ⟨b, cap', cur, hv, _, hg, _, _, _, htake⟩
  · exact .inl h0
  · cases hv
    refine .inr ⟨b, rfl, (Array.getElem?_eq_some_iff.1 hg).1, fun k hk => ?_⟩
    have ht := tri_at (g.rows n) k (g.at (k : Int)) (by unfold Geo.rows; simp [hk])
    have h2 : ∀ j, j < n * 3 → cur[j]? = (tri (g.rows n))[j]? := fun j hj => by
      have : (cur.toList.take (n * 3))[j]? = (tri (g.rows n))[j]? := by rw [htake]
      rwa [List.getElem?_take, if_pos hj, Array.getElem?_toList] at this
    rw [cell_of_row wr b _ cur _ (0, 0) hg, cell_of_row wr b _ cur _ (0, 0) hg, cell_of_row wr b _ cur _ (0, 0) hg, h2 _ (by omega), h2 _ (by omega), h2 _ (by omega)]
    exact ht
def MapRes (g : Geo) (w : World) (e : Ending) (w' : World) : Prop := ∃ a cap n, e = .returned (.slice a n cap) ∧ (n : Int) = g.sectors ∧ Tris g w' a n ∧ Below w.heap.size w w'
theorem Row3.slice {g : Geo} {w0 wr : World} {n : Nat} {v : Value} (h : Row3 g w0 n v wr) : ∃ a cap, v = .slice a n cap := by
  obtain ⟨a, cap, hv, _⟩ := ownsRow_slice h.1
  exact ⟨a, cap, hv⟩
theorem row3_start (g : Geo) (h : g.Right) (w0 : World) : Row3 g w0 2 (.slice (some ⟨w0.heap.size, 0, none⟩) 2 2) (w0.alloc (.cells #[.int .i64 0, .int .i64 0, .int .i64 0, .int .i64 0, .int .i64 0, .int .i64 1] 39)) := by
  refine ⟨⟨by rw [tri_length, Geo.rows_length], .inr ⟨w0.heap.size, 2, _, rfl, Nat.le_refl _, heap_alloc_last w0 _, Nat.le_refl _, by unfold maxLen; omega, rfl, ?_⟩⟩, (Below.refl _ _).alloc (Nat.le_refl _) _⟩
  rfl
end Go.Proofs.Ytkkogoiboanepaa.geom
