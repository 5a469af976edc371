/- Contracts and lemmas that the claims of this seat share: GeomRef, GeomMap, DriveRefHold, AppendAt, DriveFirst, Perm, FlashRepeat, Plan, Four. Each says its own conditions. -/
import Derived.Test.YtcigijhoeghnnaaCmC
import Derived.Test.YtcigijhoeghnnaaCmA
import Derived.Maps.AppendAt
import Derived.Test.YtcigijhoeghnnaaCmD
import Derived.Test.YtcigijhoeghnnaaCmB
import Derived.Deep.WholeRow
import Derived.Deep.MidRow
import Derived.Laws.StructEq
import Derived.Below
/- Contracts of layer 8's reference: between, Right, Map. No condition. -/
namespace Go.Proofs.Ytcigijhoeghnnaa.geom
open Go.RowKit
set_option linter.unusedVariables false

theorem between_yes (n lo hi : Int) (w : World) (h1 : lo ≤ n) (h2 : n ≤ hi) : Calls Try.prog 46 #[.int .i64 n, .int .i64 lo, .int .i64 hi] w fun e w' => e = .returned (.bool true) ∧ w = w' := by
  go_enter Try.func46, Try.ntmps46
  go_wp2
  go_ret
  exact ⟨rfl, rfl⟩
theorem between_no (n lo hi : Int) (w : World) (h : n < lo ∨ hi < n) : Calls Try.prog 46 #[.int .i64 n, .int .i64 lo, .int .i64 hi] w fun e w' => e = .returned (.bool false) ∧ w = w' := by
  by_cases h1 : n < lo
  · clear h
    go_enter Try.func46, Try.ntmps46
    go_wp2
    go_ret
    exact ⟨rfl, rfl⟩
  · have h2 : hi < n := by omega
    have h3 : lo ≤ n := by omega
    have hd : decide (n ≤ hi) = false := decide_eq_false (by omega)
    clear h h1
    go_enter Try.func46, Try.ntmps46
    go_wp2
    go_ret
    exact ⟨rfl, rfl⟩
theorem right_yes (g : Geo) (h : g.Right) (w : World) : Calls Try.prog 25 #[.agg #[.int .i64 g.sector, .int .i64 g.slot, .int .i64 g.data, .int .i64 g.quota, .int .i64 g.tries, .int .i64 g.life]] w fun e w' => e = .returned (.bool true) ∧ Below w.heap.size w w' := by
  obtain ⟨⟨h1, h2⟩, ⟨h3, h4⟩, ⟨h5, h6⟩, ⟨h7, h8⟩, ⟨h9, h10⟩, ⟨h11, h12⟩⟩ := h
  go_enter Try.func25, Try.ntmps25
  go_wp2_with (go_at_call 46; (with_reducible refine (between_yes _ _ _ _ (by omega) (by omega)).mono ?_); rintro e w' ⟨rfl, rfl⟩)
  go_ret
  exact ⟨rfl, (Below.refl _ _).alloc (Nat.le_refl _) _⟩
theorem right_no (g : Geo) (h : ¬ g.Right) (w : World) : Calls Try.prog 25 #[.agg #[.int .i64 g.sector, .int .i64 g.slot, .int .i64 g.data, .int .i64 g.quota, .int .i64 g.tries, .int .i64 g.life]] w fun e w' => e = .returned (.bool false) ∧ Below w.heap.size w w' := by
  rcases Geo.wrong h with h | h | h | h | h | h
  all_goals
    rename_i hr
    clear hr
    go_enter Try.func25, Try.ntmps25
    go_wp2_with (go_at_call 46; (first
      | ((with_reducible refine (between_yes _ _ _ _ (by omega) (by omega)).mono ?_); rintro e w' ⟨rfl, rfl⟩)
      | ((with_reducible refine (between_no _ _ _ _ (by omega)).mono ?_); rintro e w' ⟨rfl, rfl⟩)))
    go_ret
    exact ⟨rfl, (Below.refl _ _).alloc (Nat.le_refl _) _⟩
theorem right_yes_at (g : Geo) (h : g.Right) (w0 w : World) (hb : Below w0.heap.size w0 w) : Calls Try.prog 25 #[.agg #[.int .i64 g.sector, .int .i64 g.slot, .int .i64 g.data, .int .i64 g.quota, .int .i64 g.tries, .int .i64 g.life]] w fun e w' => e = .returned (.bool true) ∧ Below w0.heap.size w0 w' :=
  (right_yes g h w).mono fun _ _ ⟨he, hw⟩ => ⟨he, hb.trans (hw.mono hb.size)⟩
theorem right_no_at (g : Geo) (h : ¬ g.Right) (w0 w : World) (hb : Below w0.heap.size w0 w) : Calls Try.prog 25 #[.agg #[.int .i64 g.sector, .int .i64 g.slot, .int .i64 g.data, .int .i64 g.quota, .int .i64 g.tries, .int .i64 g.life]] w fun e w' => e = .returned (.bool false) ∧ Below w0.heap.size w0 w' :=
  (right_no g h w).mono fun _ _ ⟨he, hw⟩ => ⟨he, hb.trans (hw.mono hb.size)⟩

/-- the cells of a row of triples -/
def tri : List (Int × Int × Int) → List Value
  | [] => []
  | t :: l => .int .i64 t.1 :: .int .i64 t.2.1 :: .int .i64 t.2.2 :: tri l
theorem tri_append : ∀ a b, tri (a ++ b) = tri a ++ tri b
  | [], b => rfl
  | t :: a, b => by rw [List.cons_append, tri, tri, tri_append a b]; rfl
theorem tri_length : ∀ l, (tri l).length = l.length * 3
  | [] => rfl
  | t :: l => by rw [tri]; simp only [List.length_cons, tri_length l]; omega
theorem tri_at : ∀ (l : List (Int × Int × Int)) (k : Nat) t, l[k]? = some t → (tri l)[k * 3]? = some (.int .i64 t.1) ∧ (tri l)[k * 3 + 1]? = some (.int .i64 t.2.1) ∧ (tri l)[k * 3 + 2]? = some (.int .i64 t.2.2)
  | [], k, t, h => by simp at h
  | x :: l, 0, t, h => by simp at h; subst h; exact ⟨rfl, rfl, rfl⟩
  | x :: l, k + 1, t, h => by
    have := tri_at l k t (by simpa using h)
    rw [tri, show (k + 1) * 3 = k * 3 + 1 + 1 + 1 by omega]
    simp only [List.getElem?_cons_succ]
    exact this
/-- the first k sectors -/
def Geo.rows (g : Geo) (k : Nat) : List (Int × Int × Int) := (List.range k).map fun j : Nat => g.at (j : Int)
theorem Geo.rows_succ (g : Geo) (k : Nat) : g.rows (k + 1) = g.rows k ++ [g.at (k : Int)] := by
  unfold Geo.rows
  rw [List.range_succ, List.map_append]; rfl
theorem Geo.rows_length (g : Geo) (k : Nat) : (g.rows k).length = k := by unfold Geo.rows; simp

theorem info_tri : (Try.prog.info? 67).map (fun i => (i.zero, i.size, i.bytes)) = some (some (.agg #[.int .i64 0, .int .i64 0, .int .i64 0]), 3, 24) := by kernel_rfl
theorem info_tri_parts : ∃ i, Try.prog.info? 67 = some i ∧ i.zero = some (.agg #[.int .i64 0, .int .i64 0, .int .i64 0]) ∧ i.size = 3 ∧ i.bytes = 24 := by
  obtain ⟨i, hi, he⟩ := Option.map_eq_some_iff.1 info_tri
  simp only [Prod.mk.injEq] at he
  exact ⟨i, hi, he.1, he.2.1, he.2.2⟩
/-- the row as it grows: the first k sectors -/
def Row3 (g : Geo) (w0 : World) (k : Nat) (v : Value) (wr : World) : Prop := wr.ownsRow w0.heap.size 67 3 v k (tri (g.rows k)) ∧ Below w0.heap.size w0 wr
theorem wpList_append_tri {ops : Array Oper} {rest : List Oper} {o : Oper} {a : Act} {Q : Exit → Act → World → Prop} {w0 wr : World} (hgd : o.guard = none) (s x : Operand)
    (ho : o.op = .call { callee := .builtin .append, args := #[s, x], argTypes := #[28, 28] })
    (g : Geo) (k : Nat) (v : Value) (hs : a.eval s = v) (hx : a.eval x = .slice (some ⟨wr.heap.size, 0, none⟩) 1 1) (h : Hid (Row3 g w0 k v wr)) (hk : k ≤ 1000) (n1 n2 n3 : Int) (hat : Hid (g.at (k : Int) = (n1, n2, n3)))
    (hq : ∀ v' w', Hid (Row3 g w0 (k + 1) v' w') → wpList Try.prog ops Q rest (a.put o.dst v') w') : wpList Try.prog ops Q (o :: rest) a (wr.alloc (.cells #[.int .i64 n1, .int .i64 n2, .int .i64 n3] 67)) := by
  obtain ⟨i0, hi, hz0, hz1, hz2⟩ := info_tri_parts
  obtain ⟨ho1, hb⟩ := h.out
  refine wpList_append_own_at _ hgd s x 28 ho w0.heap.size 67 i0 _ 3 24 Try.underlying28 hi hz0 hz1 hz2 (by simp [Value.cells]) (by decide) v k (tri (g.rows k)) hs (ownsRow_same ho1 fun x hx => Below.heap_alloc wr _ x (World.ownsRow.lt ho1 x hx).2) ⟨wr.heap.size, 0, none⟩ 1 1 (tri [(n1, n2, n3)]) hx rfl (cells_new wr _ _) (by intro u hu; simp [tri] at hu; rcases hu with rfl | rfl | rfl <;> rfl) (by unfold maxLen; omega) (by omega) (by have := hb.size; simp; omega) ?_
  intro v' w' h1 h2 _ _
  refine hq v' w' (hid ⟨?_, ?_⟩)
  · rw [Geo.rows_succ, tri_append, hat.out]; exact h1
  · exact (hb.alloc hb.size _).grown h2 (by have := hb.size; simp; omega) (fun k hk => (World.ownsRow.lt ho1 k hk).1)
/-- the slice at a reads as the first n sectors -/
def Tris (g : Geo) (w : World) (a : Option Addr) (n : Nat) : Prop :=
  n = 0 ∨ ∃ b, a = some ⟨b, 0, none⟩ ∧ b < w.heap.size ∧ ∀ k : Nat, k < n → w.cell? ⟨b, k * 3, none⟩ = some (.int .i64 (g.at (k : Int)).1) ∧ w.cell? ⟨b, k * 3 + 1, none⟩ = some (.int .i64 (g.at (k : Int)).2.1) ∧ w.cell? ⟨b, k * 3 + 2, none⟩ = some (.int .i64 (g.at (k : Int)).2.2)
theorem Tris.below {g : Geo} {w w' : World} {a : Option Addr} {n : Nat} (h : Tris g w a n) (hb : Below w.heap.size w w') : Tris g w' a n := by
  rcases h with h | ⟨b, ha, hlt, hc⟩
  · exact .inl h
  · refine .inr ⟨b, ha, Nat.lt_of_lt_of_le hlt hb.size, fun k hk => ?_⟩
    rw [hb.cell (p := ⟨b, k * 3, none⟩) hlt, hb.cell (p := ⟨b, k * 3 + 1, none⟩) hlt, hb.cell (p := ⟨b, k * 3 + 2, none⟩) hlt]
    exact hc k hk
theorem Row3.tris {g : Geo} {w0 wr : World} {n cap : Nat} {a : Option Addr} (h : Row3 g w0 n (.slice a n cap) wr) : Tris g wr a n := by
  obtain ⟨⟨hl, hr⟩, _⟩ := h
  rcases hr with ⟨hv, h0⟩ | ⟨b, cap', cur, hv, _, hg, _, _, _, htake⟩
  · exact .inl h0
  · cases hv
    refine .inr ⟨b, rfl, (Array.getElem?_eq_some_iff.1 hg).1, fun k hk => ?_⟩
    have ht := tri_at (g.rows n) k (g.at (k : Int)) (by unfold Geo.rows; simp [hk])
    have h2 : ∀ j, j < n * 3 → cur[j]? = (tri (g.rows n))[j]? := fun j hj => by
      have : (cur.toList.take (n * 3))[j]? = (tri (g.rows n))[j]? := by rw [htake]
      rwa [List.getElem?_take, if_pos hj, Array.getElem?_toList] at this
    rw [cell_of_row wr b _ cur _ (0, 0) hg, cell_of_row wr b _ cur _ (0, 0) hg, cell_of_row wr b _ cur _ (0, 0) hg, h2 _ (by omega), h2 _ (by omega), h2 _ (by omega)]
    exact ht
def MapRes (g : Geo) (w : World) (e : Ending) (w' : World) : Prop := ∃ a cap n, e = .returned (.slice a n cap) ∧ (n : Int) = g.sectors ∧ Tris g w' a n ∧ Below w.heap.size w w'
theorem Row3.slice {g : Geo} {w0 wr : World} {n : Nat} {v : Value} (h : Row3 g w0 n v wr) : ∃ a cap, v = .slice a n cap := by
  obtain ⟨a, cap, hv, _⟩ := ownsRow_slice h.1
  exact ⟨a, cap, hv⟩
theorem row3_start (g : Geo) (h : g.Right) (w0 : World) : Row3 g w0 2 (.slice (some ⟨w0.heap.size, 0, none⟩) 2 2) (w0.alloc (.cells #[.int .i64 0, .int .i64 0, .int .i64 0, .int .i64 0, .int .i64 0, .int .i64 1] 67)) := by
  refine ⟨⟨by rw [tri_length, Geo.rows_length], .inr ⟨w0.heap.size, 2, _, rfl, Nat.le_refl _, heap_alloc_last w0 _, Nat.le_refl _, by unfold maxLen; omega, rfl, ?_⟩⟩, (Below.refl _ _).alloc (Nat.le_refl _) _⟩
  rfl
end Go.Proofs.Ytcigijhoeghnnaa.geom
/- Contract of layer 8's reference: Map. No condition. -/
namespace Go.Proofs.Ytcigijhoeghnnaa.geom
open Go.RowKit
set_option linter.unusedVariables false

set_option maxHeartbeats 4000000 in
set_option maxRecDepth 8000 in
theorem map_any (g : Geo) (w : World) : Calls Try.prog 9 #[.agg #[.int .i64 g.sector, .int .i64 g.slot, .int .i64 g.data, .int .i64 g.quota, .int .i64 g.tries, .int .i64 g.life]] w (MapRes g w) := by
  have HS := hid (six g w)
  have HB := hid (belowNew g w)
  have hb0 : Below (w.alloc (.cells #[.int .i64 g.sector, .int .i64 g.slot, .int .i64 g.data, .int .i64 g.quota, .int .i64 g.tries, .int .i64 g.life] 23)).heap.size (w.alloc (.cells #[.int .i64 g.sector, .int .i64 g.slot, .int .i64 g.data, .int .i64 g.quota, .int .i64 g.tries, .int .i64 g.life] 23)) (w.alloc (.cells #[.int .i64 g.sector, .int .i64 g.slot, .int .i64 g.data, .int .i64 g.quota, .int .i64 g.tries, .int .i64 g.life] 23)) := Below.refl _ _
  by_cases h : g.Right
  · have cc := fun w1 hb => right_yes_at g h (w.alloc (.cells #[.int .i64 g.sector, .int .i64 g.slot, .int .i64 g.data, .int .i64 g.quota, .int .i64 g.tries, .int .i64 g.life] 23)) w1 hb
    obtain ⟨w0, hw0⟩ : ∃ x, Hid ((w.alloc (.cells #[.int .i64 g.sector, .int .i64 g.slot, .int .i64 g.data, .int .i64 g.quota, .int .i64 g.tries, .int .i64 g.life] 23)) = x) := ⟨_, rfl⟩
    rw [hw0.out] at HS HB hb0 cc
    have HR := hid h
    obtain ⟨_, ⟨h3, h4⟩, ⟨h5, h6⟩, ⟨h7, h8⟩, _⟩ := h
    have hk0 := HS.out w0 hb0
    go_enter Try.func9, Try.ntmps9
    go_wp2_with fail
    rw [hw0.out]
    go_wp2_with (first
      | (go_at_call 25; (with_reducible refine (cc _ hb0).mono ?_); rintro e w1 ⟨rfl, hb1⟩; have hk1 := HS.out w1 hb1))
    have HR3 : Hid (Row3 g w1 2 (.slice (some ⟨w1.heap.size, 0, none⟩) 2 2) (w1.alloc (.cells #[.int .i64 0, .int .i64 0, .int .i64 0, .int .i64 0, .int .i64 0, .int .i64 1] 67))) := hid (row3_start g HR.out w1)
    have HK : Hid (∀ w', Below w1.heap.size w1 w' → (w'.cell? ⟨w.heap.size, 0, none⟩ = some (.int .i64 g.sector) ∧ w'.cell? ⟨w.heap.size, 1, none⟩ = some (.int .i64 g.slot) ∧ w'.cell? ⟨w.heap.size, 2, none⟩ = some (.int .i64 g.data) ∧ w'.cell? ⟨w.heap.size, 3, none⟩ = some (.int .i64 g.quota) ∧ w'.cell? ⟨w.heap.size, 4, none⟩ = some (.int .i64 g.tries) ∧ w'.cell? ⟨w.heap.size, 5, none⟩ = some (.int .i64 g.life))) := hid (fun w' hb => HS.out w' (hb1.trans (hb.mono hb1.size)))
    have HBW : Hid (∀ w', Below w1.heap.size w1 w' → Below w.heap.size w w') := hid (fun w' hb => HB.out w' (hb1.trans (hb.mono hb1.size)))
    clear hk0 hk1 cc hb0 HS HB hw0 hb1
    go_loopw [3, 4] (fun l s wr => ∃ (k : Nat) (si : Int), s = .int .i64 si ∧ 0 ≤ si ∧ si ≤ 2 ∧ Hid ((k : Int) = 2 + si * g.slot) ∧ Hid (Row3 g w1 k l wr)) (fun _ s _ => (2 - intOf s).toNat)
    case atStart => exact ⟨2, 0, rfl, by omega, by omega, hid (by simp), HR3⟩
    case round =>
      obtain ⟨k, si, rfl, hs0, hs2, hk, hrow⟩ := hrel
      clear HR3
      obtain ⟨ra, rc, rfl⟩ := hrow.out.slice
      have HKW := HK.out wr hrow.out.2
      by_cases hlt : si < 2
      · have hs3 : si = 0 ∨ si = 1 := by omega
        have hk64 : k ≤ 66 := by have := hk.out; rcases hs3 with rfl | rfl <;> omega
        have hat : Hid (g.at (k : Int) = (1, si, 0)) := hid (by rw [hk.out]; exact (g.at_ledger HR.out si hs0 (by omega)).1)
        clear HKW hs3
        go_wp2_with (first
          | (at_builtin; refine wpList_append_tri rfl _ _ rfl g k _ rfl rfl hrow (by omega) _ _ _ hat ?_; clear hat hrow; intro v' w2 hrow2; obtain ⟨ra2, rc2, rfl⟩ := hrow2.out.slice))
        go_loopw [3, 5] (fun l i wr => ∃ m : Nat, i = .int .i64 (m : Int) ∧ (m : Int) + 1 ≤ g.slot ∧ Hid (Row3 g w1 (k + 1 + m) l wr)) (fun _ i _ => (g.slot - intOf i).toNat)
        case atStart => exact ⟨0, rfl, by omega, hrow2⟩
        case round =>
          obtain ⟨m, rfl, hm, hrow3⟩ := hrel
          clear hrow2
          obtain ⟨ra3, rc3, rfl⟩ := hrow3.out.slice
          have HKW := HK.out wr hrow3.out.2
          by_cases hlt3 : (m : Int) + 1 < g.slot
          · have hat : Hid (g.at ((k + 1 + m : Nat) : Int) = ((2 : Int), si, (m : Int))) := hid (by
              have := (g.at_chunk HR.out si m hs0 (by omega) (by omega) (by omega)).1
              rw [← this, ← hk.out]; congr 1)
            have hkm : k + 1 + m ≤ 1000 := by omega
            go_wp2_with (first
              | (at_builtin; refine wpList_append_tri rfl _ _ rfl g (k + 1 + m) _ rfl rfl hrow3 hkm _ _ _ hat ?_; clear hat hrow3; intro v' w4 hrow4; obtain ⟨ra4, rc4, rfl⟩ := hrow4.out.slice))
            exact ⟨⟨m + 1, by go_num, by omega, hrow4⟩, by simp [intOf]; omega⟩
          · have hkn : Hid (((k + 1 + m : Nat) : Int) = 2 + (si + 1) * g.slot) := hid (by
              have := hk.out
              rw [Int.add_mul]; omega)
            go_wp2
            exact ⟨⟨k + 1 + m, si + 1, rfl, by omega, by omega, hkn, hrow3⟩, by simp [intOf]; omega⟩
      · obtain rfl : si = 2 := by omega
        have hk2 : Hid ((k : Int) = 2 + 2 * g.slot) := hk
        clear hk
        go_wp2
        go_loopw [3, 6] (fun l p wr => ∃ m : Nat, p = .int .i64 (m : Int) ∧ (m : Int) ≤ g.data ∧ Hid (Row3 g w1 (k + m) l wr)) (fun _ p _ => (g.data - intOf p).toNat)
        case atStart => exact ⟨0, rfl, by omega, hrow⟩
        case round =>
          obtain ⟨m, rfl, hm, hrow3⟩ := hrel
          clear hrow HKW
          obtain ⟨ra3, rc3, rfl⟩ := hrow3.out.slice
          have HKW := HK.out wr hrow3.out.2
          by_cases hlt3 : (m : Int) < g.data
          · have hat : Hid (g.at ((k + m : Nat) : Int) = ((3 : Int), (0 : Int), (m : Int))) := hid (by
              have := (g.at_page HR.out m (by omega) (by omega)).1
              rw [← this, ← hk2.out]; congr 1)
            have hkm : k + m ≤ 1000 := by have := hk2.out; omega
            go_wp2_with (first
              | (at_builtin; refine wpList_append_tri rfl _ _ rfl g (k + m) _ rfl rfl hrow3 hkm _ _ _ hat ?_; clear hat hrow3; intro v' w4 hrow4; obtain ⟨ra4, rc4, rfl⟩ := hrow4.out.slice))
            exact ⟨⟨m + 1, by go_num, by omega, hrow4⟩, by simp [intOf]; omega⟩
          · have hn : Hid (((k + m : Nat) : Int) = g.sectors) := hid (by
              have := hk2.out
              rw [Geo.sectors, if_pos HR.out]; omega)
            go_wp2
            go_ret
            exact ⟨_, _, k + m, rfl, hn.out, hrow3.out.tris, HBW.out _ hrow3.out.2⟩
  · have cc := fun w1 hb => right_no_at g h (w.alloc (.cells #[.int .i64 g.sector, .int .i64 g.slot, .int .i64 g.data, .int .i64 g.quota, .int .i64 g.tries, .int .i64 g.life] 23)) w1 hb
    have hs : g.sectors = 0 := by rw [Geo.sectors, if_neg h]
    have HZ := hid hs
    clear h hs
    go_enter Try.func9, Try.ntmps9
    go_wp2_with (go_at_call 25; (with_reducible refine (cc _ hb0).mono ?_); rintro e w1 ⟨rfl, hb1⟩)
    go_ret
    exact ⟨none, 0, 0, rfl, HZ.out.symm, .inl rfl, HB.out _ hb1⟩
theorem map_at (g : Geo) (w0 w : World) (hb : Below w0.heap.size w0 w) : Calls Try.prog 9 #[.agg #[.int .i64 g.sector, .int .i64 g.slot, .int .i64 g.data, .int .i64 g.quota, .int .i64 g.tries, .int .i64 g.life]] w fun e w' => ∃ a cap n, e = .returned (.slice a n cap) ∧ Hid ((n : Int) = g.sectors) ∧ Below w0.heap.size w0 w' :=
  (map_any g w).mono fun _ _ ⟨a, c, n, he, hn, _, hw⟩ => ⟨a, c, n, he, hid hn, hb.trans (hw.mono hb.size)⟩
end Go.Proofs.Ytcigijhoeghnnaa.geom
/- The reference's drive in the memory, and its contract: bad. No condition. -/
namespace Go.Proofs.Ytcigijhoeghnnaa.drive
open Go.RowKit Go.Proofs.Ytcigijhoeghnnaa.flash Go.Proofs.Ytcigijhoeghnnaa.geom Go.Proofs.Ytcigijhoeghnnaa.word
set_option linter.unusedVariables false

/-- the reference's flash becomes F; only what the flash had in S turns -/
def RTurn (S : Nat → Prop) (b : Nat) (F : Fl) (w w' : World) : Prop :=
  ∃ S', RefAt S' b F w' ∧ (∀ x, S' x → x < w'.heap.size ∧ (S x ∨ w.heap.size ≤ x)) ∧ Only S w w'
section
variable {S : Nat → Prop} {b : Nat} {F G : Fl} {w w1 w' : World}
theorem RefAt.clip {S : Nat → Prop} (h : RefAt S b F w) : RefAt (fun x => S x ∧ x < w.heap.size) b F w := by
  obtain ⟨cm, gW, cW, gV, cV, h⟩ := h
  exact ⟨_, _, _, _, _, h.clip⟩
theorem RTurn.of (h : RefAt S b F w) (k : Below w.heap.size w w') : RTurn S b F w w' :=
  ⟨_, RefAt.clip (h.later k), fun x hx => ⟨hx.2, .inl hx.1⟩, Only.of k⟩
theorem RTurn.before (hb : Below w.heap.size w w1) (k : RTurn S b F w1 w') : RTurn S b F w w' := by
  obtain ⟨S', h1, h2, h3⟩ := k
  exact ⟨S', h1, fun x hx => ⟨(h2 x hx).1, (h2 x hx).2.imp id fun h => Nat.le_trans hb.size h⟩, (Only.of hb).next h3 fun x hx _ => hx⟩
theorem RTurn.later (k : RTurn S b F w w1) (hb : Below w1.heap.size w1 w') : RTurn S b F w w' := by
  obtain ⟨S', h1, h2, h3⟩ := k
  exact ⟨S', h1.later hb, fun x hx => ⟨Nat.lt_of_lt_of_le (h2 x hx).1 hb.size, (h2 x hx).2⟩, h3.later hb⟩
theorem RTurn.join {S' : Nat → Prop} (h2 : ∀ x, S' x → x < w1.heap.size ∧ (S x ∨ w.heap.size ≤ x)) (h3 : Only S w w1) (k : RTurn S' b G w1 w') : RTurn S b G w w' := by
  obtain ⟨S2, k1, k2, k3⟩ := k
  refine ⟨S2, k1, fun x hx => ⟨(k2 x hx).1, ?_⟩, h3.next k3 fun x hx hlt => ?_⟩
  · rcases (k2 x hx).2 with h | h
    · exact (h2 x h).2
    · exact .inr (Nat.le_trans h3.size h)
  · rcases (h2 x hx).2 with h | h
    · exact h
    · omega
theorem RTurn.wide {T : Nat → Prop} (k : RTurn S b F w w') (h : ∀ x, S x → T x) : RTurn T b F w w' := by
  obtain ⟨S', h1, h2, h3⟩ := k
  exact ⟨S', h1, fun x hx => ⟨(h2 x hx).1, (h2 x hx).2.imp (h x) id⟩, h3.mono fun x hx _ => h x hx⟩
theorem RTurn.next (k : RTurn S b F w w1) (h : ∀ S', RefAt S' b F w1 → (∀ x, S' x → x < w1.heap.size ∧ (S x ∨ w.heap.size ≤ x)) → RTurn S' b G w1 w') : RTurn S b G w w' := by
  obtain ⟨S', h1, h2, h3⟩ := k
  obtain ⟨S2, k1, k2, k3⟩ := h S' h1 h2
  refine ⟨S2, k1, fun x hx => ⟨(k2 x hx).1, ?_⟩, h3.next k3 fun x hx hlt => ?_⟩
  · rcases (k2 x hx).2 with h | h
    · exact (h2 x h).2
    · exact .inr (Nat.le_trans h3.size h)
  · rcases (h2 x hx).2 with h | h
    · exact h
    · omega
end
/-- the reference's drive at block d: over its flash at b, with the geometry g -/
structure RDriveAt (S : Nat → Prop) (d b : Nat) (g : Geo) (F : Fl) (w : World) : Prop where
  blk : Block w d 52 [.pointer (some ⟨b, 0, none⟩), .int .i64 g.sector, .int .i64 g.slot, .int .i64 g.data, .int .i64 g.quota, .int .i64 g.tries, .int .i64 g.life]
  fl : RefAt S b F w
  nd : ¬ S d
section
variable {S T : Nat → Prop} {d b : Nat} {g : Geo} {F G : Fl} {w w1 w' : World}
theorem RDriveAt.later (h : RDriveAt S d b g F w) (k : Below w.heap.size w w') : RDriveAt S d b g F w' := ⟨h.blk.later k, h.fl.later k, h.nd⟩
theorem RDriveAt.cells (h : RDriveAt S d b g F w) : w.cell? ⟨d, 0, none⟩ = some (.pointer (some ⟨b, 0, none⟩)) ∧ w.cell? ⟨d, 1, none⟩ = some (.int .i64 g.sector) ∧ w.cell? ⟨d, 2, none⟩ = some (.int .i64 g.slot) ∧ w.cell? ⟨d, 3, none⟩ = some (.int .i64 g.data) ∧ w.cell? ⟨d, 4, none⟩ = some (.int .i64 g.quota) ∧ w.cell? ⟨d, 5, none⟩ = some (.int .i64 g.tries) ∧ w.cell? ⟨d, 6, none⟩ = some (.int .i64 g.life) := by
  simp only [h.blk.cell]
  exact ⟨rfl, rfl, rfl, rfl, rfl, rfl, rfl⟩
theorem RDriveAt.lt (h : RDriveAt S d b g F w) : d < w.heap.size := h.blk.lt
/-- the drive, behind a call that turned the flash -/
theorem RDriveAt.turn (h : RDriveAt S d b g F w) (k : RTurn S b G w w') : ∃ S', RDriveAt S' d b g G w' ∧ (∀ x, S' x → x < w'.heap.size ∧ (S x ∨ w.heap.size ≤ x)) ∧ Only S w w' := by
  obtain ⟨S', h1, h2, h3⟩ := k
  refine ⟨S', ⟨h.blk.only h3 h.nd, h1, fun hs => ?_⟩, h2, h3⟩
  rcases (h2 d hs).2 with h4 | h4
  · exact h.nd h4
  · have := h.lt; omega
/-- what is done behind a call that turned the flash -/
theorem RDriveAt.next {H : Fl} (h : RDriveAt S d b g F w) (k : RTurn S b G w w1) (r : ∀ S', RDriveAt S' d b g G w1 → (∀ x, S' x → x < w1.heap.size ∧ (S x ∨ w.heap.size ≤ x)) → RTurn S' b H w1 w') : RTurn S b H w w' :=
  k.next fun S' h1 h2 => r S' ⟨h.blk.only (by obtain ⟨_, _, _, h3⟩ := k; exact h3) h.nd, h1, fun hs => by
    rcases (h2 d hs).2 with h4 | h4
    · exact h.nd h4
    · have := h.lt; omega⟩ h2
end
theorem RDriveAt.seen {S : Nat → Prop} {d b : Nat} {g : Geo} {F : Fl} {w : World} (h : RDriveAt S d b g F w) : Hid (∀ w', Below w.heap.size w w' → w'.cell? ⟨d, 0, none⟩ = some (.pointer (some ⟨b, 0, none⟩)) ∧ w'.cell? ⟨d, 1, none⟩ = some (.int .i64 g.sector) ∧ w'.cell? ⟨d, 2, none⟩ = some (.int .i64 g.slot) ∧ w'.cell? ⟨d, 3, none⟩ = some (.int .i64 g.data) ∧ w'.cell? ⟨d, 4, none⟩ = some (.int .i64 g.quota) ∧ w'.cell? ⟨d, 5, none⟩ = some (.int .i64 g.tries) ∧ w'.cell? ⟨d, 6, none⟩ = some (.int .i64 g.life)) :=
  hid fun w' hb => (h.later hb).cells
set_option maxHeartbeats 4000000 in
theorem refBad_any {S : Nat → Prop} {d b : Nat} {g : Geo} {F : Fl} {w : World} (h : RDriveAt S d b g F w) (hr : g.Right) (s a n : Int) (ha : a ≤ 9223372036854775807) :
    Calls Try.prog 50 #[.pointer (some ⟨d, 0, none⟩), .int .i64 s, .int .i64 a, .int .i64 n] w fun e w' => e = .returned (.int .i64 (bad F g s a n)) ∧ Below w.heap.size w w' := by
  have HS := h.seen
  have hk0 := HS.out w (Below.refl _ _)
  have hd : ∀ w', Below w.heap.size w w' → w'.cell? ⟨b, 4, none⟩ = some (.bool F.dark) := fun w' hb => by
    obtain ⟨cm, gW, cW, gV, cV, h⟩ := (h.later hb).fl
    exact h.cell.2.2.2.2.1
  have cm : Calls Try.prog 9 #[.agg #[.int .i64 g.sector, .int .i64 g.slot, .int .i64 g.data, .int .i64 g.quota, .int .i64 g.tries, .int .i64 g.life]] w (MapRes g w) := map_any g w
  have hd0 := hd w (Below.refl _ _)
  obtain ⟨⟨r1, r2⟩, _⟩ := id hr
  have HSEC : Hid (g.sectors = g.sectors) := hid rfl
  obtain ⟨v, hv⟩ : ∃ v, Hid (bad F g s a n = v) := ⟨_, rfl⟩
  rw [hv.out]
  have HD := hid hd
  clear h hd
  unfold bad at hv
  generalize hT : g.sectors = T at *
  have HT := hid hT
  clear hT
  by_cases h1 : s < 0
  · go_enter Try.func50, Try.ntmps50
    go_wp2
    go_ret
    exact ⟨ret_int (by rw [← hv.out, if_neg (by omega)]), Below.refl _ _⟩
  by_cases h2 : T ≤ s
  · go_enter Try.func50, Try.ntmps50
    go_wp2_with (go_at_call 9; (with_reducible refine cm.mono ?_); rintro e w1 ⟨ma, mc, mn, rfl, hmn, _, hb1⟩; rw [HT.out] at hmn; have hk1 := HS.out w1 hb1; have hd1 := HD.out w1 hb1)
    go_ret
    exact ⟨ret_int (by rw [← hv.out, if_neg (by omega)]), hb1⟩
  by_cases h3 : a < 0
  · go_enter Try.func50, Try.ntmps50
    go_wp2_with (go_at_call 9; (with_reducible refine cm.mono ?_); rintro e w1 ⟨ma, mc, mn, rfl, hmn, _, hb1⟩; rw [HT.out] at hmn; have hk1 := HS.out w1 hb1; have hd1 := HD.out w1 hb1)
    go_ret
    exact ⟨ret_int (by rw [← hv.out, if_neg (by omega)]), hb1⟩
  by_cases h4 : g.sector < a
  · go_enter Try.func50, Try.ntmps50
    go_wp2_with (go_at_call 9; (with_reducible refine cm.mono ?_); rintro e w1 ⟨ma, mc, mn, rfl, hmn, _, hb1⟩; rw [HT.out] at hmn; have hk1 := HS.out w1 hb1; have hd1 := HD.out w1 hb1)
    go_ret
    exact ⟨ret_int (by rw [← hv.out, if_neg (by omega)]), hb1⟩
  by_cases h5 : n < 0
  · go_enter Try.func50, Try.ntmps50
    go_wp2_with (go_at_call 9; (with_reducible refine cm.mono ?_); rintro e w1 ⟨ma, mc, mn, rfl, hmn, _, hb1⟩; rw [HT.out] at hmn; have hk1 := HS.out w1 hb1; have hd1 := HD.out w1 hb1)
    go_ret
    exact ⟨ret_int (by rw [← hv.out, if_neg (by omega)]), hb1⟩
  by_cases h6 : g.sector - a < n
  · go_enter Try.func50, Try.ntmps50
    go_wp2_with (go_at_call 9; (with_reducible refine cm.mono ?_); rintro e w1 ⟨ma, mc, mn, rfl, hmn, _, hb1⟩; rw [HT.out] at hmn; have hk1 := HS.out w1 hb1; have hd1 := HD.out w1 hb1)
    go_ret
    exact ⟨ret_int (by rw [← hv.out, if_neg (by omega)]), hb1⟩
  have hv2 : Hid ((if F.dark = true then (10 : Int) else 0) = v) := hid (by rw [← hv.out, if_pos (show 0 ≤ s ∧ s < T ∧ 0 ≤ a ∧ 0 ≤ n ∧ n ≤ g.sector - a by omega)])
  cases hdk : F.dark
  all_goals
    rw [hdk] at hv2 HD hd0
    clear hv hdk
    go_enter Try.func50, Try.ntmps50
    go_wp2_with (go_at_call 9; (with_reducible refine cm.mono ?_); rintro e w1 ⟨ma, mc, mn, rfl, hmn, _, hb1⟩; rw [HT.out] at hmn; have hk1 := HS.out w1 hb1; have hd1 := HD.out w1 hb1)
    go_ret
    exact ⟨ret_int (by rw [← hv2.out]; rfl), hb1⟩
theorem refBad_from {S : Nat → Prop} {d b : Nat} {g : Geo} {F : Fl} {w0 w : World} (h : RDriveAt S d b g F w0) (hr : g.Right) (s a n : Int) (ha : a ≤ 9223372036854775807) (hb : Below w0.heap.size w0 w) :
    Calls Try.prog 50 #[.pointer (some ⟨d, 0, none⟩), .int .i64 s, .int .i64 a, .int .i64 n] w fun e w' => e = .returned (.int .i64 (bad F g s a n)) ∧ Below w0.heap.size w0 w' :=
  (refBad_any (h.later hb) hr s a n ha).mono fun _ _ ⟨he, hw⟩ => ⟨he, hb.trans (hw.mono hb.size)⟩
end Go.Proofs.Ytcigijhoeghnnaa.drive
/- append onto a row of the call's own, from whatever slice, and where the new row lies. No condition. -/
namespace Go.Proofs.Ytcigijhoeghnnaa
open Go.RowKit
set_option linter.unusedVariables false

/-- append onto a row of the call's own, from whatever slice, and where the new row lies -/
theorem wpList_append_at_from {P : Program} {w : World} {ops : Array Oper} {rest : List Oper} {o : Oper} {a : Act} {Q : Exit → Act → World → Prop} (hgd : o.guard = none) (s x : Operand) (t : TypeId)
    (ho : o.op = .call { callee := .builtin .append, args := #[s, x], argTypes := #[t, t] })
    (base : Nat) (e : TypeId) (i : TypeInfo) (z : Value) (bytes : Nat) (ht : P.underlying t = some (.slice e)) (hi : P.info? e = some i) (hz : i.zero = some z)
    (hsize : i.size = 1) (hby : i.bytes = bytes) (hzs : z.cells.size = 1)
    (v : Value) (n : Nat) (xs : List Value) (hs : a.eval s = v) (hown : w.ownsRow base e 1 v n xs)
    (ap : Option Addr) (m c : Nat) (news : List Value) (hx : a.eval x = .slice ap m c) (hl : news.length = m)
    (hnews : m = 0 ∨ ∃ ad, ap = some ad ∧ ∀ j u, news[j]? = some u → w.cell? (ad.add j) = some u) (h1 : ∀ u ∈ news, u.oneCell' = true)
    (h63 : n + m ≤ maxLen) (hbytes : (n + m) * bytes ≤ 140737488355328) (hbase : base ≤ w.heap.size)
    (h : ∀ v' w', w'.ownsRow base e 1 v' (n + m) (xs ++ news) → w.grownBy w' v.ownBlock → (v'.ownBlock = v.ownBlock ∨ v'.ownBlock = some w.heap.size) → wpList P ops Q rest (a.put o.dst v') w') : wpList P ops Q (o :: rest) a w := by
  by_cases hm : m = 0
  · subst hm
    obtain rfl : news = [] := List.eq_nil_of_length_eq_zero hl
    obtain ⟨bp, cp, rfl, hcp⟩ := ownsRow_slice hown
    have hsrc : Src P i.size t (.slice ap 0 c) 0 [] w := by
      cases ap with
      | none => exact Src.ofNil w ht c
      | some ad => exact Src.ofSlice w ht ad 0 c [] (by simp) (by simp) (by simp)
    have hrun := run_append_nothing w t t o.type e i ht hi bp n cp hcp _ hsrc
    refine wpList_plain hgd fun K hK => ?_
    unfold Oper.wp
    simp [execOp, ho, resolve, invoke, builtin, hs, hx, hrun, Result.andThen]
    exact hK _ _ (h _ w (by simpa using hown) (grown_refl _ _) (.inl rfl))
  · rcases hnews with h0 | ⟨ad, rfl, hc⟩
    · exact absurd h0 hm
    · exact wpList_append_own_at w hgd s x t ho base e i z 1 bytes ht hi hz hsize hby hzs (by decide) v n xs hs hown ad m c news hx (by omega) hc h1 h63 hbytes hbase (fun v' w' h2 h3 _ h5 => h v' w' h2 h3 h5)

end Go.Proofs.Ytcigijhoeghnnaa
/- The flash of a geometry, when it is new. No condition. -/
namespace Go.Proofs.Ytcigijhoeghnnaa.drive
open Go.Proofs.Ytcigijhoeghnnaa.flash Go.Proofs.Ytcigijhoeghnnaa.geom Go.Proofs.Ytcigijhoeghnnaa.word
set_option linter.unusedVariables false

/-- the flash of a geometry, when it is new -/
def first (g : Geo) : Fl := Fl.fresh g.sectors.toNat g.sector.toNat
theorem right_bounds {g : Geo} (h : g.Right) : (64 ≤ g.sector ∧ g.sector ≤ 1024) ∧ (11 ≤ g.sectors ∧ g.sectors ≤ 194) := by
  have hs : g.sectors = 2 + 2 * g.slot + g.data := by unfold Geo.sectors; rw [if_pos h]
  unfold Geo.Right at h
  omega
theorem first_ok {g : Geo} (h : g.Right) : (first g).Ok := by
  have := right_bounds h
  exact Fl.Ok.fresh (by omega) (by omega) (by omega) (by omega)
theorem first_fit {g : Geo} (h : g.Right) : Fit (first g) g := by
  have := right_bounds h
  refine ⟨h, ?_, ?_⟩
  · simp only [first, Fl.fresh, List.length_replicate]; omega
  · simp only [first, Fl.fresh]; omega
end Go.Proofs.Ytcigijhoeghnnaa.drive
/- A region whose order is open: operations that look at no memory are taken first, in an order that the prover names; the others stand in one row. No condition. -/
namespace Go.Proofs.Ytcigijhoeghnnaa.perm
open Go

section
variable {P : Program} {ops : Array Oper} {md : Region.Mode}

/-- an operation that yields a value, or nothing -/
def plainOp : Op → Bool
  | .move _ | .assign _ | .load _ _ | .binOp .. | .unOp .. | .slice .. | .fieldAddr .. | .indexAddr .. | .index .. | .extract .. | .convert .. => true
  | .nilCheck _ => true
  | _ => false
theorem plain_value {ρ : Operand → Value} {o : Oper} {w w' : World} {n : Next} (h : plainOp o.op = true) (hr : (execOp ρ o).run P w = .ok n w') : ∃ u, n = .value u := by
  have key : ∀ (s : Sem Value), (do let x ← s; pure (Next.value x) : Sem Next).run P w = .ok n w' → ∃ u, n = .value u := fun s hs => by
    rw [Sem.run_bind] at hs
    cases hq : s.run P w with
    | ok u w1 => rw [hq] at hs; simp [Result.andThen] at hs; exact ⟨u, hs.1.symm⟩
    | halt x w1 => rw [hq] at hs; simp [Result.andThen] at hs
  unfold execOp at hr
  cases ho : o.op <;> rw [ho] at h hr <;> simp only [plainOp] at h <;> try cases h
  case move x => simp at hr; exact ⟨_, hr.1.symm⟩
  case assign x => simp at hr; exact ⟨_, hr.1.symm⟩
  case nilCheck x =>
    dsimp only at hr
    split at hr
    · simp [runtimePanic, Sem.run_bind, Result.andThen] at hr
    · simp [runtimePanic] at hr
    · simp [runtimePanic] at hr
    · split at hr
      · simp [runtimePanic] at hr
      · simp only [Sem.run_bind] at hr
        generalize Sem.run P program _ = r1 at hr
        cases r1 with
        | halt x w1 => simp [Result.andThen] at hr
        | ok p w1 =>
          simp only [Result.andThen] at hr
          generalize Sem.run P (nilAhead _ _ _ _) _ = r2 at hr
          cases r2 with
          | halt x w2 => simp at hr
          | ok q w2 =>
            simp only at hr
            split at hr
            · simp [unsupported, Result.andThen] at hr
            · simp at hr; exact ⟨_, hr.1.symm⟩
      · simp at hr; exact ⟨_, hr.1.symm⟩
    · simp at hr; exact ⟨_, hr.1.symm⟩
  all_goals exact key _ hr

theorem yieldsIf_of_in {o : Oper} {v : Value} {a : Act} (hp : plainOp o.op = true) (hy : YieldsIn P ops (fun _ => True) o v a) : YieldsIf P ops (fun _ => True) o v a := by
  rcases hy with ⟨hw, hv⟩ | hy
  · refine .inl ⟨hw, fun w' _ => ?_⟩
    have h3 := hv w' trivial
    unfold Oper.quietAt at h3
    generalize hr : (execOp a.eval o).run P w' = r at h3
    cases r with
    | halt x w2 => simp only [Oper.quietUpon] at h3
    | ok n w2 =>
      obtain ⟨u, rfl⟩ := plain_value hp hr
      simp only [Oper.quietUpon] at h3
      rw [h3.1, h3.2]
  · exact .inr hy

def lexFirst (md : Region.Mode) (ops : Array Oper) (F : Array Bool → Bool) : List Nat → Array Bool → Bool
  | [], listed => F listed
  | k :: is, listed => (Region.ready md ops listed).contains k && Region.free md ops listed k && ((ops[k]?).map (fun o => plainOp o.op) == some true) && lexFirst md ops F is (listed.setIfInBounds k true)
def seqOf (md : Region.Mode) (ops : Array Oper) : List Nat → Array Bool → Bool
  | [], listed => (Region.ready md ops listed).isEmpty
  | k :: js, listed => decide (Region.ready md ops listed = [k]) && decide (k < ops.size) && seqOf md ops js (listed.setIfInBounds k true)
def permB (md : Region.Mode) (ops : Array Oper) (is js : List Nat) : Bool :=
  Region.noSelect ops && decide (is.length + js.length = ops.size) && lexFirst md ops (seqOf md ops js) is (Array.replicate ops.size false)
def nth : List Oper → Nat → List Oper
  | [], _ => []
  | o :: _, 0 => [o]
  | _ :: l, k + 1 => nth l k
def pickOps (ops : List Oper) : List Nat → List Oper
  | [] => []
  | k :: is => nth ops k ++ pickOps ops is
theorem nth_of : ∀ {l : List Oper} {k : Nat} {o : Oper}, l[k]? = some o → nth l k = [o]
  | [], k, o, h => by simp at h
  | _ :: _, 0, o, h => by simp at h; simp [nth, h]
  | _ :: l, k + 1, o, h => by simp only [nth]; exact nth_of (by simpa using h)

theorem wpAny_seqOf {Q : Exit → Act → World → Prop} {l : List Oper} : ∀ (js : List Nat) (listed : Array Bool) (a : Act) (w : World), seqOf md l.toArray js listed = true →
    wpList P l.toArray Q (pickOps l js) a w → wpAny P md l.toArray Q js.length listed a w
  | [], _, _, _, hB, h => ⟨by simpa [seqOf] using hB, h⟩
  | k :: js, listed, a, w, hB, h => by
    simp only [seqOf, Bool.and_eq_true, decide_eq_true_eq] at hB
    obtain ⟨⟨hr, hk⟩, hB'⟩ := hB
    have hk' : k < l.length := by simpa using hk
    have h0 : l.toArray[k]? = some l[k] := by simp [hk']
    have e : pickOps l (k :: js) = l[k] :: pickOps l js := by simp [pickOps, nth_of (show l[k]? = some l[k] by simp [hk'])]
    rw [e] at h
    refine ⟨fun h1 => (by rw [hr] at h1; cases h1), fun i hi => ?_⟩
    rw [hr] at hi
    have hik : i = k := by simpa using hi
    subst hik
    have hw : wpOp P l.toArray Q i (wpList P l.toArray Q (pickOps l js)) a w := by unfold wpOp; simp only [h0]; exact h
    exact wpOp_mono (fun a' w' h' => wpAny_seqOf js _ a' w' hB' h') hw

theorem first_ops {Q : Exit → Act → World → Prop} {Lq : Act → Prop} {l : List Oper} {w : World} (F : Array Bool → Bool) (g : Nat) (hsel : Region.noSelect l.toArray = true)
    (hQ : ∀ c a a' w, Q (.panic c) a w → Q (.panic c) a' w) (hK : ∀ listed a, F listed = true → Lq a → wpAny P md l.toArray Q g listed a w) :
    ∀ (is : List Nat) (listed : Array Bool) (a : Act), lexFirst md l.toArray F is listed = true → wpQuiet P l.toArray (fun _ => True) Lq (pickOps l is) a →
      wpAnyH P md l.toArray Q (fun _ => True) (is.length + g) listed a w
  | [], listed, a, hB, h => by
    simp only [List.length_nil, Nat.zero_add]
    exact tail.held_of_any _ _ _ _ (hK _ _ (by simpa [lexFirst] using hB) h)
  | k :: is, listed, a, hB, h => by
    simp only [lexFirst, Bool.and_eq_true] at hB
    obtain ⟨⟨⟨hr, hf⟩, hp⟩, hB'⟩ := hB
    have hp' : (l.toArray[k]?).map (fun o => plainOp o.op) = some true := by simpa using hp
    obtain ⟨o, h0, ho⟩ := Option.map_eq_some_iff.1 hp'
    have hl0 : l[k]? = some o := by simpa using h0
    have e : pickOps l (k :: is) = o :: pickOps l is := by simp [pickOps, nth_of hl0]
    rw [e] at h
    have hst : qOp P l.toArray (fun _ => True) k (wpQuiet P l.toArray (fun _ => True) Lq (pickOps l is)) a := by unfold qOp; simp only [h0]; exact h
    obtain ⟨v, hy, hK'⟩ := yieldsIn_of_qOp h0 hst
    rw [show (k :: is).length + g = (is.length + g) + 1 from by simp only [List.length_cons]; omega]
    exact wpAnyH_take h0 hsel hf hr (fun c a w h => hQ c _ _ w h) (yieldsIf_of_in ho hy) trivial (first_ops F g hsel hQ hK is _ _ hB' hK')

/-- the operations 'is' look at no memory and are taken first; the others, 'js', stand in one row; nothing panics -/
theorem region {id : Nat} {Q : Exit → Act → World → Prop} {a : Act} {w : World} {l : List Oper} (is js : List Nat) (hmx : P.follows .mixedOrders = true) (hB : permB .any l.toArray is js = true)
    (h : wpQuiet P l.toArray (fun _ => True) (fun a' => wpList P l.toArray (NoPanic Q) (pickOps l js) a' w.drew) (pickOps l is) a) : (Code.region id l.toArray true).wp P Q a w := by
  simp only [permB, Bool.and_eq_true, decide_eq_true_eq] at hB
  obtain ⟨⟨hsel, hlen⟩, hlex⟩ := hB
  refine wp_region_noPanic (wp_region_held (S := fun _ => True) hmx ?_)
  have key := first_ops (md := .any) (Q := NoPanic Q) (w := { w with drawn := w.drawn + 1 }) (seqOf .any l.toArray js) js.length hsel (fun c a a' w h => h)
    (fun listed a' hF hL => wpAny_seqOf js listed a' _ hF hL) is _ a hlex h
  rwa [hlen] at key
end
end Go.Proofs.Ytcigijhoeghnnaa.perm
/- Contracts of bits.Mul of 1 and a small number, and of slices.Repeat of one word, for at most 2^20 times. -/
namespace Go.Proofs.Ytcigijhoeghnnaa.flash
open Go.RowKit Go.Proofs.Ytcigijhoeghnnaa.word
set_option linter.unusedVariables false

theorem mul64_any (n : Nat) (hn : n < 4294967296) (w : World) : Calls Try.prog 64 #[.int .u64 1, .int .u64 n] w (Quiet (.tuple #[.int .u64 0, .int .u64 n]) w) := by
  have e1 : bits .and .u64 (n : Int) 4294967295 = (n : Int) := by
    have := u64_and_nat n 4294967295 (by omega) (by omega)
    rw [show n &&& 4294967295 = n % 2 ^ 32 from Nat.and_two_pow_sub_one_eq_mod n 32, Nat.mod_eq_of_lt (by omega)] at this
    exact this
  have e2 : bits .and .u64 1 4294967295 = 1 := by decide +kernel
  have e3 : bits .and .u64 0 4294967295 = 0 := by decide +kernel
  have e4 : (n : Int) / 4294967296 = 0 := by omega
  go_enter Try.func64, Try.ntmps64
  go_wp2
  go_ret2
  exact ⟨rfl, 0, rfl⟩
theorem mul_any (n : Nat) (hn : n < 4294967296) (w : World) : Calls Try.prog 47 #[.int .u64 1, .int .u64 n] w (Quiet (.tuple #[.int .u64 0, .int .u64 n]) w) := by
  have c := mul64_any n hn w
  go_enter Try.func47, Try.ntmps47
  go_wp2_with (go_at_call 64; (with_reducible refine c.mono ?_); rintro e w' ⟨rfl, m, rfl⟩)
  go_ret2
  exact ⟨rfl, _, rfl⟩

theorem own_block {w : World} {base e n g : Nat} {xs : List Value} (h : w.ownsRow base e 1 (.slice (some ⟨g, 0, none⟩) n n) n xs) : Block w g e xs := by
  obtain ⟨hl, hr⟩ := h
  rcases hr with ⟨hv, h0⟩ | ⟨g', cap, cur, hv, hb, hg, h1, h2, h3, h4⟩
  · cases hv
  · cases hv
    unfold Block
    rw [hg, ← h4, List.take_of_length_le (by simp [h3])]
theorem info_u32 : (Try.prog.info? 55).map (·.size) = some 1 := by kernel_rfl
/-- v, k times, then 0 -/
def part (v k N : Nat) : List Value := List.replicate k (.int .u32 (v : Int)) ++ List.replicate (N - k) (.int .u32 0)
theorem part_step (v k N c : Nat) (h : k + c ≤ N) : put (part v k N) k (List.replicate c (.int .u32 (v : Int))) = part v (k + c) N := by
  have := put_mid (List.replicate k (.int .u32 (v : Int))) (List.replicate c (.int .u32 0)) (List.replicate (N - (k + c)) (.int .u32 0)) (List.replicate c (.int .u32 (v : Int))) (by simp)
  rw [List.append_assoc, List.replicate_append_replicate, show c + (N - (k + c)) = N - k by omega, List.length_replicate, List.replicate_append_replicate] at this
  exact this
theorem part_get (v k N j : Nat) (h : j < k) : (part v k N)[j]? = some (.int .u32 (v : Int)) := by
  rw [part, List.getElem?_append_left (by simpa using h)]
  simp [h]
theorem part_length (v k N : Nat) (h : k ≤ N) : (part v k N).length = N := by simp [part]; omega
set_option maxHeartbeats 16000000 in
set_option maxRecDepth 20000 in
theorem repeat_any (g0 v N : Nat) (w : World) (hc : w.cell? ⟨g0, 0, none⟩ = some (.int .u32 v)) (hg0 : g0 < w.heap.size) (h1 : 1 ≤ N) (h2 : N ≤ 1048576) :
    Calls Try.prog 26 #[.slice (some ⟨g0, 0, none⟩) 1 1, .int .i64 N] w fun e w' => ∃ g, e = .returned (.slice (some ⟨g, 0, none⟩) N N) ∧ w.heap.size ≤ g ∧ Row w' 55 .u32 g N (List.replicate N v) ∧ Below w.heap.size w w' := by
  have cm := mul_any N (by omega) w
  obtain ⟨i0, hi, hz0, hz1, hz2⟩ := info_parts u32_info
  go_enter Try.func26, Try.ntmps26
  go_wp2_with (first
    | (go_at_call 47; (with_reducible refine cm.mono ?_); rintro e w' ⟨rfl, m, rfl⟩)
    | (at_make; refine wpList_make_full _ rfl _ _ 39 rfl w.heap.size 55 i0 (.int .u32 0) 1 Try.underlying39 hi hz0 hz1 _ _ _ _ N rfl rfl rfl rfl (by rw [hz2]; omega) (by unfold maxLen; omega) (Nat.le_refl _) ?_))
  intro w1 hown hgrow
  have hB := own_block hown
  rw [toList_madeCells_one] at hB
  have hb1 : Below w.heap.size w w1 := Below.grown ((Below.refl _ w).trans (below_drewN (Below.refl _ _) m)) hgrow (Nat.le_refl _) (fun k h => by cases h)
  have hc1 : w1.cell? ⟨g0, 0, none⟩ = some (.int .u32 v) := by rw [hb1.cell (p := ⟨g0, 0, none⟩) hg0]; exact hc
  have hsz : (w.drewN m).heap.size = w.heap.size := rfl
  have HCS : Hid (∀ j u, [Value.int .u32 (v : Int)][j]? = some u → w1.cell? ((⟨g0, 0, none⟩ : Addr).add j) = some u) := hid (by
    intro j u hj
    have hj1 : j = 0 := by have := (List.getElem?_eq_some_iff.1 hj).1; simp at this; omega
    subst hj1
    cases hj
    rw [Addr.add_lit]
    exact hc1)
  have HN : Hid ([Value.int .u32 (v : Int)].length = Nat.min 1 N) := hid (by rw [show Nat.min 1 N = 1 from Nat.min_eq_left h1]; rfl)
  have HTH : Hid (w1.there w.heap.size 0 [Value.int .u32 (v : Int)].length) := hid (hB.there 0 1 (by simp; omega))
  have H1 : Hid (∀ u ∈ [Value.int .u32 (v : Int)], u.oneCell' = true) := hid (one_cell rfl)
  have HB := hid hB
  have Hb1 := hid hb1
  clear hB hb1 hown hgrow hc hc1
  go_wp2_with (with_reducible refine wpList_copy_block rfl (.tmp 31) (.tmp 32) 39 39 rfl 55 Try.underlying39 info_u32 w.heap.size 0 N N ⟨g0, 0, none⟩ 1 1 rfl rfl [.int .u32 (v : Int)] HN.out HCS.out HTH.out H1.out ?_)
  have hB2 : Block (w1.setCells w.heap.size 0 [.int .u32 (v : Int)]) w.heap.size 55 (part v 1 N) := by
    have h := HB.out.setCells (vs := [.int .u32 (v : Int)]) (o := 0)
    have e := part_step v 0 N 1 (by omega)
    have e0 : part v 0 N = List.replicate N (Value.int .u32 0) := by simp [part]
    rw [e0] at e
    rw [Nat.zero_add] at e
    rw [← e]
    exact h
  have hb2 := below_setCells Hb1.out (Nat.le_refl _) 0 [.int .u32 (v : Int)]
  have HB2 := hid hB2
  have Hb2 := hid hb2
  clear hB2 hb2 HB Hb1 HCS HN HTH H1
  go_loopw [8] (fun i wr => ∃ k : Nat, 1 ≤ k ∧ k ≤ N ∧ i = .int .i64 (k : Int) ∧ Hid (Block wr w.heap.size 55 (part v k N)) ∧ Hid (Below w.heap.size w wr)) (fun i _ => N - (intOf i).toNat)
  case atStart => exact ⟨1, Nat.le_refl _, h1, rfl, HB2, Hb2⟩
  case round =>
    obtain ⟨k, hk1, hk, rfl, hB, hb⟩ := hrel
    by_cases hlt : k < N
    · obtain ⟨c, hcd⟩ : ∃ c, c = Nat.min k (N - k) := ⟨_, rfl⟩
      have hcd' : c = if k ≤ N - k then k else N - k := by rw [hcd]; exact Nat.min_def
      have hc1 : 1 ≤ c ∧ c ≤ k ∧ k + c ≤ N := by split at hcd' <;> omega
      have i1 : (k : Int) ≤ N := by omega
      have i2 : (k : Int) < N := by omega
      have i3 : ¬ (N = k) := by omega
      have HCS : Hid (∀ j u, (List.replicate c (Value.int .u32 (v : Int)))[j]? = some u → wr.drew.cell? ((⟨w.heap.size, 0, none⟩ : Addr).add j) = some u) := hid (by
        intro j u hj
        have hj1 : j < c := by have := (List.getElem?_eq_some_iff.1 hj).1; simpa using this
        simp [hj1] at hj
        subst hj
        rw [Addr.add_lit, Nat.zero_add]
        have := hB.out.cell j
        rw [part_get v k N j (by omega)] at this
        exact this)
      have HN : Hid ((List.replicate c (Value.int .u32 (v : Int))).length = Nat.min k (N - k)) := hid (by rw [List.length_replicate]; exact hcd)
      have HTH : Hid (wr.drew.there w.heap.size k (List.replicate c (Value.int .u32 (v : Int))).length) := hid ((hB.out.drewN 1).there k _ (by rw [part_length v k N hk, List.length_replicate]; omega))
      have H1 : Hid (∀ u ∈ List.replicate c (Value.int .u32 (v : Int)), u.oneCell' = true) := hid (fun u hu => by rw [List.eq_of_mem_replicate hu]; rfl)
      have hgl : ((List.replicate c (Value.int .u32 (v : Int))).length : Int) = c := by rw [List.length_replicate]
      clear hcd hcd'
      go_wp2
      refine perm.region [0, 1, 2, 3, 4, 5, 6] [7, 8, 9] (by kernel_rfl) (by kernel_rfl) ?_
      simp only [perm.pickOps, perm.nth, List.cons_append, List.nil_append]
      repeat (go_big_quiet_step (fail))
      refine wpQuiet_nil ?_
      go_wp2_with (with_reducible refine wpList_copy_block rfl (.tmp 41) (.tmp 44) 39 39 rfl 55 Try.underlying39 info_u32 w.heap.size k (N - k) (N - k) ⟨w.heap.size, 0, none⟩ k N rfl rfl (List.replicate c (.int .u32 (v : Int))) HN.out HCS.out HTH.out H1.out ?_)
      refine NoPanic.normal ?_
      go_wp2
      refine ⟨⟨k + c, by omega, hc1.2.2, by go_num, ?_, hid (below_setCells (below_drewN hb.out 1) (Nat.le_refl _) k _)⟩, by simp [intOf]; omega⟩
      have := (hB.out.drewN 1).setCells (vs := List.replicate c (.int .u32 (v : Int))) (o := k)
      rw [part_step v k N c hc1.2.2] at this
      exact hid this
    · obtain rfl : k = N := by omega
      go_wp2
      go_ret
      have hB' := hB.out
      refine ⟨w.heap.size, rfl, Nat.le_refl _, ⟨[], ?_, by simp, by unfold maxLen; omega⟩, hb.out⟩
      simpa [part] using hB'
end Go.Proofs.Ytcigijhoeghnnaa.flash
/- A region whose order is open, walked by a schedule that the prover names: an operation that yields the same in every world in which what there was stands is taken first; else the one that may come up comes up. No condition. -/
namespace Go.Proofs.Ytcigijhoeghnnaa.plan
open Go Go.RowKit

section
variable {P : Program} {md : Region.Mode} {Q : Exit → Act → World → Prop} {l : List Oper}

/-- what is still to be shown, when 'listed' have come up -/
def Rest (P : Program) (md : Region.Mode) (l : List Oper) (Q : Exit → Act → World → Prop) (f : Nat) (listed : Array Bool) (a : Act) (w : World) : Prop :=
  wpAnyH P md l.toArray (NoPanic Q) (Below w.heap.size w) f listed a w

theorem weaken {S S' : World → Prop} (hS : ∀ w, S' w → S w) : ∀ (f : Nat) (listed : Array Bool) (a : Act) (w : World), wpAnyH P md l.toArray Q S' f listed a w → wpAnyH P md l.toArray Q S f listed a w
  | 0, _, _, _, h => h
  | f + 1, _, _, _, h => ⟨h.1, fun i hi => wpOp_mono (fun a' w' h' => ⟨hS _ h'.1, weaken hS f _ a' w' h'.2⟩) (h.2 i hi)⟩

theorem Rest.first {f : Nat} {listed : Array Bool} {a : Act} {w : World} (i : Nat) (o : Oper) (v : Value) (hi : l[i]? = some o) (hs : Region.noSelect l.toArray = true) (hf : Region.free md l.toArray listed i = true)
    (hr : (Region.ready md l.toArray listed).contains i = true) (hw : Region.wanted o (yielded l.toArray a.tmps) = true) (hv : ∀ w', Below w.heap.size w w' → (execOp a.eval o).run P w' = .ok (.value v) w')
    (h : Rest P md l Q f (listed.setIfInBounds i true) (a.put o.dst v) w) : Rest P md l Q (f + 1) listed a w :=
  wpAnyH_take (by simpa using hi) hs hf hr (fun c a' w' h => h) (.inl ⟨hw, hv⟩) (Below.refl _ _) h

theorem Rest.value {f : Nat} {listed : Array Bool} {a : Act} {w : World} (i : Nat) (o : Oper) (v : Value) (hi : l[i]? = some o) (hr : Region.ready md l.toArray listed = [i])
    (hw : Region.wanted o (yielded l.toArray a.tmps) = true) (hv : (execOp a.eval o).run P w = .ok (.value v) w)
    (h : Rest P md l Q f (listed.setIfInBounds i true) (a.put o.dst v) w) : Rest P md l Q (f + 1) listed a w := by
  refine wpAnyH_all hr (by simp) fun j hj => ?_
  obtain rfl : j = i := by simpa using hj
  have hi' : l.toArray[j]? = some o := by simpa using hi
  unfold wpOp
  simp only [hi', hw, if_true, Oper.wp, hv, Oper.upon_value]
  exact .inl ⟨Below.refl _ _, h⟩

theorem Rest.call {f : Nat} {listed : Array Bool} {a : Act} {w : World} (i : Nat) (o : Oper) (F : FuncId) (args : Array Value) (hi : l[i]? = some o) (hr : Region.ready md l.toArray listed = [i])
    (hw : Region.wanted o (yielded l.toArray a.tmps) = true) (hv : (execOp a.eval o).run P w = .ok (.enter F args) w)
    (h : Calls P F args w fun e w' => ∃ v, e = .returned v ∧ Below w.heap.size w w' ∧ Rest P md l Q f (listed.setIfInBounds i true) (a.put o.dst v) w') : Rest P md l Q (f + 1) listed a w := by
  refine wpAnyH_all hr (by simp) fun j hj => ?_
  obtain rfl : j = i := by simpa using hj
  have hi' : l.toArray[j]? = some o := by simpa using hi
  unfold wpOp
  simp only [hi', hw, if_true, Oper.wp, hv, Oper.upon]
  refine .inl (h.mono ?_)
  rintro e w' ⟨v, rfl, hb, hR⟩
  exact ⟨hb, weaken (fun w'' hb' => hb.trans (hb'.mono hb.size)) _ _ _ _ hR⟩

theorem Rest.done {listed : Array Bool} {a : Act} {w : World} (hr : Region.ready md l.toArray listed = []) (h : Q .normal a w) : Rest P md l Q 0 listed a w := ⟨hr, NoPanic.normal h⟩

theorem exec_load {o : Oper} {a : Act} {w : World} {ty : TypeId} {x : Operand} {b : Nat} {cs : List Value} {d : TypeDesc} (ho : o.op = .load ty x) (hx : a.eval x = .pointer (some ⟨b, 0, none⟩)) (hc : w.rangeAt b 0 cs)
    (hu : P.underlying ty = some d) (hd : d.isRow = true) (hi : (P.info? ty).map (·.size) = some cs.length) : (execOp a.eval o).run P w = .ok (.value (.agg cs.toArray)) w := by
  unfold execOp
  simp [ho, hx, run_loadAt_mid w b 0 ty cs d hc hu hd hi]
theorem exec_convert {o : Oper} {a : Act} {w : World} {s d : TypeId} {x : Operand} {v u : Value} (ho : o.op = .convert s d x) (hx : a.eval x = v) (hr : (convert s d v).run P w = .ok u w) : (execOp a.eval o).run P w = .ok (.value u) w := by
  unfold execOp
  simp [ho, hx, hr]
theorem exec_eql {o : Oper} {a : Act} {w : World} {t t' : TypeId} {x y : Operand} {vx vy u : Value} (ho : o.op = .binOp .eql t x y t') (hx : a.eval x = vx) (hy : a.eval y = vy)
    (hg : (eqGuard .eql t x y vx vy).run P w = .ok () w) (hr : (binOp .eql t vx vy).run P w = .ok u w) : (execOp a.eval o).run P w = .ok (.value u) w := by
  unfold execOp
  simp [ho, hx, hy, Sem.run_bind, hg, hr]
theorem region {id : Nat} {a : Act} {w : World} (hmx : P.follows .mixedOrders = true) (h : Rest P .any l Q l.length (Array.replicate l.length false) a w.drew) : (Code.region id l.toArray true).wp P Q a w := by
  refine wp_region_noPanic (wp_region_held (S := Below w.drew.heap.size w.drew) hmx ?_)
  have e : l.toArray.size = l.length := by simp
  rw [e]
  exact h
end
end Go.Proofs.Ytcigijhoeghnnaa.plan
/- A region whose order is open: two calls that make memory, one behind the other, and two new variables that may come up at any time. Whatever the order, behind the four the state is the same but for where the variables lie. No condition. -/
namespace Go.Proofs.Ytcigijhoeghnnaa.plan
open Go Go.RowKit
set_option linter.unusedVariables false

theorem put_same (a : Act) (d : Nat) (u v : Value) : (a.put (some d) u).put (some d) v = a.put (some d) v := by
  simp [Act.put]
theorem put_comm (a : Act) (d e : Nat) (u v : Value) (h : d ≠ e) : (a.put (some d) u).put (some e) v = (a.put (some e) v).put (some d) u := by
  simp only [Act.put, Act.mk.injEq, and_true]
  exact Array.setIfInBounds_comm u v h
theorem wanted_none {o : Oper} (h : o.guard = none) (y : Nat → Option Value) (hy : True) : ∀ t, Region.wanted o t = true := by
  intro t
  unfold Region.wanted
  rw [h]

section
variable {P : Program} {md : Region.Mode} {Q : Exit → Act → World → Prop} {l : List Oper}

theorem exec_load_int {o : Oper} {a : Act} {w : World} {ty : TypeId} {x : Operand} {ad : Addr} {k : IntKind} {n : Int} (ho : o.op = .load ty x) (hx : a.eval x = .pointer (some ad)) (hc : w.cell? ad = some (.int k n)) (hu : ∀ w', (isAgg ty).run P w' = .ok false w') :
    (execOp a.eval o).run P w = .ok (.value (.int k n)) w := by
  unfold execOp
  rw [ho]
  simp only [hx]
  go_simp
/-- each operation that may come up goes on -/
theorem every {S : World → Prop} {f : Nat} {listed : Array Bool} {a : Act} {w : World} (hne : Region.ready md l.toArray listed ≠ [])
    (h : ∀ i ∈ Region.ready md l.toArray listed, ∃ o, l[i]? = some o ∧ o.guard = none ∧
      ((∃ v w1, (execOp a.eval o).run P w = .ok (.value v) w1 ∧ S w1 ∧ wpAnyH P md l.toArray (NoPanic Q) S f (listed.setIfInBounds i true) (a.put o.dst v) w1) ∨
       (∃ F args, (execOp a.eval o).run P w = .ok (.enter F args) w ∧ Calls P F args w fun e w' => ∃ v, e = .returned v ∧ S w' ∧ wpAnyH P md l.toArray (NoPanic Q) S f (listed.setIfInBounds i true) (a.put o.dst v) w'))) :
    wpAnyH P md l.toArray (NoPanic Q) S (f + 1) listed a w := by
  refine wpAnyH_all rfl hne fun i hi => ?_
  obtain ⟨o, ho, hg, h⟩ := h i hi
  have hi' : l.toArray[i]? = some o := by simpa using ho
  have hw : Region.wanted o (yielded l.toArray a.tmps) = true := by unfold Region.wanted; rw [hg]
  unfold wpOp
  rcases h with ⟨v, w1, hv, hb, hR⟩ | ⟨F, args, hv, hc⟩
  · simp only [hi', hw, if_true, Oper.wp, hv, Oper.upon]
    exact .inl ⟨hb, hR⟩
  · simp only [hi', hw, if_true, Oper.wp, hv, Oper.upon]
    refine .inl (hc.mono ?_)
    rintro e w' ⟨v, rfl, hb, hR⟩
    exact ⟨hb, hR⟩

/-- a store of a row into a block of the call's own, the only operation that may come up -/
theorem store {f : Nat} {listed : Array Bool} {a : Act} {w0 w : World} (B i : Nat) (o : Oper) (ty : TypeId) (x y : Operand) (g : Nat) (t : TypeId) (cs : List Value) (cells : Array Value) (hi : l[i]? = some o) (hg : o.guard = none) (ho : o.op = .store ty x y) (hd : o.dst = none)
    (hr : Region.ready md l.toArray listed = [i]) (hx : a.eval x = .pointer (some ⟨g, 0, none⟩)) (hy : a.eval y = .agg cells) (hb : Block w g t cs) (hl : cs.length = cells.size) (hs : (P.info? ty).map (·.size) = some cells.size) (h1 : cells.all (·.oneCell') = true)
    (h0 : Below B w0 w) (hB : B ≤ g)
    (hS : ∀ w', Below B w0 w' → Block w' g t cells.toList → (∀ g' t' cs', g' ≠ g → Block w g' t' cs' → Block w' g' t' cs') → wpAnyH P md l.toArray (NoPanic Q) (Below B w0) f (listed.setIfInBounds i true) a w') :
    wpAnyH P md l.toArray (NoPanic Q) (Below B w0) (f + 1) listed a w := by
  refine wpAnyH_all hr (by simp) fun j hj => ?_
  obtain rfl : j = i := by simpa using hj
  have hi' : l.toArray[j]? = some o := by simpa using hi
  have hw : Region.wanted o (yielded l.toArray a.tmps) = true := by unfold Region.wanted; rw [hg]
  have hrun : (execOp a.eval o).run P w = .ok .skip (w.setCells g 0 cells.toList) := by
    unfold execOp
    simp [ho, hx, hy, run_storeAt_mid w g 0 ty cells (hb.there 0 cells.size (by omega)) hs h1]
  have hbl : Below B w0 (w.setCells g 0 cells.toList) := below_setCells h0 hB _ _
  unfold wpOp
  simp only [hi', hw, if_true, Oper.wp, hrun, Oper.upon]
  refine .inl ⟨hbl, ?_⟩
  rw [hd]
  refine hS _ hbl ?_ fun g' t' cs' hne h' => h'.aparts g 0 _ hne
  have := hb.setCells (vs := cells.toList) (o := 0)
  rwa [put_all _ _ (by simpa using hl)] at this

/-- the frame, with the two results and the two variables' addresses -/
def at4 (a0 : Act) (d2 d5 d6 d7 : Nat) (v2 v5 p6 p7 : Value) : Act := (((a0.put (some d2) v2).put (some d5) v5).put (some d6) p6).put (some d7) p7
/-- what is known when some of the four have come up -/
structure Inv4 (w0 : World) (t : TypeId) (Z : List Value) (V2 V5 : Value) (b2 b5 b6 b7 : Bool) (v2 v5 p6 p7 : Value) (w : World) : Prop where
  below : Below w0.heap.size w0 w
  c2 : b2 = true → v2 = V2
  c5 : b5 = true → v5 = V5
  a6 : b6 = true → ∃ g, p6 = .pointer (some ⟨g, 0, none⟩) ∧ w0.heap.size ≤ g ∧ Block w g t Z
  a7 : b7 = true → ∃ g, p7 = .pointer (some ⟨g, 0, none⟩) ∧ w0.heap.size ≤ g ∧ Block w g t Z
  ne : b6 = true → b7 = true → p6 ≠ p7
theorem Inv4.later {w0 w w' : World} {t : TypeId} {Z : List Value} {V2 V5 : Value} {b2 b5 b6 b7 : Bool} {v2 v5 p6 p7 : Value} (h : Inv4 w0 t Z V2 V5 b2 b5 b6 b7 v2 v5 p6 p7 w) (hb : Below w.heap.size w w') :
    Inv4 w0 t Z V2 V5 b2 b5 b6 b7 v2 v5 p6 p7 w' :=
  ⟨h.below.trans (hb.mono h.below.size), h.c2, h.c5, fun e => (h.a6 e).imp fun g ⟨h1, h2, h3⟩ => ⟨h1, h2, h3.later hb⟩, fun e => (h.a7 e).imp fun g ⟨h1, h2, h3⟩ => ⟨h1, h2, h3.later hb⟩, h.ne⟩

theorem four (a0 : Act) (w0 : World) (t : TypeId) (Z : List Value) (V2 V5 : Value) (d2 d5 d6 d7 : Nat) (o2 o5 o6 o7 : Oper) (F : FuncId) (x2 x5 : Array Value)
    (n25 : d2 ≠ d5) (n26 : d2 ≠ d6) (n27 : d2 ≠ d7) (n56 : d5 ≠ d6) (n57 : d5 ≠ d7) (n67 : d6 ≠ d7)
    (l2 : l[2]? = some o2) (l5 : l[5]? = some o5) (l6 : l[6]? = some o6) (l7 : l[7]? = some o7)
    (g2 : o2.guard = none) (g5 : o5.guard = none) (g6 : o6.guard = none) (g7 : o7.guard = none)
    (s2 : o2.dst = some d2) (s5 : o5.dst = some d5) (s6 : o6.dst = some d6) (s7 : o7.dst = some d7)
    (hready : ∀ b2 b5 b6 b7, (b5 = true → b2 = true) → (b2 && b5 && b6 && b7) = false →
      Region.ready md l.toArray #[true, true, b2, true, true, b5, b6, b7, false, false] = (if b2 = true then (if b5 = true then [] else [5]) else [2]) ++ ((if b6 = true then [] else [6]) ++ (if b7 = true then [] else [7])))
    (r2 : ∀ v2 v5 p6 p7 w, (execOp (at4 a0 d2 d5 d6 d7 v2 v5 p6 p7).eval o2).run P w = .ok (.enter F x2) w)
    (r5 : ∀ v2 v5 p6 p7 w, (execOp (at4 a0 d2 d5 d6 d7 v2 v5 p6 p7).eval o5).run P w = .ok (.enter F x5) w)
    (r6 : ∀ v2 v5 p6 p7 w, (execOp (at4 a0 d2 d5 d6 d7 v2 v5 p6 p7).eval o6).run P w = .ok (.value (.pointer (some ⟨w.heap.size, 0, none⟩))) (w.alloc (.cells Z.toArray t)))
    (r7 : ∀ v2 v5 p6 p7 w, (execOp (at4 a0 d2 d5 d6 d7 v2 v5 p6 p7).eval o7).run P w = .ok (.value (.pointer (some ⟨w.heap.size, 0, none⟩))) (w.alloc (.cells Z.toArray t)))
    (k2 : ∀ w, Calls P F x2 w fun e w' => e = .returned V2 ∧ Below w.heap.size w w') (k5 : ∀ w, Calls P F x5 w fun e w' => e = .returned V5 ∧ Below w.heap.size w w')
    (rest : ∀ g g' w', w0.heap.size ≤ g → w0.heap.size ≤ g' → g ≠ g' → Block w' g t Z → Block w' g' t Z → Below w0.heap.size w0 w' →
      wpAnyH P md l.toArray (NoPanic Q) (Below w0.heap.size w0) 2 #[true, true, true, true, true, true, true, true, false, false] (at4 a0 d2 d5 d6 d7 V2 V5 (.pointer (some ⟨g, 0, none⟩)) (.pointer (some ⟨g', 0, none⟩))) w') :
    ∀ (n : Nat) (b2 b5 b6 b7 : Bool) (v2 v5 p6 p7 : Value) (w : World), (b5 = true → b2 = true) → n = (if b2 = true then 0 else 1) + (if b5 = true then 0 else 1) + (if b6 = true then 0 else 1) + (if b7 = true then 0 else 1) →
      Inv4 w0 t Z V2 V5 b2 b5 b6 b7 v2 v5 p6 p7 w →
      wpAnyH P md l.toArray (NoPanic Q) (Below w0.heap.size w0) (n + 2) #[true, true, b2, true, true, b5, b6, b7, false, false] (at4 a0 d2 d5 d6 d7 v2 v5 p6 p7) w := by
  have e2 : ∀ v2 v5 p6 p7 v, (at4 a0 d2 d5 d6 d7 v2 v5 p6 p7).put (some d2) v = at4 a0 d2 d5 d6 d7 v v5 p6 p7 := by
    intro v2 v5 p6 p7 v
    unfold at4
    rw [put_comm _ d7 d2 _ _ n27.symm, put_comm _ d6 d2 _ _ n26.symm, put_comm _ d5 d2 _ _ n25.symm, put_same]
  have e5 : ∀ v2 v5 p6 p7 v, (at4 a0 d2 d5 d6 d7 v2 v5 p6 p7).put (some d5) v = at4 a0 d2 d5 d6 d7 v2 v p6 p7 := by
    intro v2 v5 p6 p7 v
    unfold at4
    rw [put_comm _ d7 d5 _ _ n57.symm, put_comm _ d6 d5 _ _ n56.symm, put_same]
  have e6 : ∀ v2 v5 p6 p7 v, (at4 a0 d2 d5 d6 d7 v2 v5 p6 p7).put (some d6) v = at4 a0 d2 d5 d6 d7 v2 v5 v p7 := by
    intro v2 v5 p6 p7 v
    unfold at4
    rw [put_comm _ d7 d6 _ _ n67.symm, put_same]
  have e7 : ∀ v2 v5 p6 p7 v, (at4 a0 d2 d5 d6 d7 v2 v5 p6 p7).put (some d7) v = at4 a0 d2 d5 d6 d7 v2 v5 p6 v := by
    intro v2 v5 p6 p7 v
    unfold at4
    rw [put_same]
  have hal : ∀ w : World, Below w.heap.size w (w.alloc (.cells Z.toArray t)) := fun w => (Below.refl _ w).alloc (Nat.le_refl _) _
  intro n
  induction n with
  | zero =>
    intro b2 b5 b6 b7 v2 v5 p6 p7 w h25 hn inv
    cases b2 <;> cases b5 <;> cases b6 <;> cases b7 <;> simp at hn
    obtain rfl := inv.c2 rfl
    obtain rfl := inv.c5 rfl
    obtain ⟨g, rfl, hg, hB⟩ := inv.a6 rfl
    obtain ⟨g', rfl, hg', hB'⟩ := inv.a7 rfl
    exact rest g g' w hg hg' (by rintro rfl; exact inv.ne rfl rfl rfl) hB hB' inv.below
  | succ n ih =>
    intro b2 b5 b6 b7 v2 v5 p6 p7 w h25 hn inv
    have hall : (b2 && b5 && b6 && b7) = false := by
      cases b2 <;> cases b5 <;> cases b6 <;> cases b7 <;> simp at hn ⊢
    have hr := hready b2 b5 b6 b7 h25 hall
    refine every ?_ ?_
    · rw [hr]
      cases b2 <;> cases b5 <;> cases b6 <;> cases b7 <;> simp at hall ⊢
    · rw [hr]
      intro i hi
      simp only [List.mem_append] at hi
      rcases hi with hi | hi | hi
      · cases b2 with
        | false =>
          obtain rfl : i = 2 := by simpa using hi
          obtain rfl : b5 = false := by cases b5 <;> simp at h25 ⊢
          refine ⟨o2, l2, g2, .inr ⟨F, x2, r2 _ _ _ _ _, (k2 w).mono ?_⟩⟩
          rintro e w' ⟨rfl, hb⟩
          refine ⟨V2, rfl, (inv.later hb).below, ?_⟩
          rw [s2, e2]
          have i' := inv.later hb
          exact ih true false b6 b7 V2 v5 p6 p7 w' (by simp) (by simp at hn ⊢; omega) ⟨i'.below, fun _ => rfl, i'.c5, i'.a6, i'.a7, i'.ne⟩
        | true =>
          cases b5 with
          | true => simp at hi
          | false =>
            obtain rfl : i = 5 := by simpa using hi
            refine ⟨o5, l5, g5, .inr ⟨F, x5, r5 _ _ _ _ _, (k5 w).mono ?_⟩⟩
            rintro e w' ⟨rfl, hb⟩
            refine ⟨V5, rfl, (inv.later hb).below, ?_⟩
            rw [s5, e5]
            have i' := inv.later hb
            exact ih true true b6 b7 v2 V5 p6 p7 w' (by simp) (by simp at hn ⊢; omega) ⟨i'.below, i'.c2, fun _ => rfl, i'.a6, i'.a7, i'.ne⟩
      · cases b6 with
        | true => simp at hi
        | false =>
          obtain rfl : i = 6 := by simpa using hi
          refine ⟨o6, l6, g6, .inl ⟨_, _, r6 _ _ _ _ _, (inv.later (hal w)).below, ?_⟩⟩
          rw [s6, e6]
          have i' := inv.later (hal w)
          refine ih b2 b5 true b7 v2 v5 _ p7 _ h25 (by simp at hn ⊢; omega) ⟨i'.below, i'.c2, i'.c5, fun _ => ⟨_, rfl, inv.below.size, Block.new w t Z⟩, i'.a7, fun _ e7 => ?_⟩
          obtain ⟨g, rfl, _, hB⟩ := inv.a7 e7
          have := hB.lt
          simp only [ne_eq, Value.pointer.injEq, Option.some.injEq, Addr.mk.injEq, and_true]
          omega
      · cases b7 with
        | true => simp at hi
        | false =>
          obtain rfl : i = 7 := by simpa using hi
          refine ⟨o7, l7, g7, .inl ⟨_, _, r7 _ _ _ _ _, (inv.later (hal w)).below, ?_⟩⟩
          rw [s7, e7]
          have i' := inv.later (hal w)
          refine ih b2 b5 b6 true v2 v5 p6 _ _ h25 (by simp at hn ⊢; omega) ⟨i'.below, i'.c2, i'.c5, i'.a6, fun _ => ⟨_, rfl, inv.below.size, Block.new w t Z⟩, fun e6 _ => ?_⟩
          obtain ⟨g, rfl, _, hB⟩ := inv.a6 e6
          have := hB.lt
          simp only [ne_eq, Value.pointer.injEq, Option.some.injEq, Addr.mk.injEq, and_true]
          omega
theorem Rest.to4 {f : Nat} {listed : Array Bool} {a : Act} {w : World} (d2 d5 d6 d7 : Nat) (hf : f = 6) (hl : listed = #[true, true, false, true, true, false, false, false, false, false]) (ha : at4 a d2 d5 d6 d7 undef undef undef undef = a)
    (h : wpAnyH P md l.toArray (NoPanic Q) (Below w.heap.size w) 6 #[true, true, false, true, true, false, false, false, false, false] (at4 a d2 d5 d6 d7 undef undef undef undef) w) : Rest P md l Q f listed a w := by
  subst hf hl
  rw [ha] at h
  exact h
end
end Go.Proofs.Ytcigijhoeghnnaa.plan
