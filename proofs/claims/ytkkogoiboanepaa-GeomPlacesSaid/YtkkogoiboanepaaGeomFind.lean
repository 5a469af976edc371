/- Contract of layer 8's reference: Find. No condition. -/
import Derived.Test.YtkkogoiboanepaaGeomMap
import Derived.Laws.StructEq
namespace Go.Proofs.Ytkkogoiboanepaa.geom
open Go.RowKit
set_option linter.unusedVariables false

theorem eq_tri (a b c x y z : Int) (w : World) : (Op.equalIn 10000 39 (.agg #[.int .i64 a, .int .i64 b, .int .i64 c]) (.agg #[.int .i64 x, .int .i64 y, .int .i64 z])).run Try.prog w = .ok (a == x && (b == y && c == z)) w := by
  have u3 := Try.underlying3
  have a3 := Try.isAgg3
  have z3 := Try.sizeOf3
  rw [show (10000 : Nat) = 9999 + 1 from rfl, Op.equalIn]
  simp only [Sem.run_bind, run_underlying Try.underlying39, Result.andThen_ok]
  simp only [Std.Legacy.Range.forIn_eq_forIn_range', Std.Legacy.Range.size, Nat.sub_zero, Nat.add_sub_cancel, Nat.div_one, List.range'_succ, List.range'_zero, List.forIn_cons, List.forIn_nil]
  go_simp
  by_cases h1 : a = x <;> by_cases h2 : b = y <;> by_cases h3 : c = z <;> simp [h1, h2, h3]
theorem eq_yes (t : Int × Int × Int) (x y z : Int) (h : t = (x, y, z)) (w : World) : (Op.equalIn 10000 39 (.agg #[.int .i64 t.1, .int .i64 t.2.1, .int .i64 t.2.2]) (.agg #[.int .i64 x, .int .i64 y, .int .i64 z])).run Try.prog w = .ok true w := by
  subst h
  rw [eq_tri]; simp
theorem eq_no (t : Int × Int × Int) (x y z : Int) (h : t ≠ (x, y, z)) (w : World) : (Op.equalIn 10000 39 (.agg #[.int .i64 t.1, .int .i64 t.2.1, .int .i64 t.2.2]) (.agg #[.int .i64 x, .int .i64 y, .int .i64 z])).run Try.prog w = .ok false w := by
  obtain ⟨a, b, c⟩ := t
  rw [eq_tri]
  congr 1
  simp only [Bool.and_eq_false_iff, beq_eq_false_iff_ne]
  by_cases h1 : a = x
  · by_cases h2 : b = y
    · subst h1; subst h2; right; right; intro h3; subst h3; exact h rfl
    · exact .inr (.inl h2)
  · exact .inl h1
def FindRes (g : Geo) (t : Int × Int × Int) (w : World) (e : Ending) (w' : World) : Prop := ∃ v, e = .returned (.int .i64 v) ∧ g.IsFind t v ∧ Below w.heap.size w w'
theorem find_any (g : Geo) (kind a b : Int) (w : World) : Calls Try.prog 10 #[.agg #[.int .i64 g.sector, .int .i64 g.slot, .int .i64 g.data, .int .i64 g.quota, .int .i64 g.tries, .int .i64 g.life], .int .i64 kind, .int .i64 a, .int .i64 b] w (FindRes g (kind, a, b) w) := by
  have HS := hid (six g w)
  have HB := hid (belowNew g w)
  have hb0 : Below (w.alloc (.cells #[.int .i64 g.sector, .int .i64 g.slot, .int .i64 g.data, .int .i64 g.quota, .int .i64 g.tries, .int .i64 g.life] 23)).heap.size (w.alloc (.cells #[.int .i64 g.sector, .int .i64 g.slot, .int .i64 g.data, .int .i64 g.quota, .int .i64 g.tries, .int .i64 g.life] 23)) (w.alloc (.cells #[.int .i64 g.sector, .int .i64 g.slot, .int .i64 g.data, .int .i64 g.quota, .int .i64 g.tries, .int .i64 g.life] 23)) := Below.refl _ _
  have cm := fun w1 => map_any g w1
  have hsz : g.sectors ≤ 1000 := by
    unfold Geo.sectors
    by_cases hr : g.Right
    · rw [if_pos hr]; unfold Geo.Right at hr; omega
    · rw [if_neg hr]; omega
  go_enter Try.func10, Try.ntmps10
  go_wp2_with (go_at_call 8; (with_reducible refine (cm _).mono ?_); rintro e w1 ⟨ra, rc, n, rfl, hn, ht, hb1⟩; have hn1 : n ≤ 1000 := (by omega); have HT := hid ht; have HN := hid hn; have HB1 := hid hb1; clear hn ht hb1 hsz)
  go_loop [10] (fun i => ∃ k : Nat, i = .int .i64 (k : Int) ∧ k ≤ n ∧ Hid (∀ j : Nat, j < k → g.at (j : Int) ≠ (kind, a, b))) (fun i => n - (intOf i).toNat)
  case atStart => exact ⟨0, rfl, Nat.zero_le _, hid (fun j hj => by omega)⟩
  case round =>
    obtain ⟨k, rfl, hk, hno⟩ := hrel
    by_cases hlt : k < n
    · rcases HT.out with h0 | ⟨bb, rfl, hbb, hc⟩
      · omega
      · obtain ⟨c0, c1, c2⟩ := hc k hlt
        have h3 : k * 3 < n * 3 := by omega
        clear hc
        by_cases hh : g.at (k : Int) = (kind, a, b)
        · have he := eq_yes _ kind a b hh
          have HH := hid hh
          clear hh
          go_wp2
          go_ret
          exact ⟨k, rfl, .inl ⟨by omega, by have := HN.out; omega, HH.out⟩, HB.out _ HB1.out⟩
        · have he := eq_no _ kind a b hh
          have HH : Hid (∀ j : Nat, j < k + 1 → g.at (j : Int) ≠ (kind, a, b)) := hid (fun j hj => by
            by_cases hjk : j = k
            · subst hjk; exact hh
            · exact hno.out j (by omega))
          clear hh
          go_wp2
          go_round
          case rel => exact ⟨k + 1, by go_num, by omega, HH⟩
          case measure => simp [intOf]; omega
    · obtain rfl : k = n := by omega
      go_wp2
      go_ret
      exact ⟨-1, rfl, .inr ⟨rfl, fun j h0 h1 => by
        obtain ⟨m, rfl⟩ := Int.eq_ofNat_of_zero_le h0
        exact hno.out m (by have := HN.out; omega)⟩, HB.out _ HB1.out⟩
theorem find_ledger_at (g : Geo) (a : Int) (w0 w : World) (hb : Below w0.heap.size w0 w) : Calls Try.prog 10 #[.agg #[.int .i64 g.sector, .int .i64 g.slot, .int .i64 g.data, .int .i64 g.quota, .int .i64 g.tries, .int .i64 g.life], .int .i64 1, .int .i64 a, .int .i64 0] w fun e w' => e = .returned (.int .i64 (g.ledger a)) ∧ Below w0.heap.size w0 w' :=
  (find_any g 1 a 0 w).mono fun _ _ ⟨v, he, hf, hw⟩ => ⟨by rw [he, Geo.find_ledger hf], hb.trans (hw.mono hb.size)⟩
theorem find_chunk_at (g : Geo) (a b : Int) (w0 w : World) (hb : Below w0.heap.size w0 w) : Calls Try.prog 10 #[.agg #[.int .i64 g.sector, .int .i64 g.slot, .int .i64 g.data, .int .i64 g.quota, .int .i64 g.tries, .int .i64 g.life], .int .i64 2, .int .i64 a, .int .i64 b] w fun e w' => e = .returned (.int .i64 (g.chunk a b)) ∧ Below w0.heap.size w0 w' :=
  (find_any g 2 a b w).mono fun _ _ ⟨v, he, hf, hw⟩ => ⟨by rw [he, Geo.find_chunk hf], hb.trans (hw.mono hb.size)⟩
theorem find_page_at (g : Geo) (b : Int) (w0 w : World) (hb : Below w0.heap.size w0 w) : Calls Try.prog 10 #[.agg #[.int .i64 g.sector, .int .i64 g.slot, .int .i64 g.data, .int .i64 g.quota, .int .i64 g.tries, .int .i64 g.life], .int .i64 3, .int .i64 0, .int .i64 b] w fun e w' => e = .returned (.int .i64 (g.page b)) ∧ Below w0.heap.size w0 w' :=
  (find_any g 3 0 b w).mono fun _ _ ⟨v, he, hf, hw⟩ => ⟨by rw [he, Geo.find_page hf], hb.trans (hw.mono hb.size)⟩
theorem map_at (g : Geo) (w0 w : World) (hb : Below w0.heap.size w0 w) : Calls Try.prog 8 #[.agg #[.int .i64 g.sector, .int .i64 g.slot, .int .i64 g.data, .int .i64 g.quota, .int .i64 g.tries, .int .i64 g.life]] w fun e w' => ∃ a cap n, e = .returned (.slice a n cap) ∧ Hid ((n : Int) = g.sectors) ∧ Below w0.heap.size w0 w' :=
  (map_any g w).mono fun _ _ ⟨a, c, n, he, hn, _, hw⟩ => ⟨a, c, n, he, hid hn, hb.trans (hw.mono hb.size)⟩
end Go.Proofs.Ytkkogoiboanepaa.geom
