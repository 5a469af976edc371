/- Contracts and lemmas that the claims of this seat share: TypingHeirs, TypingRow, SchemaRefIx, SchemaExecF. Each says its own conditions. -/
import Derived.Test.YtiajpjkkopdmgaaCmH
import Derived.Test.YtiajpjkkopdmgaaCmE
import Derived.Test.YtiajpjkkopdmgaaCmC
import Derived.Test.YtiajpjkkopdmgaaCmF
import Derived.Test.YtiajpjkkopdmgaaCmG

namespace Go.Proofs.Ytiajpjkkopdmgaa.typing
open Go.RowKit Go.Proofs.Ytiajpjkkopdmgaa.schema
open Go.Proofs.Ytiajpjkkopdmgaa.field (Gives newB gives_from)
set_option linter.unusedVariables false

/-- a slice of fields in a block of their own, that no earlier block is; nil where there are none -/
def Out (L : List field.Fd) (w : World) (e : Ending) (w' : World) : Prop :=
  Below w.heap.size w w' ∧ ((L = [] ∧ e = .returned (.slice none 0 0)) ∨ (L ≠ [] ∧ ∃ g, w.heap.size ≤ g ∧ e = .returned (.slice (some ⟨g, 0, none⟩) L.length L.length) ∧ Block w' g 26 (fdV L)))
theorem Out.value {L : List field.Fd} {w w' : World} {e : Ending} (h : Out L w e w') : ∃ hv, e = .returned hv ∧ Below w.heap.size w w' ∧ ((L = [] ∧ hv = .slice none 0 0) ∨ (L ≠ [] ∧ ∃ g, w.heap.size ≤ g ∧ hv = .slice (some ⟨g, 0, none⟩) L.length L.length ∧ Block w' g 26 (fdV L))) := by
  obtain ⟨hb, ⟨h1, rfl⟩ | ⟨h1, g, h2, rfl, h3⟩⟩ := h
  · exact ⟨_, rfl, hb, .inl ⟨h1, rfl⟩⟩
  · exact ⟨_, rfl, hb, .inr ⟨h1, g, h2, rfl, h3⟩⟩
theorem new2 (w : World) (d1 d2 : Obj) (L : List field.Fd) : Below w.heap.size w (((w.alloc d1).alloc d2).alloc (.cells (fdV L).toArray 26)) ∧ Block (((w.alloc d1).alloc d2).alloc (.cells (fdV L).toArray 26)) (w.heap.size + 1 + 1) 26 (fdV L) := by
  have h1 := field.newB w d1
  have h2 := h1.alloc h1.size d2
  refine ⟨h2.alloc h2.size _, ?_⟩
  have := Block.new ((w.alloc d1).alloc d2) 26 (fdV L)
  rw [show ((w.alloc d1).alloc d2).heap.size = w.heap.size + 1 + 1 by simp] at this
  exact this
theorem new1 {B S : Nat} {w w1 : World} (hb : Below B w w1) (hB : B ≤ w1.heap.size) (hS : B ≤ S) (v1 v2 : Value) (L : List field.Fd) :
    Below B w (((w1.setCell ⟨S, 2, none⟩ v1).setCell ⟨S, 3, none⟩ v2).alloc (.cells (fdV L).toArray 26)) ∧ Block (((w1.setCell ⟨S, 2, none⟩ v1).setCell ⟨S, 3, none⟩ v2).alloc (.cells (fdV L).toArray 26)) w1.heap.size 26 (fdV L) := by
  have h1 := below_setCells (below_setCells hb hS 2 [v1]) hS 3 [v2]
  refine ⟨h1.alloc (by rw [size_setCells, size_setCells]; exact hB) _, ?_⟩
  have := Block.new ((w1.setCell ⟨S, 2, none⟩ v1).setCell ⟨S, 3, none⟩ v2) 26 (fdV L)
  rw [show ((w1.setCell ⟨S, 2, none⟩ v1).setCell ⟨S, 3, none⟩ v2).heap.size = w1.heap.size by simp] at this
  exact this
/-- the numbers of an OpSplit are small -/
def Bq (c : Ch) : Prop := (2 ≤ c.s.a ∧ c.s.a ≤ 1048576) ∧ (-1099511627776 ≤ c.old.hi ∧ c.old.hi ≤ 1099511627776)
set_option maxRecDepth 20000 in
set_option maxHeartbeats 1600000 in
theorem heirs_any (c : Ch) (ta : Option Addr) (tc : Nat) (la : Option Addr) (lc : Nat) (fa : Option Addr) (fc : Nat) (w : World) (hb4 : c.s.op = 4 → Bd c) (hb6 : c.s.op = 6 → Bq c) :
    Calls Try.prog 87 #[.agg #[.int .i64 c.s.op, .int .i64 c.s.fm, .int .i64 c.s.fd, .int .i64 c.s.pl, .int .i64 c.s.tt, .int .i64 c.s.a, .int .i64 c.s.b, .int .i64 c.s.f.id, .int .i64 c.s.f.kind, .int .i64 c.s.f.lo, .int .i64 c.s.f.hi, .int .i64 c.s.f.most, .int .i64 c.s.v.n, .string c.s.v.s, .slice ta c.s.t.length tc, .slice la c.s.l.length lc, .int .i64 c.fi, .slice fa c.L.length fc, .bool c.kn, .int .i64 c.at_, .int .i64 c.old.id, .int .i64 c.old.kind, .int .i64 c.old.lo, .int .i64 c.old.hi, .int .i64 c.old.most]] w (Out (heirs c) w) := by
  have HN := newB w (.cells #[.int .i64 c.s.op, .int .i64 c.s.fm, .int .i64 c.s.fd, .int .i64 c.s.pl, .int .i64 c.s.tt, .int .i64 c.s.a, .int .i64 c.s.b, .int .i64 c.s.f.id, .int .i64 c.s.f.kind, .int .i64 c.s.f.lo, .int .i64 c.s.f.hi, .int .i64 c.s.f.most, .int .i64 c.s.v.n, .string c.s.v.s, .slice ta c.s.t.length tc, .slice la c.s.l.length lc, .int .i64 c.fi, .slice fa c.L.length fc, .bool c.kn, .int .i64 c.at_, .int .i64 c.old.id, .int .i64 c.old.kind, .int .i64 c.old.lo, .int .i64 c.old.hi, .int .i64 c.old.most] 58)
  by_cases h2 : c.s.op = 2
  · have d2 := bt h2
    have hsp : heirs c = [] := by unfold heirs; simp [*]
    rw [hsp]
    clear hsp
    unfold Out
    clear hb4 hb6 h2
    go_enter Try.func87, Try.ntmps87
    go_wp2
    go_ret
    exact ⟨HN.alloc (by simp) _, .inl ⟨trivial, rfl⟩⟩
  · have d2 := bf h2
    by_cases h3 : c.s.op = 3
    · have d3 := bt h3
      have hsp : heirs c = [c.s.f] := by unfold heirs; simp [*]
      rw [hsp]
      clear hsp
      unfold Out
      clear hb4 hb6 h2 h3
      go_enter Try.func87, Try.ntmps87
      go_wp2
      go_ret
      exact ⟨(new2 w _ _ [c.s.f]).1, .inr ⟨by simp, _, by omega, rfl, (new2 w _ _ [c.s.f]).2⟩⟩
    · have d3 := bf h3
      by_cases h4 : c.s.op = 4
      · have d4 := bt h4
        have hsp : heirs c = [{ c.old with lo := low c, hi := high c }] := by unfold heirs; simp [*]
        rw [hsp]
        clear hsp
        have cS := scaled_any c ta tc la lc fa fc (((w.alloc (.cells #[.int .i64 c.s.op, .int .i64 c.s.fm, .int .i64 c.s.fd, .int .i64 c.s.pl, .int .i64 c.s.tt, .int .i64 c.s.a, .int .i64 c.s.b, .int .i64 c.s.f.id, .int .i64 c.s.f.kind, .int .i64 c.s.f.lo, .int .i64 c.s.f.hi, .int .i64 c.s.f.most, .int .i64 c.s.v.n, .string c.s.v.s, .slice ta c.s.t.length tc, .slice la c.s.l.length lc, .int .i64 c.fi, .slice fa c.L.length fc, .bool c.kn, .int .i64 c.at_, .int .i64 c.old.id, .int .i64 c.old.kind, .int .i64 c.old.lo, .int .i64 c.old.hi, .int .i64 c.old.most] 58))).alloc (.cells #[.int .i64 c.old.id, .int .i64 c.old.kind, .int .i64 c.old.lo, .int .i64 c.old.hi, .int .i64 c.old.most] 26)) (hb4 h4)
        unfold Gives at cS
        obtain ⟨Q1, hK1⟩ : ∃ K : Int, Hid (low c = K) := ⟨_, rfl⟩
        obtain ⟨Q2, hK2⟩ : ∃ K : Int, Hid (high c = K) := ⟨_, rfl⟩
        rw [hK1.out] at cS ⊢
        rw [hK2.out] at cS ⊢
        unfold Out
        clear hb4 hb6 h2 h3 h4
        have k0 : Block (((w.alloc (.cells #[.int .i64 c.s.op, .int .i64 c.s.fm, .int .i64 c.s.fd, .int .i64 c.s.pl, .int .i64 c.s.tt, .int .i64 c.s.a, .int .i64 c.s.b, .int .i64 c.s.f.id, .int .i64 c.s.f.kind, .int .i64 c.s.f.lo, .int .i64 c.s.f.hi, .int .i64 c.s.f.most, .int .i64 c.s.v.n, .string c.s.v.s, .slice ta c.s.t.length tc, .slice la c.s.l.length lc, .int .i64 c.fi, .slice fa c.L.length fc, .bool c.kn, .int .i64 c.at_, .int .i64 c.old.id, .int .i64 c.old.kind, .int .i64 c.old.lo, .int .i64 c.old.hi, .int .i64 c.old.most] 58))).alloc (.cells #[.int .i64 c.old.id, .int .i64 c.old.kind, .int .i64 c.old.lo, .int .i64 c.old.hi, .int .i64 c.old.most] 26)) w.heap.size 58 [.int .i64 c.s.op, .int .i64 c.s.fm, .int .i64 c.s.fd, .int .i64 c.s.pl, .int .i64 c.s.tt, .int .i64 c.s.a, .int .i64 c.s.b, .int .i64 c.s.f.id, .int .i64 c.s.f.kind, .int .i64 c.s.f.lo, .int .i64 c.s.f.hi, .int .i64 c.s.f.most, .int .i64 c.s.v.n, .string c.s.v.s, .slice ta c.s.t.length tc, .slice la c.s.l.length lc, .int .i64 c.fi, .slice fa c.L.length fc, .bool c.kn, .int .i64 c.at_, .int .i64 c.old.id, .int .i64 c.old.kind, .int .i64 c.old.lo, .int .i64 c.old.hi, .int .i64 c.old.most] := (Block.new w _ _).alloc _
        have k1 : Block (((w.alloc (.cells #[.int .i64 c.s.op, .int .i64 c.s.fm, .int .i64 c.s.fd, .int .i64 c.s.pl, .int .i64 c.s.tt, .int .i64 c.s.a, .int .i64 c.s.b, .int .i64 c.s.f.id, .int .i64 c.s.f.kind, .int .i64 c.s.f.lo, .int .i64 c.s.f.hi, .int .i64 c.s.f.most, .int .i64 c.s.v.n, .string c.s.v.s, .slice ta c.s.t.length tc, .slice la c.s.l.length lc, .int .i64 c.fi, .slice fa c.L.length fc, .bool c.kn, .int .i64 c.at_, .int .i64 c.old.id, .int .i64 c.old.kind, .int .i64 c.old.lo, .int .i64 c.old.hi, .int .i64 c.old.most] 58))).alloc (.cells #[.int .i64 c.old.id, .int .i64 c.old.kind, .int .i64 c.old.lo, .int .i64 c.old.hi, .int .i64 c.old.most] 26)) (w.heap.size + 1) 26 [.int .i64 c.old.id, .int .i64 c.old.kind, .int .i64 c.old.lo, .int .i64 c.old.hi, .int .i64 c.old.most] := by have := Block.new ((w.alloc (.cells #[.int .i64 c.s.op, .int .i64 c.s.fm, .int .i64 c.s.fd, .int .i64 c.s.pl, .int .i64 c.s.tt, .int .i64 c.s.a, .int .i64 c.s.b, .int .i64 c.s.f.id, .int .i64 c.s.f.kind, .int .i64 c.s.f.lo, .int .i64 c.s.f.hi, .int .i64 c.s.f.most, .int .i64 c.s.v.n, .string c.s.v.s, .slice ta c.s.t.length tc, .slice la c.s.l.length lc, .int .i64 c.fi, .slice fa c.L.length fc, .bool c.kn, .int .i64 c.at_, .int .i64 c.old.id, .int .i64 c.old.kind, .int .i64 c.old.lo, .int .i64 c.old.hi, .int .i64 c.old.most] 58))) 26 [.int .i64 c.old.id, .int .i64 c.old.kind, .int .i64 c.old.lo, .int .i64 c.old.hi, .int .i64 c.old.most]; simpa using this
        have kb : Below w.heap.size w (((w.alloc (.cells #[.int .i64 c.s.op, .int .i64 c.s.fm, .int .i64 c.s.fd, .int .i64 c.s.pl, .int .i64 c.s.tt, .int .i64 c.s.a, .int .i64 c.s.b, .int .i64 c.s.f.id, .int .i64 c.s.f.kind, .int .i64 c.s.f.lo, .int .i64 c.s.f.hi, .int .i64 c.s.f.most, .int .i64 c.s.v.n, .string c.s.v.s, .slice ta c.s.t.length tc, .slice la c.s.l.length lc, .int .i64 c.fi, .slice fa c.L.length fc, .bool c.kn, .int .i64 c.at_, .int .i64 c.old.id, .int .i64 c.old.kind, .int .i64 c.old.lo, .int .i64 c.old.hi, .int .i64 c.old.most] 58))).alloc (.cells #[.int .i64 c.old.id, .int .i64 c.old.kind, .int .i64 c.old.lo, .int .i64 c.old.hi, .int .i64 c.old.most] 26)) := HN.alloc (by simp) _
        have HR0 := hid k0.whole
        have K1 := hid k1
        have KB := hid kb
        clear k0 k1 kb
        have HI : Hid ((Try.prog.info? 58).map (·.size) = some ([.int .i64 c.s.op, .int .i64 c.s.fm, .int .i64 c.s.fd, .int .i64 c.s.pl, .int .i64 c.s.tt, .int .i64 c.s.a, .int .i64 c.s.b, .int .i64 c.s.f.id, .int .i64 c.s.f.kind, .int .i64 c.s.f.lo, .int .i64 c.s.f.hi, .int .i64 c.s.f.most, .int .i64 c.s.v.n, .string c.s.v.s, .slice ta c.s.t.length tc, .slice la c.s.l.length lc, .int .i64 c.fi, .slice fa c.L.length fc, .bool c.kn, .int .i64 c.at_, .int .i64 c.old.id, .int .i64 c.old.kind, .int .i64 c.old.lo, .int .i64 c.old.hi, .int .i64 c.old.most] : List Value).length) := hid ch_info
        go_enter Try.func87, Try.ntmps87
        go_wp2_with (first
          | (with_reducible refine wpList_load_mid rfl 58 (.tmp 1) rfl w.heap.size 0 rfl [.int .i64 c.s.op, .int .i64 c.s.fm, .int .i64 c.s.fd, .int .i64 c.s.pl, .int .i64 c.s.tt, .int .i64 c.s.a, .int .i64 c.s.b, .int .i64 c.s.f.id, .int .i64 c.s.f.kind, .int .i64 c.s.f.lo, .int .i64 c.s.f.hi, .int .i64 c.s.f.most, .int .i64 c.s.v.n, .string c.s.v.s, .slice ta c.s.t.length tc, .slice la c.s.l.length lc, .int .i64 c.fi, .slice fa c.L.length fc, .bool c.kn, .int .i64 c.at_, .int .i64 c.old.id, .int .i64 c.old.kind, .int .i64 c.old.lo, .int .i64 c.old.hi, .int .i64 c.old.most] _ HR0.out Try.underlying58 rfl HI.out ?_)
          | (go_at_call 80; ((with_reducible refine cS.mono ?_); rintro e w1 ⟨rfl, hb1⟩; have hk := K1.out.later hb1; have y2 := hk.cell 2; have y3 := hk.cell 3; have y0 := hk.cell 0; have y1 := hk.cell 1; have y4 := hk.cell 4; have f2 := hk.frozen 2; have f3 := hk.frozen 3; have HS := hid hb1.size; have HBW := hid (KB.out.trans (hb1.mono (by simp; omega))); clear hk hb1)))
        go_ret
        have hsz := HS.out
        simp at hsz
        have hz := new1 HBW.out (by omega) (show w.heap.size ≤ w.heap.size + 1 by omega) (.int .i64 Q1) (.int .i64 Q2) [{ c.old with lo := Q1, hi := Q2 }]
        exact ⟨hz.1, .inr ⟨by simp, _, by omega, rfl, hz.2⟩⟩
      · have d4 := bf h4
        by_cases h5 : c.s.op = 5
        · have d5 := bt h5
          have hsp : heirs c = [{ c.old with most := c.s.a }] := by unfold heirs; simp [*]
          rw [hsp]
          clear hsp
          unfold Out
          clear hb4 hb6 h2 h3 h4 h5
          go_enter Try.func87, Try.ntmps87
          go_wp2
          go_ret
          exact ⟨(new2 w _ _ [{ c.old with most := c.s.a }]).1, .inr ⟨by simp, _, by omega, rfl, (new2 w _ _ [{ c.old with most := c.s.a }]).2⟩⟩
        · have d5 := bf h5
          by_cases h6 : c.s.op = 6
          · have d6 := bt h6
            have hsp : heirs c = [{ c.old with hi := Int.tdiv c.old.hi c.s.a }, ⟨c.s.tt, 1, 0, mn (c.s.a - 1) c.old.hi, 0⟩] := by unfold heirs; simp [*]
            rw [hsp]
            clear hsp
            obtain ⟨⟨qa, qb⟩, qc⟩ := hb6 h6
            have em : ∀ ts t W, (Builtin.min_ ts t #[.int .i64 (c.s.a - 1), .int .i64 c.old.hi]).run Try.prog W = .ok (.int .i64 (mn (c.s.a - 1) c.old.hi)) W := fun ts t W => by rw [run_min_int2]; rfl
            obtain ⟨M, hM⟩ : ∃ M : Int, Hid (mn (c.s.a - 1) c.old.hi = M) := ⟨_, rfl⟩
            rw [hM.out] at em ⊢
            have q0 : ¬ c.s.a = 0 := by omega
            unfold Out
            clear hb4 hb6 h2 h3 h4 h5 h6
            go_enter Try.func87, Try.ntmps87
            go_wp2
            go_ret
            exact ⟨(new2 w _ _ [{ c.old with hi := Int.tdiv c.old.hi c.s.a }, ⟨c.s.tt, 1, 0, M, 0⟩]).1, .inr ⟨by simp, _, by omega, rfl, (new2 w _ _ [{ c.old with hi := Int.tdiv c.old.hi c.s.a }, ⟨c.s.tt, 1, 0, M, 0⟩]).2⟩⟩
          · have d6 := bf h6
            by_cases h8 : c.s.op = 8
            · have d8 := bt h8
              have hsp : heirs c = [{ c.old with id := c.s.tt }] := by unfold heirs; simp [*]
              rw [hsp]
              clear hsp
              unfold Out
              clear hb4 hb6 h2 h3 h4 h5 h6 h8
              go_enter Try.func87, Try.ntmps87
              go_wp2
              go_ret
              exact ⟨(new2 w _ _ [{ c.old with id := c.s.tt }]).1, .inr ⟨by simp, _, by omega, rfl, (new2 w _ _ [{ c.old with id := c.s.tt }]).2⟩⟩
            · have d8 := bf h8
              have hsp : heirs c = [c.old] := by unfold heirs; simp [*]
              rw [hsp]
              clear hsp
              unfold Out
              clear hb4 hb6 h2 h3 h4 h5 h6 h8
              go_enter Try.func87, Try.ntmps87
              go_wp2
              go_ret
              exact ⟨(new2 w _ _ [c.old]).1, .inr ⟨by simp, _, by omega, rfl, (new2 w _ _ [c.old]).2⟩⟩
end Go.Proofs.Ytiajpjkkopdmgaa.typing

namespace Go.Proofs.Ytiajpjkkopdmgaa.typing
open Go.RowKit Go.Proofs.Ytiajpjkkopdmgaa.schema Go.Proofs.Ytiajpjkkopdmgaa.rows
open Go.Proofs.Ytiajpjkkopdmgaa.field (Gives newB gives_from)
set_option linter.unusedVariables false

theorem fdV_take (L : List field.Fd) (i : Nat) : (fdV L).take (i * 5) = fdV (L.take i) := by
  by_cases h : i ≤ L.length
  · conv => lhs; rw [← List.take_append_drop i L, fdV_append]
    exact List.take_left' (by rw [fdV_length, List.length_take, Nat.min_eq_left h])
  · rw [List.take_of_length_le (by rw [fdV_length]; omega), List.take_of_length_le (by omega)]
theorem fdV_drop (L : List field.Fd) (i : Nat) : (fdV L).drop (i * 5) = fdV (L.drop i) := by
  by_cases h : i ≤ L.length
  · conv => lhs; rw [← List.take_append_drop i L, fdV_append]
    exact List.drop_left' (by rw [fdV_length, List.length_take, Nat.min_eq_left h])
  · rw [List.drop_of_length_le (by rw [fdV_length]; omega), List.drop_of_length_le (by omega)]; rfl
theorem fdV_one' (f : field.Fd) : fdV [f] = fdC f := by simp [fdV]
/-- what one call has made of a row that another one made -/
theorem finish {w w1 w3 : World} {B m : Nat} {v v' : Value} {ys : List Value} {L : List field.Fd} (hb : Below w.heap.size w w1) (hB : w.heap.size ≤ B) (hv : ∀ k, v.ownBlock = some k → B ≤ k)
    (ho3 : w3.ownsRow B 26 5 v' m ys) (hg : w1.grownBy w3 v.ownBlock) (hy : ys = fdV L) (hm : m = L.length) : OwnsF L w (.returned v') w3 := by
  subst hy hm
  exact ⟨v', rfl, own_low ho3 hB, hb.grown hg hb.size (fun k hk => by have := hv k hk; omega)⟩
theorem replace_any (base N i : Nat) (v : Value) (xs : List Value) (H : List field.Fd) (hv : Value) (w : World) (hown : w.ownsRow base 26 5 v (N + 1) xs) (hbase : base ≤ w.heap.size) (hi : i ≤ N) (hx1 : ∀ u ∈ xs, u.oneCell' = true) (hn : N ≤ 1000)
    (hH : (H = [] ∧ hv = .slice none 0 0) ∨ (H ≠ [] ∧ H.length ≤ 2 ∧ ∃ g, hv = .slice (some ⟨g, 0, none⟩) H.length H.length ∧ Block w g 26 (fdV H) ∧ v.ownBlock ≠ some g)) :
    Calls Try.prog 86 #[v, .int .i64 i, .int .i64 ((i : Int) + 1), hv] w (MadeF base v.ownBlock (N + H.length) (xs.take (i * 5) ++ (fdV H ++ xs.drop ((i + 1) * 5))) w) := by
  rcases hH with ⟨rfl, rfl⟩ | ⟨h0, h2, g, rfl, hG, hgv⟩
  · by_cases hN : i = N
    · have := replaceF_0end base N i v xs w hown hbase hN hx1 hn
      simpa [fdV] using this
    · have := replaceF_0mid base N i v xs w hown hbase (by omega) hx1 hn
      simpa [fdV] using this
  · have hgo : H.length * 5 ≤ (fdV H).length := by rw [fdV_length]; exact Nat.le_refl _
    have hc : (∃ a, H = [a]) ∨ (∃ a b, H = [a, b]) := by
      cases H with
      | nil => exact absurd rfl h0
      | cons a r =>
        cases r with
        | nil => exact .inl ⟨a, rfl⟩
        | cons b q =>
          cases q with
          | nil => exact .inr ⟨a, b, rfl⟩
          | cons d t => simp at h2
    have hl := fdV_length H
    have h1 := fdV_one H
    generalize fdV H = X at *
    rcases hc with ⟨a, rfl⟩ | ⟨a, b, rfl⟩
    · simp only [List.length_cons, List.length_nil] at hl hgo ⊢
      by_cases hN : i = N
      · exact replaceF_1end base N i g 1 X 26 v xs X w hown hbase hN hl hG hgo hgv (fun j u hj => hj) h1 hx1 hn
      · exact replaceF_1mid base N i g 1 X 26 v xs X w hown hbase (by omega) hl hG hgo hgv (fun j u hj => hj) h1 hx1 hn
    · simp only [List.length_cons, List.length_nil] at hl hgo ⊢
      by_cases hN : i = N
      · exact replaceF_2end base N i g 2 X 26 v xs X w hown hbase hN hl hG hgo hgv (fun j u hj => hj) h1 hx1 hn
      · exact replaceF_2mid base N i g 2 X 26 v xs X w hown hbase (by omega) hl hG hgo hgv (fun j u hj => hj) h1 hx1 hn
theorem heirs_len (c : Ch) : (heirs c).length ≤ 2 := by
  unfold heirs
  repeat' split
  all_goals simp
end Go.Proofs.Ytiajpjkkopdmgaa.typing

namespace Go.Proofs.Ytiajpjkkopdmgaa.schema
open Go.RowKit
open Go.Proofs.Ytiajpjkkopdmgaa.field (Gives newB gives_from refSize_any)
set_option linter.unusedVariables false

theorem refAt_any (i : Int) (a : Option Addr) (cap : Nat) (L : List field.Fd) (x : Int) (w : World) (h : field.Fds w a L) (hL : L.length ≤ maxLen) :
    Calls Try.prog 26 #[.agg #[.int .i64 i, .slice a L.length cap], .int .i64 x] w (Gives (.int .i64 (firstAt (ids L) x)) w) := by
  have hml : (L.length : Int) ≤ 9223372036854775807 := by unfold maxLen at hL; omega
  have HX := hid (boxM i a L cap w)
  have HF := hid (h.below (newB w (.cells #[.int .i64 i, .slice a L.length cap] 52)))
  obtain ⟨r, hr⟩ : ∃ r : Int, Hid (firstAt (ids L) x = r) := ⟨_, rfl⟩
  rw [hr.out]
  unfold Gives
  clear h hL
  go_enter Try.func26, Try.ntmps26
  go_wp2
  go_loopw [5] (fun n wr => ∃ k : Nat, k ≤ L.length ∧ n = .int .i64 (k : Int) ∧ Hid (x ∉ (ids L).take k) ∧ Hid (Below (w.alloc (.cells #[.int .i64 i, .slice a L.length cap] 52)).heap.size (w.alloc (.cells #[.int .i64 i, .slice a L.length cap] 52)) wr)) (fun n _ => L.length - (intOf n).toNat)
  case atStart => exact ⟨0, Nat.zero_le _, rfl, hid (by simp), hid (Below.refl _ _)⟩
  case round =>
    obtain ⟨k, hk, rfl, HNO, HB⟩ := hrel
    obtain ⟨z0, z1, hbo⟩ := HX.out _ HB.out
    by_cases hlt : k < L.length
    · obtain ⟨b, off, p, rfl, hbl, hp, c0, c1, c2, c3, c4⟩ := field_at HF.out HB.out hlt
      have i1 : (k : Int) < L.length := by omega
      have HHIT := hid (fun e => first_hit HNO.out ((ids_at hp).trans (congrArg some e)))
      have HNX := hid (fun e => not_take_succ HNO.out (ids_at hp) e)
      clear hp
      by_cases hx : p.id = x
      · have hd : (p.id == x) = true := beq_iff_eq.2 hx
        obtain rfl : (k : Int) = r := by rw [← hr.out]; exact (HHIT.out hx).symm
        clear hx
        go_wp2
        go_ret
        exact ⟨rfl, hbo⟩
      · have hd : (p.id == x) = false := beq_eq_false_iff_ne.2 hx
        have HXX := hid hx
        clear hx
        go_wp2
        exact ⟨⟨k + 1, by omega, by go_num, hid (HNX.out HXX.out), HB⟩, by simp [intOf]; omega⟩
    · obtain rfl : k = L.length := by omega
      obtain rfl : -1 = r := by rw [← hr.out]; have := HNO.out; rw [List.take_of_length_le (by rw [ids_length]; exact Nat.le_refl _)] at this; exact (first_none this).symm
      go_wp2
      go_ret
      exact ⟨rfl, hbo⟩
theorem refLong_any (i : Int) (a : Option Addr) (cap : Nat) (L : List field.Fd) (w : World) (h : field.Fds w a L) (hL : L.length ≤ 40) :
    Calls Try.prog 66 #[.agg #[.int .i64 i, .slice a L.length cap]] w (Gives (.int .i64 (size L : Int)) w) := by
  have HX := hid (boxM i a L cap w)
  have HF := hid (h.below (newB w (.cells #[.int .i64 i, .slice a L.length cap] 52)))
  obtain ⟨S, hS⟩ : ∃ S : Nat, Hid (size L = S) := ⟨_, rfl⟩
  rw [hS.out]
  unfold Gives
  clear h
  go_enter Try.func66, Try.ntmps66
  go_wp2
  go_loopw [3, 4] (fun s n wr => ∃ k : Nat, k ≤ L.length ∧ s = .int .i64 (size (L.take k) : Int) ∧ n = .int .i64 (k : Int) ∧ Hid (Below (w.alloc (.cells #[.int .i64 i, .slice a L.length cap] 52)).heap.size (w.alloc (.cells #[.int .i64 i, .slice a L.length cap] 52)) wr)) (fun _ n _ => L.length - (intOf n).toNat)
  case atStart => exact ⟨0, Nat.zero_le _, rfl, rfl, hid (Below.refl _ _)⟩
  case round =>
    obtain ⟨k, hk, rfl, rfl, HB⟩ := hrel
    obtain ⟨z0, z1, hbo⟩ := HX.out _ HB.out
    by_cases hlt : k < L.length
    · obtain ⟨b, off, p, rfl, hbl, hp, c0, c1, c2, c3, c4⟩ := field_at HF.out HB.out hlt
      have i1 : (k : Int) < L.length := by omega
      have HSZ := hid (size_succ hp)
      have hst := size_take L k
      have cs := fun w' => refSize_any p w'
      have hps := fd_size_le p
      clear hp
      generalize size (L.take k) = s at *
      go_wp2_with (go_at_call 92; ((with_reducible refine (cs _).mono ?_); rintro e w2 ⟨rfl, hb2⟩))
      exact ⟨⟨k + 1, by omega, by rw [HSZ.out]; go_num, by go_num, hid (HB.out.trans (hb2.mono HB.out.size))⟩, by simp [intOf]; omega⟩
    · obtain rfl : k = L.length := by omega
      go_wp2
      go_ret
      exact ⟨ret_int (by rw [← hS.out, List.take_of_length_le (Nat.le_refl _)]), hbo⟩
end Go.Proofs.Ytiajpjkkopdmgaa.schema

namespace Go.Proofs.Ytiajpjkkopdmgaa.schema
open Go.RowKit
set_option linter.unusedVariables false
section
variable {o : Oper} {a : Act} {w : World}
theorem exec_two {op : BinOp} {t t' : TypeId} {x y : Operand} {vx vy u : Value} (ho : o.op = .binOp op t x y t') (hx : a.eval x = vx) (hy : a.eval y = vy)
    (hg : (eqGuard op t x y vx vy).run Try.prog w = .ok () w) (hr : (binOp op t vx vy).run Try.prog w = .ok u w) : (execOp a.eval o).run Try.prog w = .ok (.value u) w := by
  unfold execOp
  simp [ho, hx, hy, Sem.run_bind, hg, hr]
theorem exec_neq_int {x y : Operand} {t' : TypeId} {n m : Int} {r : Bool} (ho : o.op = .binOp .neq 3 x y t') (hx : a.eval x = .int .i64 n) (hy : a.eval y = .int .i64 m) (h : Hid ((n != m) = r)) : (execOp a.eval o).run Try.prog w = .ok (.value (.bool r)) w :=
  exec_two ho hx hy (by simp [go_sem]) (by rw [← h.out]; simp [go_sem])
theorem exec_gtr_int {x y : Operand} {t' : TypeId} {n m : Int} {r : Bool} (ho : o.op = .binOp .gtr 3 x y t') (hx : a.eval x = .int .i64 n) (hy : a.eval y = .int .i64 m) (h : Hid (decide (n > m) = r)) : (execOp a.eval o).run Try.prog w = .ok (.value (.bool r)) w :=
  exec_two ho hx hy (by simp [go_sem]) (by rw [← h.out]; simp [go_sem])
theorem exec_geq_int {x y : Operand} {t' : TypeId} {n m : Int} {r : Bool} (ho : o.op = .binOp .geq 3 x y t') (hx : a.eval x = .int .i64 n) (hy : a.eval y = .int .i64 m) (h : Hid (decide (n ≥ m) = r)) : (execOp a.eval o).run Try.prog w = .ok (.value (.bool r)) w :=
  exec_two ho hx hy (by simp [go_sem]) (by rw [← h.out]; simp [go_sem])
theorem exec_pred {x y : Operand} {t' : TypeId} {k : Nat} (ho : o.op = .binOp .sub 3 x y t') (hx : a.eval x = .int .i64 ((k + 1 : Nat) : Int)) (hy : a.eval y = .int .i64 1) (h : k < 1000000) : (execOp a.eval o).run Try.prog w = .ok (.value (.int .i64 (k : Int))) w :=
  exec_two ho hx hy (by simp [go_sem]) (by
    have : IntKind.i64.wrap (((k + 1 : Nat) : Int) - 1) = (k : Int) := by rw [show ((k + 1 : Nat) : Int) - 1 = (k : Int) by omega]; exact IntWalk.i64_in _ (by omega)
    simp only [go_sem]
    rw [this]
    simp [go_sem])
theorem exec_indexF {x y : Operand} {b off len cap i : Nat} (ho : o.op = .indexAddr 30 x y) (hx : a.eval x = .slice (some ⟨b, off, none⟩) len cap) (hy : a.eval y = .int .i64 (i : Int)) (hi : i < len) :
    (execOp a.eval o).run Try.prog w = .ok (.value (.pointer (some ⟨b, off + i * 5, none⟩))) w := by
  unfold execOp
  rw [ho]
  simp only [hx, hy]
  go_simp
theorem exec_cell_int {ty : TypeId} {x : Operand} {ad : Addr} {k : IntKind} {n : Int} (ho : o.op = .load ty x) (hx : a.eval x = .pointer (some ad)) (hc : w.cell? ad = some (.int k n)) (hu : ∀ w', (isAgg ty).run Try.prog w' = .ok false w') :
    (execOp a.eval o).run Try.prog w = .ok (.value (.int k n)) w := by
  unfold execOp
  rw [ho]
  simp only [hx]
  go_simp
theorem exec_cell_slice {ty : TypeId} {x : Operand} {ad : Addr} {q : Option Addr} {n c : Nat} (ho : o.op = .load ty x) (hx : a.eval x = .pointer (some ad)) (hc : w.cell? ad = some (.slice q n c)) (hu : ∀ w', (isAgg ty).run Try.prog w' = .ok false w') :
    (execOp a.eval o).run Try.prog w = .ok (.value (.slice q n c)) w := by
  unfold execOp
  rw [ho]
  simp only [hx]
  go_simp
theorem exec_load_at {ty : TypeId} {x : Operand} {b off : Nat} {cs : List Value} {d : TypeDesc} (ho : o.op = .load ty x) (hx : a.eval x = .pointer (some ⟨b, off, none⟩)) (hc : w.rangeAt b off cs)
    (hu : Try.prog.underlying ty = some d) (hd : d.isRow = true) (hi : (Try.prog.info? ty).map (·.size) = some cs.length) : (execOp a.eval o).run Try.prog w = .ok (.value (.agg cs.toArray)) w := by
  unfold execOp
  simp [ho, hx, run_loadAt_mid w b off ty cs d hc hu hd hi]
end
theorem info_fd : Hid ((Try.prog.info? 26).map (·.size) = some 5) := by show _ = _; kernel_rfl
theorem info_fm : Hid ((Try.prog.info? 52).map (·.size) = some 2) := by show _ = _; kernel_rfl
theorem range_later {w w' : World} {b o : Nat} {cs : List Value} (h : w.rangeAt b o cs) (hb : Below w.heap.size w w') (hlt : b < w.heap.size) : w'.rangeAt b o cs := fun j v hj => (hb.cell (p := ⟨b, o + j, none⟩) hlt).trans (h j v hj)
theorem range5 {w : World} {b o : Nat} {v0 v1 v2 v3 v4 : Value} (h0 : w.cell? ⟨b, o, none⟩ = some v0) (h1 : w.cell? ⟨b, o + 1, none⟩ = some v1) (h2 : w.cell? ⟨b, o + 2, none⟩ = some v2) (h3 : w.cell? ⟨b, o + 3, none⟩ = some v3) (h4 : w.cell? ⟨b, o + 4, none⟩ = some v4) : w.rangeAt b o [v0, v1, v2, v3, v4]
  | 0, v, hj => by cases hj; exact h0
  | 1, v, hj => by cases hj; exact h1
  | 2, v, hj => by cases hj; exact h2
  | 3, v, hj => by cases hj; exact h3
  | 4, v, hj => by cases hj; exact h4
  | n + 5, v, hj => by simp at hj
theorem range2 {w : World} {b o : Nat} {v0 v1 : Value} (h0 : w.cell? ⟨b, o, none⟩ = some v0) (h1 : w.cell? ⟨b, o + 1, none⟩ = some v1) : w.rangeAt b o [v0, v1]
  | 0, v, hj => by cases hj; exact h0
  | 1, v, hj => by cases hj; exact h1
  | n + 2, v, hj => by simp at hj
theorem idxOf_lt_of_take : ∀ (l : List Int) (k : Nat) (x : Int), x ∈ l.take k → l.idxOf x < k
  | l, 0, x, h => by simp at h
  | [], k + 1, x, h => by simp at h
  | y :: l, k + 1, x, h => by
    by_cases hy : y = x
    · subst hy; simp
    · have hb : (y == x) = false := beq_eq_false_iff_ne.2 hy
      rw [List.take_succ_cons, List.mem_cons] at h
      have := idxOf_lt_of_take l k x (h.resolve_left (Ne.symm hy))
      rw [List.idxOf_cons, hb]
      show l.idxOf x + 1 < k + 1
      omega
/-- the first place of what stands at k is k where it does not stand ahead -/
theorem at_iff {l : List Int} {k : Nat} {x : Int} (h : l[k]? = some x) : firstAt l x = k ↔ x ∉ l.take k := by
  constructor
  · intro he hm
    have := idxOf_lt_of_take l k x hm
    unfold firstAt at he
    rw [if_pos (List.mem_of_getElem? h)] at he
    omega
  · intro hn; exact first_hit hn h
theorem ids_take (L : List field.Fd) (k : Nat) : ids (L.take k) = (ids L).take k := by unfold ids; rw [List.map_take]
end Go.Proofs.Ytiajpjkkopdmgaa.schema
