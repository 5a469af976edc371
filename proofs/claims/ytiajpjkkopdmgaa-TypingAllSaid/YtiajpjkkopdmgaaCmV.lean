/- Contracts and lemmas that the claims of this seat share: TypingRefPut, SchemaRefFine, SchemaExec. Each says its own conditions. -/
import Derived.Test.YtiajpjkkopdmgaaCmF
import Derived.Test.YtiajpjkkopdmgaaCmI
import Derived.Test.YtiajpjkkopdmgaaCmD
import Derived.Test.YtiajpjkkopdmgaaCmE
import Derived.Conc.WalkWords
import Derived.Test.YtiajpjkkopdmgaaCmU
import Derived.Test.YtiajpjkkopdmgaaCmG

namespace Go.Proofs.Ytiajpjkkopdmgaa.typing
open Go.RowKit Go.Proofs.Ytiajpjkkopdmgaa.schema
open Go.Proofs.Ytiajpjkkopdmgaa.field (newB)
set_option linter.unusedVariables false

def shiftF (a : Option Addr) (k cap : Nat) : Option Addr := if cap = k then a else a.map (·.add (k * 5))
theorem cutF_from (W : World) (a : Option Addr) (len cap k : Nat) (h : k ≤ len) : (Instr.slice 30 (.slice a len cap) (some (.int .i64 (k : Int))) none none).run Try.prog W = .ok (.slice (shiftF a k cap) (len - k) (cap - k)) W := by
  rw [run_slice_l W 30 a len cap (by kernel_rfl) .i64 k (by omega) (by omega)]
  rw [show (sizeOf (Try.prog.elem 30)).run Try.prog W = .ok 5 W by kernel_rfl]
  simp [Result.andThen, sliced, shiftF]
theorem cutF_to (W : World) (a : Option Addr) (len cap k : Nat) (h : k ≤ cap) : (Instr.slice 30 (.slice a len cap) none (some (.int .i64 (k : Int))) none).run Try.prog W = .ok (.slice (shiftF a 0 cap) k cap) W := by
  rw [run_slice_h W 30 a len cap (by kernel_rfl) .i64 k (by omega) (by omega)]
  rw [show (sizeOf (Try.prog.elem 30)).run Try.prog W = .ok 5 W by kernel_rfl]
  simp [Result.andThen, sliced, shiftF]
theorem exec_cutF_from {o : Oper} {a : Act} {w : World} {x y : Operand} {ad : Option Addr} {len cap k : Nat} (ho : o.op = .slice 30 x (some y) none none) (hx : a.eval x = .slice ad len cap) (hy : a.eval y = .int .i64 (k : Int)) (h : k ≤ len) :
    (execOp a.eval o).run Try.prog w = .ok (.value (.slice (shiftF ad k cap) (len - k) (cap - k))) w := by
  unfold execOp
  rw [ho]
  have hc := cutF_from w ad len cap k h
  simp only [hx, hy, Option.map_some, Option.map_none]
  go_simp
theorem exec_cutF_to {o : Oper} {a : Act} {w : World} {x y : Operand} {ad : Option Addr} {len cap k : Nat} (ho : o.op = .slice 30 x none (some y) none) (hx : a.eval x = .slice ad len cap) (hy : a.eval y = .int .i64 (k : Int)) (h : k ≤ cap) :
    (execOp a.eval o).run Try.prog w = .ok (.value (.slice (shiftF ad 0 cap) k cap)) w := by
  unfold execOp
  rw [ho]
  have hc := cutF_to w ad len cap k h
  simp only [hx, hy, Option.map_some, Option.map_none]
  go_simp
/-- what a cut slice holds -/
theorem news_to {w : World} {a : Option Addr} {L : List field.Fd} (h : field.Fds w a L) (cap k : Nat) (hk : k ≤ L.length) (hc : L.length ≤ cap) : k = 0 ∨ ∃ ad, shiftF a 0 cap = some ad ∧ ∀ j u, (fdV (L.take k))[j]? = some u → w.cell? (ad.add j) = some u := by
  by_cases h0 : k = 0
  · exact .inl h0
  rcases fds_news h with h1 | ⟨ad, rfl, h1⟩
  · omega
  · refine .inr ⟨ad, by unfold shiftF; rw [if_neg (by omega)]; simp [Addr.add], fun j u hj => h1 j u ?_⟩
    have hl : j < k * 5 := by
      have := (List.getElem?_eq_some_iff.1 hj).1
      rw [fdV_length, List.length_take, Nat.min_eq_left hk] at this
      exact this
    rw [← fdV_take, List.getElem?_take_of_lt hl] at hj
    exact hj
theorem news_from {w : World} {a : Option Addr} {L : List field.Fd} (h : field.Fds w a L) (cap k : Nat) (hk : k ≤ L.length) (hc : L.length ≤ cap) : L.length - k = 0 ∨ ∃ ad, shiftF a k cap = some ad ∧ ∀ j u, (fdV (L.drop k))[j]? = some u → w.cell? (ad.add j) = some u := by
  by_cases h0 : L.length - k = 0
  · exact .inl h0
  rcases fds_news h with h1 | ⟨ad, rfl, h1⟩
  · omega
  · refine .inr ⟨ad.add (k * 5), by unfold shiftF; rw [if_neg (by omega)]; rfl, fun j u hj => ?_⟩
    rw [← fdV_drop, List.getElem?_drop] at hj
    have := h1 _ _ hj
    have e : (ad.add (k * 5)).add j = ad.add (k * 5 + j) := by
      unfold Addr.add
      by_cases q1 : k * 5 = 0 <;> by_cases q2 : j = 0 <;> simp [q1, q2] <;> omega
    rw [e]
    exact this
theorem run_app {w : World} {u : Value} {B n m c : Nat} {ap : Option Addr} {xs news : List Value}
    (hown : w.ownsRow B 26 5 u n xs) (hl : news.length = m * 5) (hnews : m = 0 ∨ ∃ ad, ap = some ad ∧ ∀ j v, news[j]? = some v → w.cell? (ad.add j) = some v) (h1 : ∀ v ∈ news, v.oneCell' = true) (hn : n + m ≤ 1000000) (hB : B ≤ w.heap.size) :
    ∃ q w', (∀ (o : Oper) (a : Act) (x y : Operand), o.op = .call { callee := .builtin .append, args := #[x, y], argTypes := #[30, 30] } → o.type = 30 → a.eval x = u → a.eval y = .slice ap m c → (execOp a.eval o).run Try.prog w = .ok (.value q) w') ∧ w'.ownsRow B 26 5 q (n + m) (xs ++ news) ∧ w.grownBy w' u.ownBlock := by
  obtain ⟨i0, hi, hz0, hz1, hz2⟩ := fd_info_parts
  by_cases hm : m = 0
  · subst hm
    obtain rfl : news = [] := List.eq_nil_of_length_eq_zero (by omega)
    obtain ⟨bp, cp, rfl, hcp⟩ := ownsRow_slice hown
    have hsrc : Src Try.prog i0.size 30 (.slice ap 0 c) 0 [] w := by
      cases ap with
      | none => exact Src.ofNil w Try.underlying30 c
      | some ad => exact Src.ofSlice w Try.underlying30 ad 0 c [] (by simp) (by simp) (by simp)
    have hrun := run_append_nothing w 30 30 30 26 i0 Try.underlying30 hi bp n cp hcp _ hsrc
    refine ⟨_, w, fun o a x y ho hty hx hy => ?_, by simpa using hown, grown_refl _ _⟩
    unfold execOp
    simp [ho, hty, resolve, invoke, builtin, hx, hy, hrun, Result.andThen]
  · rcases hnews with h0 | ⟨ad, rfl, hc⟩
    · exact absurd h0 hm
    · obtain ⟨q, w', h2, h3, h4, _, _⟩ := run_append_own_at w B 30 30 26 i0 _ 5 40 Try.underlying30 hi hz0 hz1 hz2 (by simp [Value.cells]) (by omega) u n xs hown ad m c news (by omega) hc h1 (by unfold maxLen; omega) (by omega) hB
      refine ⟨q, w', fun o a x y ho hty hx hy => ?_, h3, h4⟩
      unfold execOp
      simp [ho, hty, resolve, invoke, builtin, hx, hy, h2, Result.andThen]
theorem exec_next {o : Oper} {a : Act} {w : World} {x y : Operand} {t : TypeId} {k : Nat} (ho : o.op = .binOp .add 3 x y t) (hx : a.eval x = .int .i64 (k : Int)) (hy : a.eval y = .int .i64 1) (hk : k ≤ 1000) :
    (execOp a.eval o).run Try.prog w = .ok (.value (.int .i64 ((k + 1 : Nat) : Int))) w := by
  unfold execOp
  rw [ho]
  simp only [hx, hy]
  go_simp
  exact IntWalk.i64_in _ (by omega)
theorem below_own {B n : Nat} {u : Value} {xs : List Value} {t : TypeId} {a w w' : World} (h : Below B a w) (ho : w.ownsRow B t 5 u n xs) (hg : w.grownBy w' u.ownBlock) (hB : B ≤ w.heap.size) : Below B a w' :=
  h.grown hg hB (fun k hk => (World.ownsRow.lt ho k hk).1)
set_option maxRecDepth 20000 in
theorem refCut_any (a : Option Addr) (cap : Nat) (L : List field.Fd) (k : Nat) (w : World) (h : field.Fds w a L) (hk : k < L.length) (hc : L.length ≤ cap) (hL : L.length ≤ 1000) :
    Calls Try.prog 28 #[.slice a L.length cap, .int .i64 (k : Int)] w (OwnsF (cutL L k) w) := by
  have HD := hid (Below.refl w.heap.size w)
  have HW := hid h
  unfold OwnsF cutL
  have hlen : (L.take k ++ L.drop (k + 1)).length = 0 + k + (L.length - (k + 1)) := by simp; omega
  have e1 : fdV (L.take k ++ L.drop (k + 1)) = [] ++ fdV (L.take k) ++ fdV (L.drop (k + 1)) := by rw [fdV_append]; rfl
  rw [hlen, e1]
  have HK := hid hk
  have HC := hid hc
  have HL := hid hL
  have l1 : (fdV (L.take k)).length = k * 5 := by rw [fdV_length, List.length_take, Nat.min_eq_left (by omega)]
  have l2 : (fdV (L.drop (k + 1))).length = (L.length - (k + 1)) * 5 := by rw [fdV_length, List.length_drop]
  have HL1 := hid l1
  have HL2 := hid l2
  clear hlen e1 l1 l2 h hk hc hL
  go_enter Try.func28, Try.ntmps28
  go_wp2
  refine plan.regionS (S := fun _ => True) (by kernel_rfl) ?_
  have hb0 : Below w.heap.size w w.drew := below_drewN (Below.refl _ _) 1
  refine plan.firstS 0 _ (.slice a L.length cap) rfl (by kernel_rfl) (by kernel_rfl) (by kernel_rfl) (by kernel_rfl) (fun w' hS' => (by kernel_rfl)) trivial ?_
  refine plan.firstS 1 _ (.int .i64 (k : Int)) rfl (by kernel_rfl) (by kernel_rfl) (by kernel_rfl) (by kernel_rfl) (fun w' hS' => (by kernel_rfl)) trivial ?_
  refine plan.firstS 2 _ (.slice (shiftF a 0 cap) k cap) rfl (by kernel_rfl) (by kernel_rfl) (by kernel_rfl) (by kernel_rfl) (fun w' hS' => (exec_cutF_to (len := L.length) rfl (by kernel_rfl) (by kernel_rfl) (by have := HC.out; have := HK.out; omega))) trivial ?_
  refine plan.firstS 4 _ (.slice a L.length cap) rfl (by kernel_rfl) (by kernel_rfl) (by kernel_rfl) (by kernel_rfl) (fun w' hS' => (by kernel_rfl)) trivial ?_
  refine plan.firstS 5 _ (.int .i64 (k : Int)) rfl (by kernel_rfl) (by kernel_rfl) (by kernel_rfl) (by kernel_rfl) (fun w' hS' => (by kernel_rfl)) trivial ?_
  refine plan.firstS 6 _ (.int .i64 ((k + 1 : Nat) : Int)) rfl (by kernel_rfl) (by kernel_rfl) (by kernel_rfl) (by kernel_rfl) (fun w' hS' => (exec_next rfl (by kernel_rfl) (by kernel_rfl) (by have := HK.out; have := HL.out; omega))) trivial ?_
  refine plan.firstS 7 _ (.slice (shiftF a (k + 1) cap) (L.length - (k + 1)) (cap - (k + 1))) rfl (by kernel_rfl) (by kernel_rfl) (by kernel_rfl) (by kernel_rfl) (fun w' hS' => (exec_cutF_from rfl (by kernel_rfl) (by kernel_rfl) (by have := HK.out; omega))) trivial ?_
  obtain ⟨q1, w1, r1, o1, g1⟩ := run_app (m := k) (c := cap) (ap := shiftF a 0 cap) (World.ownsRow_nil w.drew w.heap.size 26 5) HL1.out (news_to (HW.out.below hb0) cap k (by have := HK.out; omega) HC.out) (fdV_one _) (by have := HK.out; have := HL.out; omega) (Nat.le_of_eq rfl)
  refine plan.oneS (w1 := w1) 3 _ (q1) rfl rfl (by kernel_rfl) (r1 _ _ _ _ rfl rfl (by kernel_rfl) (by kernel_rfl)) trivial ?_
  have hb1 : Below w.heap.size w w1 := hb0.grown g1 hb0.size (fun k hk => by cases hk)
  obtain ⟨q2, w2, r2, o2, g2⟩ := run_app (m := L.length - (k + 1)) (c := cap - (k + 1)) (ap := shiftF a (k + 1) cap) o1 HL2.out (news_from (HW.out.below hb1) cap (k + 1) (by have := HK.out; omega) HC.out) (fdV_one _) (by have := HK.out; have := HL.out; omega) hb1.size
  refine plan.oneS (w1 := w2) 8 _ (q2) rfl rfl (by kernel_rfl) (r2 _ _ _ _ rfl rfl (by kernel_rfl) (by kernel_rfl)) trivial ?_
  have hb2 : Below w.heap.size w w2 := below_own hb1 o1 g2 hb1.size
  refine plan.oneS (w1 := w2) 9 _ (q2) rfl rfl (by kernel_rfl) (by kernel_rfl) trivial ?_
  refine plan.doneS (by kernel_rfl) ?_
  walk_nrm
  go_wp2
  go_ret
  exact ⟨_, rfl, o2, hb2⟩
set_option maxRecDepth 20000 in
theorem refPut_any (a : Option Addr) (cap : Nat) (L : List field.Fd) (k : Nat) (f : field.Fd) (w : World) (h : field.Fds w a L) (hk : k ≤ L.length) (hc : L.length ≤ cap) (hL : L.length ≤ 1000) :
    Calls Try.prog 25 #[.slice a L.length cap, .int .i64 (k : Int), .agg #[.int .i64 f.id, .int .i64 f.kind, .int .i64 f.lo, .int .i64 f.hi, .int .i64 f.most]] w (OwnsF (putL L k f) w) := by
  obtain ⟨i0, hi, hz0, hz1, hz2⟩ := fd_info_parts
  have hb0 := newB w (.cells #[.int .i64 f.id, .int .i64 f.kind, .int .i64 f.lo, .int .i64 f.hi, .int .i64 f.most] 26)
  have hB0 := Block.new w 26 [.int .i64 f.id, .int .i64 f.kind, .int .i64 f.lo, .int .i64 f.hi, .int .i64 f.most]
  obtain ⟨W0, hW0⟩ : ∃ x, x = (w.alloc (.cells #[.int .i64 f.id, .int .i64 f.kind, .int .i64 f.lo, .int .i64 f.hi, .int .i64 f.most] 26)) := ⟨_, rfl⟩
  obtain ⟨B1, hB1⟩ : ∃ x, x = W0.heap.size := ⟨_, rfl⟩
  rw [← hW0] at hb0 hB0
  have HB0 := hid hb0
  have HBX : Hid (∀ w', Below B1 W0 w' → Block w' w.heap.size 26 [.int .i64 f.id, .int .i64 f.kind, .int .i64 f.lo, .int .i64 f.hi, .int .i64 f.most]) := hid (fun w' hb => hB0.later (hB1 ▸ hb))
  have HS0 : Hid (w.heap.size ≤ B1) := hid (by rw [hB1]; exact hb0.size)
  have HW := hid h
  unfold OwnsF putL
  have hlen : (L.take k ++ ([f] ++ L.drop k)).length = k + 1 + (L.length - k) := by simp; omega
  have e1 : fdV (L.take k ++ ([f] ++ L.drop k)) = fdV (L.take k) ++ fdC f ++ fdV (L.drop k) := by rw [fdV_append, fdV_append]; simp [fdV]
  rw [hlen, e1]
  have hs1 := fun W => cutF_to W a L.length cap k (by omega)
  have HK := hid hk
  have HC := hid hc
  have HL := hid hL
  have l1 : (fdV (L.take k)).length = k * 5 := by rw [fdV_length, List.length_take, Nat.min_eq_left (by omega)]
  have l2 : (fdV (L.drop k)).length = (L.length - k) * 5 := by rw [fdV_length, List.length_drop]
  have HL1 := hid l1
  have HL2 := hid l2
  have HN1 := news_to (h.below hb0) cap k hk hc
  rw [hW0] at HN1
  replace HN1 := hid HN1
  have HW0 := hid hW0
  have HB1 := hid hB1
  have HM1 : Hid (0 + k ≤ maxLen) := by show _ ≤ _; unfold maxLen; omega
  have HM2 : Hid ((0 + k) * 40 ≤ 140737488355328) := by show _ ≤ _; omega
  have HBL : Hid (B1 ≤ ((w.alloc (.cells #[.int .i64 f.id, .int .i64 f.kind, .int .i64 f.lo, .int .i64 f.hi, .int .i64 f.most] 26))).heap.size) := hid (by rw [hB1, hW0]; exact Nat.le_refl _)
  clear hlen e1 l1 l2 h hk hc hL hb0 hB0 hW0 hB1
  go_enter Try.func25, Try.ntmps25
  go_wp2_with (at_builtin; refine wpList_append_fromN rfl _ _ 30 rfl B1 26 i0 _ 5 40 Try.underlying30 hi hz0 hz1 hz2 (by simp [Value.cells]) (by omega) (.slice none 0 0) 0 [] rfl (World.ownsRow_nil _ _ _ _) (shiftF a 0 cap) k cap (fdV (L.take k)) rfl HL1.out HN1.out (fdV_one _) HM1.out HM2.out HBL.out ?_)
  intro v1 w1 ho hg
  obtain ⟨x1, c1, rfl, _⟩ := ownsRow_slice ho
  have hb1 : Below B1 W0 w1 := by rw [HB1.out, HW0.out]; exact (Below.refl _ _).grown hg (Nat.le_refl _) (fun k hk => by cases hk)
  have hsz1 : B1 ≤ w1.heap.size := Nat.le_trans HBL.out hg.size
  have HO := hid ho
  have HB2 := hid hb1
  have HZ1 := hid hsz1
  clear ho hg hb1 hsz1
  go_wp2
  refine plan.regionS (S := fun w' => Block w' w.heap.size 26 [.int .i64 f.id, .int .i64 f.kind, .int .i64 f.lo, .int .i64 f.hi, .int .i64 f.most]) (by kernel_rfl) ?_
  have hd : Below B1 W0 w1.drew := below_drewN HB2.out 1
  have hz : B1 ≤ w1.drew.heap.size := HZ1.out
  have hod := ownsRow_heap (w' := w1.drew) HO.out (fun g hg => rfl)
  have hS := HBX.out _ hd
  generalize w1.drew = wd at *
  refine plan.firstS 0 _ (.slice x1 k c1) rfl (by kernel_rfl) (by kernel_rfl) (by kernel_rfl) (by kernel_rfl) (fun w' hS' => (by kernel_rfl)) hS ?_
  refine plan.firstS 1 _ (.agg #[.int .i64 f.id, .int .i64 f.kind, .int .i64 f.lo, .int .i64 f.hi, .int .i64 f.most]) rfl (by kernel_rfl) (by kernel_rfl) (by kernel_rfl) (by kernel_rfl) (fun w' hS' => (exec_load_at (b := w.heap.size) (off := 0) rfl (by kernel_rfl) hS'.whole Try.underlying26 rfl info_fd.out)) hS ?_
  refine plan.firstS 4 _ (.slice a L.length cap) rfl (by kernel_rfl) (by kernel_rfl) (by kernel_rfl) (by kernel_rfl) (fun w' hS' => (by kernel_rfl)) hS ?_
  refine plan.firstS 5 _ (.int .i64 (k : Int)) rfl (by kernel_rfl) (by kernel_rfl) (by kernel_rfl) (by kernel_rfl) (fun w' hS' => (by kernel_rfl)) hS ?_
  refine plan.firstS 6 _ (.slice (shiftF a k cap) (L.length - k) (cap - k)) rfl (by kernel_rfl) (by kernel_rfl) (by kernel_rfl) (by kernel_rfl) (fun w' hS' => (exec_cutF_from rfl (by kernel_rfl) (by kernel_rfl) HK.out)) hS ?_
  obtain ⟨w2, hw2⟩ : ∃ x, x = wd.alloc (.cells #[.int .i64 f.id, .int .i64 f.kind, .int .i64 f.lo, .int .i64 f.hi, .int .i64 f.most] 26) := ⟨_, rfl⟩
  have hb2 : Below B1 W0 w2 := by rw [hw2]; exact hd.alloc hz _
  have hR2 : Block w2 wd.heap.size 26 (fdC f) := by rw [hw2]; exact Block.new wd _ _
  have ho2 : w2.ownsRow B1 26 5 (.slice x1 k c1) k (fdV (L.take k)) := by rw [hw2]; exact hod.alloc _
  have hS2 := HBX.out _ hb2
  have hz2 : B1 ≤ w2.heap.size := by rw [hw2]; simp; omega
  refine plan.oneS (w1 := wd.alloc (.cells #[.int .i64 f.id, .int .i64 f.kind, .int .i64 f.lo, .int .i64 f.hi, .int .i64 f.most] 26)) 2 _ (.slice (some ⟨wd.heap.size, 0, none⟩) 1 1) rfl rfl (by kernel_rfl) (by kernel_rfl) (by rw [← hw2]; exact hS2) ?_
  rw [← hw2]
  obtain ⟨q3, w3, r3, o3, g3⟩ := run_app (m := 1) (c := 1) (ap := some ⟨wd.heap.size, 0, none⟩) ho2 (news := fdC f) rfl (.inr ⟨_, rfl, fun j v hj => by rw [Addr.add_lit, Nat.zero_add]; exact (hR2.cell j).trans hj⟩) (by have := fdV_one [f]; simpa [fdV] using this) (by have := HK.out; have := HL.out; omega) hz2
  have hb3 := below_own hb2 ho2 g3 hz2
  have hz3 : B1 ≤ w3.heap.size := Nat.le_trans hz2 g3.size
  have hS3 := HBX.out _ hb3
  refine plan.oneS (w1 := w3) 3 _ (q3) rfl rfl (by kernel_rfl) (r3 _ _ _ _ rfl rfl (by kernel_rfl) (by kernel_rfl)) hS3 ?_
  obtain ⟨q4, w4, r4, o4, g4⟩ := run_app (m := L.length - k) (c := cap - k) (ap := shiftF a k cap) o3 HL2.out (news_from (HW.out.below (HB0.out.trans (hb3.mono HS0.out))) cap k HK.out HC.out) (fdV_one _) (by have := HK.out; have := HL.out; omega) hz3
  have hb4 := below_own hb3 o3 g4 hz3
  have hS4 := HBX.out _ hb4
  refine plan.oneS (w1 := w4) 7 _ (q4) rfl rfl (by kernel_rfl) (r4 _ _ _ _ rfl rfl (by kernel_rfl) (by kernel_rfl)) hS4 ?_
  refine plan.oneS (w1 := w4) 8 _ (q4) rfl rfl (by kernel_rfl) (by kernel_rfl) hS4 ?_
  refine plan.doneS (by kernel_rfl) ?_
  walk_nrm
  go_wp2
  go_ret
  exact ⟨_, rfl, own_low o4 HS0.out, HB0.out.trans (hb4.mono HS0.out)⟩
end Go.Proofs.Ytiajpjkkopdmgaa.typing

namespace Go.Proofs.Ytiajpjkkopdmgaa.schema
open Go.RowKit
open Go.Proofs.Ytiajpjkkopdmgaa.field (Gives newB gives_from refRight_any)
set_option linter.unusedVariables false

set_option maxRecDepth 20000 in
set_option maxHeartbeats 1600000 in
theorem refFine_any (i : Int) (a : Option Addr) (cap : Nat) (L : List field.Fd) (w : World) (h : field.Fds w a L) (hL : L.length ≤ maxLen) :
    Calls Try.prog 35 #[.agg #[.int .i64 i, .slice a L.length cap]] w (Gives (.bool (decide (Fine (i, L)))) w) := by
  have hml : (L.length : Int) ≤ 9223372036854775807 := by unfold maxLen at hL; omega
  have HX := hid (boxM i a L cap w)
  have hw := newB w (.cells #[.int .i64 i, .slice a L.length cap] 52)
  have HF := hid (h.below hw)
  have HW := hid hw
  have HB0 := hid (Block.new w 52 [.int .i64 i, .slice a L.length cap])
  obtain ⟨r, hr⟩ : ∃ r : Bool, Hid (decide (Fine (i, L)) = r) := ⟨_, rfl⟩
  rw [hr.out]
  unfold Gives
  clear h hw
  by_cases h1 : i < 0
  · obtain rfl : false = r := by rw [← hr.out]; exact (decide_eq_false (fun e => by have := e.1.1; simp at this; omega)).symm
    have hd1 : decide (i < 0) = true := decide_eq_true h1
    clear h1
    go_enter Try.func35, Try.ntmps35
    go_wp2
    go_ret
    exact ⟨rfl, HW.out⟩
  have hd1 : decide (i < 0) = false := decide_eq_false h1
  by_cases h2 : i > 200
  · obtain rfl : false = r := by rw [← hr.out]; exact (decide_eq_false (fun e => by have := e.1.2; simp at this; omega)).symm
    have hd2 : decide (i > 200) = true := decide_eq_true h2
    clear h1 h2
    go_enter Try.func35, Try.ntmps35
    go_wp2
    go_ret
    exact ⟨rfl, HW.out⟩
  have hd2 : decide (i > 200) = false := decide_eq_false h2
  by_cases h3 : L.length < 1
  · obtain rfl : false = r := by rw [← hr.out]; exact (decide_eq_false (fun e => by have := e.2.1.1; simp only at this; omega)).symm
    have hd3 : decide ((L.length : Int) < 1) = true := decide_eq_true (by omega)
    clear h1 h2 h3
    go_enter Try.func35, Try.ntmps35
    go_wp2
    go_ret
    exact ⟨rfl, HW.out⟩
  have hd3 : decide ((L.length : Int) < 1) = false := decide_eq_false (by omega)
  by_cases h4 : L.length > 8
  · obtain rfl : false = r := by rw [← hr.out]; exact (decide_eq_false (fun e => by have := e.2.1.2; simp only at this; omega)).symm
    have hd4 : decide ((L.length : Int) > 8) = true := decide_eq_true (by omega)
    clear h1 h2 h3 h4
    go_enter Try.func35, Try.ntmps35
    go_wp2
    go_ret
    exact ⟨rfl, HW.out⟩
  have hd4 : decide ((L.length : Int) > 8) = false := decide_eq_false (by omega)
  have HFI : Hid (Fine (i, L) ↔ FineF L ∧ size L ≤ 64) := hid ⟨fun e => ⟨e.2.2.1, e.2.2.2⟩, fun e => ⟨by simp; omega, by simp; omega, e.1, e.2⟩⟩
  have h8 : L.length ≤ 8 := by omega
  clear h1 h2 h3 h4
  go_enter Try.func35, Try.ntmps35
  go_wp2
  clear hd1 hd2 hd3 hd4
  generalize (w.alloc (.cells #[.int .i64 i, .slice a L.length cap] 52)) = W0 at *
  go_loopw [3] (fun n wr => ∃ k : Nat, k ≤ L.length ∧ n = .int .i64 (k : Int) ∧ Hid (FineF (L.take k)) ∧ Hid (Below W0.heap.size W0 wr)) (fun n _ => L.length - (intOf n).toNat)
  case atStart => exact ⟨0, Nat.zero_le _, rfl, hid FineF.nil, hid (Below.refl _ _)⟩
  case round =>
    obtain ⟨k, hk, rfl, HOK, HB⟩ := hrel
    obtain ⟨z0, z1, hbo⟩ := HX.out _ HB.out
    by_cases hlt : k < L.length
    · obtain ⟨b, off, p, rfl, hbl, hp, c0, c1, c2, c3, c4⟩ := field_at HF.out HB.out hlt
      have i1 : (k : Int) < L.length := by omega
      have HNO := hid (fineF_no hp)
      have HSUC := hid (fineF_succ hp)
      have HAT := hid (at_iff (ids_at hp))
      have hR := range5 c0 c1 c2 c3 c4
      have HZ := hid (fun w' (hb' : Below wr.heap.size wr w') => (⟨by obtain ⟨_, y1, _⟩ := HX.out w' (HB.out.trans (hb'.mono HB.out.size)); exact y1, (HB0.out.later (HB.out.trans (hb'.mono HB.out.size))).whole, range_later hR hb' hbl⟩ : w'.cell? ⟨w.heap.size, 1, none⟩ = some (.slice (some ⟨b, off, none⟩) L.length cap) ∧ w'.rangeAt w.heap.size 0 [.int .i64 i, .slice (some ⟨b, off, none⟩) L.length cap] ∧ w'.rangeAt b (off + k * 5) [.int .i64 p.id, .int .i64 p.kind, .int .i64 p.lo, .int .i64 p.hi, .int .i64 p.most]))
      have ca := fun w' (hb' : Below wr.heap.size wr w') => refAt_any i (some ⟨b, off, none⟩) cap L p.id w' (HF.out.below (HB.out.trans (hb'.mono HB.out.size))) hL
      have cr := fun w' => refRight_any p w'
      clear hp hR
      generalize firstAt (ids L) p.id = J at *
      by_cases hri : p.Right
      · rw [decide_eq_true hri] at cr
        by_cases hj : J = (k : Int)
        · have HNQ : Hid ((J != (k : Int)) = false) := hid (by rw [hj]; simp)
          have HOK2 : Hid (FineF (L.take (k + 1))) := hid (HSUC.out.2 ⟨HOK.out, hri, by rw [ids_take]; exact HAT.out.1 hj⟩)
          clear hri hj c0 c1 c2 c3 c4
          go_wp2
          have hb : Below wr.heap.size wr wr.drew := below_drew (Below.refl _ _)
          · refine plan.region (by kernel_rfl) ?_
            refine plan.Rest.first 0 _ (.pointer (some ⟨w.heap.size, 1, none⟩)) rfl (by kernel_rfl) (by kernel_rfl) (by kernel_rfl) (by kernel_rfl) (fun w' hb' => (by kernel_rfl)) ?_
            refine plan.Rest.first 1 _ (.slice (some ⟨b, off, none⟩) L.length cap) rfl (by kernel_rfl) (by kernel_rfl) (by kernel_rfl) (by kernel_rfl) (fun w' hb' => exec_cell_slice (ad := ⟨w.heap.size, 1, none⟩) rfl (by kernel_rfl) (HZ.out _ (hb.trans (hb'.mono hb.size))).1 Try.isAgg30) ?_
            refine plan.Rest.first 2 _ (.int .i64 (k : Int)) rfl (by kernel_rfl) (by kernel_rfl) (by kernel_rfl) (by kernel_rfl) (fun w' hb' => (by kernel_rfl)) ?_
            refine plan.Rest.first 3 _ (.pointer (some ⟨b, off + k * 5, none⟩)) rfl (by kernel_rfl) (by kernel_rfl) (by kernel_rfl) (by kernel_rfl) (fun w' hb' => (exec_indexF (b := b) (off := off) (len := L.length) (cap := cap) (i := k) rfl (by kernel_rfl) (by kernel_rfl) hlt)) ?_
            refine plan.Rest.first 4 _ (.agg #[.int .i64 p.id, .int .i64 p.kind, .int .i64 p.lo, .int .i64 p.hi, .int .i64 p.most]) rfl (by kernel_rfl) (by kernel_rfl) (by kernel_rfl) (by kernel_rfl) (fun w' hb' => exec_load_at (b := b) (off := off + k * 5) rfl (by kernel_rfl) (HZ.out _ (hb.trans (hb'.mono hb.size))).2.2 Try.underlying26 rfl info_fd.out) ?_
            refine plan.Rest.call 5 _ 58 #[.agg #[.int .i64 p.id, .int .i64 p.kind, .int .i64 p.lo, .int .i64 p.hi, .int .i64 p.most]] rfl (by kernel_rfl) (by kernel_rfl) (by kernel_rfl) ((cr wr.drew).mono ?_)
            rintro e W1 ⟨rfl, hn⟩
            have hb := hb.trans (hn.mono hb.size)
            refine ⟨_, rfl, hn, ?_⟩
            refine plan.Rest.first 6 _ (.bool false) rfl (by kernel_rfl) (by kernel_rfl) (by kernel_rfl) (by kernel_rfl) (fun w' hb' => (by kernel_rfl)) ?_
            refine plan.Rest.first 7 _ (.bool false) rfl (by kernel_rfl) (by kernel_rfl) (by kernel_rfl) (by kernel_rfl) (fun w' hb' => (by kernel_rfl)) ?_
            refine plan.Rest.first 8 _ (.agg #[.int .i64 i, .slice (some ⟨b, off, none⟩) L.length cap]) rfl (by kernel_rfl) (by kernel_rfl) (by kernel_rfl) (by kernel_rfl) (fun w' hb' => exec_load_at (b := w.heap.size) (off := 0) rfl (by kernel_rfl) (HZ.out _ (hb.trans (hb'.mono hb.size))).2.1 Try.underlying52 rfl info_fm.out) ?_
            refine plan.Rest.first 9 _ (.pointer (some ⟨w.heap.size, 1, none⟩)) rfl (by kernel_rfl) (by kernel_rfl) (by kernel_rfl) (by kernel_rfl) (fun w' hb' => (by kernel_rfl)) ?_
            refine plan.Rest.first 10 _ (.slice (some ⟨b, off, none⟩) L.length cap) rfl (by kernel_rfl) (by kernel_rfl) (by kernel_rfl) (by kernel_rfl) (fun w' hb' => exec_cell_slice (ad := ⟨w.heap.size, 1, none⟩) rfl (by kernel_rfl) (HZ.out _ (hb.trans (hb'.mono hb.size))).1 Try.isAgg30) ?_
            refine plan.Rest.first 11 _ (.int .i64 (k : Int)) rfl (by kernel_rfl) (by kernel_rfl) (by kernel_rfl) (by kernel_rfl) (fun w' hb' => (by kernel_rfl)) ?_
            refine plan.Rest.first 12 _ (.pointer (some ⟨b, off + k * 5, none⟩)) rfl (by kernel_rfl) (by kernel_rfl) (by kernel_rfl) (by kernel_rfl) (fun w' hb' => (exec_indexF (b := b) (off := off) (len := L.length) (cap := cap) (i := k) rfl (by kernel_rfl) (by kernel_rfl) hlt)) ?_
            refine plan.Rest.first 13 _ (.pointer (some ⟨b, off + k * 5, none⟩)) rfl (by kernel_rfl) (by kernel_rfl) (by kernel_rfl) (by kernel_rfl) (fun w' hb' => (by kernel_rfl)) ?_
            refine plan.Rest.first 14 _ (.int .i64 p.id) rfl (by kernel_rfl) (by kernel_rfl) (by kernel_rfl) (by kernel_rfl) (fun w' hb' => exec_cell_int (ad := ⟨b, off + k * 5, none⟩) rfl (by kernel_rfl) ((HZ.out _ (hb.trans (hb'.mono hb.size))).2.2 0 _ rfl) Try.isAgg3) ?_
            refine plan.Rest.first 16 _ (.int .i64 (k : Int)) rfl (by kernel_rfl) (by kernel_rfl) (by kernel_rfl) (by kernel_rfl) (fun w' hb' => (by kernel_rfl)) ?_
            refine plan.Rest.call 15 _ 26 #[.agg #[.int .i64 i, .slice (some ⟨b, off, none⟩) L.length cap], .int .i64 p.id] rfl (by kernel_rfl) (by kernel_rfl) (by kernel_rfl) ((ca W1 hb).mono ?_)
            rintro e W2 ⟨rfl, hn⟩
            have hb := hb.trans (hn.mono hb.size)
            refine ⟨_, rfl, hn, ?_⟩
            refine plan.Rest.first 17 _ (.bool false) rfl (by kernel_rfl) (by kernel_rfl) (by kernel_rfl) (by kernel_rfl) (fun w' hb' => (exec_neq_int (n := J) (m := (k : Int)) rfl (by kernel_rfl) (by kernel_rfl) HNQ)) ?_
            refine plan.Rest.first 18 _ (.bool false) rfl (by kernel_rfl) (by kernel_rfl) (by kernel_rfl) (by kernel_rfl) (fun w' hb' => (by kernel_rfl)) ?_
            refine plan.Rest.done (by kernel_rfl) ?_
            walk_nrm
            go_wp2
            exact ⟨⟨k + 1, by omega, by go_num, HOK2, hid (HB.out.trans (hb.mono HB.out.size))⟩, by simp [intOf]; omega⟩
        · have HNQ : Hid ((J != (k : Int)) = true) := hid (by simp [hj])
          obtain rfl : false = r := by rw [← hr.out]; exact (decide_eq_false (fun e => HNO.out (fun e2 => hj (HAT.out.2 (by rw [← ids_take]; exact e2.2))) (HFI.out.1 e).1)).symm
          clear hri hj c0 c1 c2 c3 c4
          go_wp2
          have hb : Below wr.heap.size wr wr.drew := below_drew (Below.refl _ _)
          · refine plan.region (by kernel_rfl) ?_
            refine plan.Rest.first 0 _ (.pointer (some ⟨w.heap.size, 1, none⟩)) rfl (by kernel_rfl) (by kernel_rfl) (by kernel_rfl) (by kernel_rfl) (fun w' hb' => (by kernel_rfl)) ?_
            refine plan.Rest.first 1 _ (.slice (some ⟨b, off, none⟩) L.length cap) rfl (by kernel_rfl) (by kernel_rfl) (by kernel_rfl) (by kernel_rfl) (fun w' hb' => exec_cell_slice (ad := ⟨w.heap.size, 1, none⟩) rfl (by kernel_rfl) (HZ.out _ (hb.trans (hb'.mono hb.size))).1 Try.isAgg30) ?_
            refine plan.Rest.first 2 _ (.int .i64 (k : Int)) rfl (by kernel_rfl) (by kernel_rfl) (by kernel_rfl) (by kernel_rfl) (fun w' hb' => (by kernel_rfl)) ?_
            refine plan.Rest.first 3 _ (.pointer (some ⟨b, off + k * 5, none⟩)) rfl (by kernel_rfl) (by kernel_rfl) (by kernel_rfl) (by kernel_rfl) (fun w' hb' => (exec_indexF (b := b) (off := off) (len := L.length) (cap := cap) (i := k) rfl (by kernel_rfl) (by kernel_rfl) hlt)) ?_
            refine plan.Rest.first 4 _ (.agg #[.int .i64 p.id, .int .i64 p.kind, .int .i64 p.lo, .int .i64 p.hi, .int .i64 p.most]) rfl (by kernel_rfl) (by kernel_rfl) (by kernel_rfl) (by kernel_rfl) (fun w' hb' => exec_load_at (b := b) (off := off + k * 5) rfl (by kernel_rfl) (HZ.out _ (hb.trans (hb'.mono hb.size))).2.2 Try.underlying26 rfl info_fd.out) ?_
            refine plan.Rest.call 5 _ 58 #[.agg #[.int .i64 p.id, .int .i64 p.kind, .int .i64 p.lo, .int .i64 p.hi, .int .i64 p.most]] rfl (by kernel_rfl) (by kernel_rfl) (by kernel_rfl) ((cr wr.drew).mono ?_)
            rintro e W1 ⟨rfl, hn⟩
            have hb := hb.trans (hn.mono hb.size)
            refine ⟨_, rfl, hn, ?_⟩
            refine plan.Rest.first 6 _ (.bool false) rfl (by kernel_rfl) (by kernel_rfl) (by kernel_rfl) (by kernel_rfl) (fun w' hb' => (by kernel_rfl)) ?_
            refine plan.Rest.first 7 _ (.bool false) rfl (by kernel_rfl) (by kernel_rfl) (by kernel_rfl) (by kernel_rfl) (fun w' hb' => (by kernel_rfl)) ?_
            refine plan.Rest.first 8 _ (.agg #[.int .i64 i, .slice (some ⟨b, off, none⟩) L.length cap]) rfl (by kernel_rfl) (by kernel_rfl) (by kernel_rfl) (by kernel_rfl) (fun w' hb' => exec_load_at (b := w.heap.size) (off := 0) rfl (by kernel_rfl) (HZ.out _ (hb.trans (hb'.mono hb.size))).2.1 Try.underlying52 rfl info_fm.out) ?_
            refine plan.Rest.first 9 _ (.pointer (some ⟨w.heap.size, 1, none⟩)) rfl (by kernel_rfl) (by kernel_rfl) (by kernel_rfl) (by kernel_rfl) (fun w' hb' => (by kernel_rfl)) ?_
            refine plan.Rest.first 10 _ (.slice (some ⟨b, off, none⟩) L.length cap) rfl (by kernel_rfl) (by kernel_rfl) (by kernel_rfl) (by kernel_rfl) (fun w' hb' => exec_cell_slice (ad := ⟨w.heap.size, 1, none⟩) rfl (by kernel_rfl) (HZ.out _ (hb.trans (hb'.mono hb.size))).1 Try.isAgg30) ?_
            refine plan.Rest.first 11 _ (.int .i64 (k : Int)) rfl (by kernel_rfl) (by kernel_rfl) (by kernel_rfl) (by kernel_rfl) (fun w' hb' => (by kernel_rfl)) ?_
            refine plan.Rest.first 12 _ (.pointer (some ⟨b, off + k * 5, none⟩)) rfl (by kernel_rfl) (by kernel_rfl) (by kernel_rfl) (by kernel_rfl) (fun w' hb' => (exec_indexF (b := b) (off := off) (len := L.length) (cap := cap) (i := k) rfl (by kernel_rfl) (by kernel_rfl) hlt)) ?_
            refine plan.Rest.first 13 _ (.pointer (some ⟨b, off + k * 5, none⟩)) rfl (by kernel_rfl) (by kernel_rfl) (by kernel_rfl) (by kernel_rfl) (fun w' hb' => (by kernel_rfl)) ?_
            refine plan.Rest.first 14 _ (.int .i64 p.id) rfl (by kernel_rfl) (by kernel_rfl) (by kernel_rfl) (by kernel_rfl) (fun w' hb' => exec_cell_int (ad := ⟨b, off + k * 5, none⟩) rfl (by kernel_rfl) ((HZ.out _ (hb.trans (hb'.mono hb.size))).2.2 0 _ rfl) Try.isAgg3) ?_
            refine plan.Rest.first 16 _ (.int .i64 (k : Int)) rfl (by kernel_rfl) (by kernel_rfl) (by kernel_rfl) (by kernel_rfl) (fun w' hb' => (by kernel_rfl)) ?_
            refine plan.Rest.call 15 _ 26 #[.agg #[.int .i64 i, .slice (some ⟨b, off, none⟩) L.length cap], .int .i64 p.id] rfl (by kernel_rfl) (by kernel_rfl) (by kernel_rfl) ((ca W1 hb).mono ?_)
            rintro e W2 ⟨rfl, hn⟩
            have hb := hb.trans (hn.mono hb.size)
            refine ⟨_, rfl, hn, ?_⟩
            refine plan.Rest.first 17 _ (.bool true) rfl (by kernel_rfl) (by kernel_rfl) (by kernel_rfl) (by kernel_rfl) (fun w' hb' => (exec_neq_int (n := J) (m := (k : Int)) rfl (by kernel_rfl) (by kernel_rfl) HNQ)) ?_
            refine plan.Rest.first 18 _ (.bool true) rfl (by kernel_rfl) (by kernel_rfl) (by kernel_rfl) (by kernel_rfl) (fun w' hb' => (by kernel_rfl)) ?_
            refine plan.Rest.done (by kernel_rfl) ?_
            walk_nrm
            go_wp2
            go_ret
            exact ⟨rfl, hbo.trans (hb.mono hbo.size)⟩
      · rw [decide_eq_false hri] at cr
        obtain rfl : false = r := by rw [← hr.out]; exact (decide_eq_false (fun e => HNO.out (fun e2 => hri e2.1) (HFI.out.1 e).1)).symm
        clear hri c0 c1 c2 c3 c4
        go_wp2
        have hb : Below wr.heap.size wr wr.drew := below_drew (Below.refl _ _)
        · refine plan.region (by kernel_rfl) ?_
          refine plan.Rest.first 0 _ (.pointer (some ⟨w.heap.size, 1, none⟩)) rfl (by kernel_rfl) (by kernel_rfl) (by kernel_rfl) (by kernel_rfl) (fun w' hb' => (by kernel_rfl)) ?_
          refine plan.Rest.first 1 _ (.slice (some ⟨b, off, none⟩) L.length cap) rfl (by kernel_rfl) (by kernel_rfl) (by kernel_rfl) (by kernel_rfl) (fun w' hb' => exec_cell_slice (ad := ⟨w.heap.size, 1, none⟩) rfl (by kernel_rfl) (HZ.out _ (hb.trans (hb'.mono hb.size))).1 Try.isAgg30) ?_
          refine plan.Rest.first 2 _ (.int .i64 (k : Int)) rfl (by kernel_rfl) (by kernel_rfl) (by kernel_rfl) (by kernel_rfl) (fun w' hb' => (by kernel_rfl)) ?_
          refine plan.Rest.first 3 _ (.pointer (some ⟨b, off + k * 5, none⟩)) rfl (by kernel_rfl) (by kernel_rfl) (by kernel_rfl) (by kernel_rfl) (fun w' hb' => (exec_indexF (b := b) (off := off) (len := L.length) (cap := cap) (i := k) rfl (by kernel_rfl) (by kernel_rfl) hlt)) ?_
          refine plan.Rest.first 4 _ (.agg #[.int .i64 p.id, .int .i64 p.kind, .int .i64 p.lo, .int .i64 p.hi, .int .i64 p.most]) rfl (by kernel_rfl) (by kernel_rfl) (by kernel_rfl) (by kernel_rfl) (fun w' hb' => exec_load_at (b := b) (off := off + k * 5) rfl (by kernel_rfl) (HZ.out _ (hb.trans (hb'.mono hb.size))).2.2 Try.underlying26 rfl info_fd.out) ?_
          refine plan.Rest.call 5 _ 58 #[.agg #[.int .i64 p.id, .int .i64 p.kind, .int .i64 p.lo, .int .i64 p.hi, .int .i64 p.most]] rfl (by kernel_rfl) (by kernel_rfl) (by kernel_rfl) ((cr wr.drew).mono ?_)
          rintro e W1 ⟨rfl, hn⟩
          have hb := hb.trans (hn.mono hb.size)
          refine ⟨_, rfl, hn, ?_⟩
          refine plan.Rest.first 6 _ (.bool true) rfl (by kernel_rfl) (by kernel_rfl) (by kernel_rfl) (by kernel_rfl) (fun w' hb' => (by kernel_rfl)) ?_
          refine plan.Rest.first 7 _ (.bool true) rfl (by kernel_rfl) (by kernel_rfl) (by kernel_rfl) (by kernel_rfl) (fun w' hb' => (by kernel_rfl)) ?_
          refine plan.Rest.skip 8 _ rfl (by kernel_rfl) (by kernel_rfl) (by kernel_rfl) (by kernel_rfl) ?_
          refine plan.Rest.skip 9 _ rfl (by kernel_rfl) (by kernel_rfl) (by kernel_rfl) (by kernel_rfl) ?_
          refine plan.Rest.skip 10 _ rfl (by kernel_rfl) (by kernel_rfl) (by kernel_rfl) (by kernel_rfl) ?_
          refine plan.Rest.skip 11 _ rfl (by kernel_rfl) (by kernel_rfl) (by kernel_rfl) (by kernel_rfl) ?_
          refine plan.Rest.skip 12 _ rfl (by kernel_rfl) (by kernel_rfl) (by kernel_rfl) (by kernel_rfl) ?_
          refine plan.Rest.skip 13 _ rfl (by kernel_rfl) (by kernel_rfl) (by kernel_rfl) (by kernel_rfl) ?_
          refine plan.Rest.skip 14 _ rfl (by kernel_rfl) (by kernel_rfl) (by kernel_rfl) (by kernel_rfl) ?_
          refine plan.Rest.skip 15 _ rfl (by kernel_rfl) (by kernel_rfl) (by kernel_rfl) (by kernel_rfl) ?_
          refine plan.Rest.skip 16 _ rfl (by kernel_rfl) (by kernel_rfl) (by kernel_rfl) (by kernel_rfl) ?_
          refine plan.Rest.skip 17 _ rfl (by kernel_rfl) (by kernel_rfl) (by kernel_rfl) (by kernel_rfl) ?_
          refine plan.Rest.first 18 _ (.bool true) rfl (by kernel_rfl) (by kernel_rfl) (by kernel_rfl) (by kernel_rfl) (fun w' hb' => (by kernel_rfl)) ?_
          refine plan.Rest.done (by kernel_rfl) ?_
          walk_nrm
          go_wp2
          go_ret
          exact ⟨rfl, hbo.trans (hb.mono hbo.size)⟩
    · obtain rfl : k = L.length := by omega
      have HOK2 : Hid (FineF L) := hid (by have := HOK.out; rw [List.take_of_length_le (Nat.le_refl _)] at this; exact this)
      have cl := refLong_any i a cap L wr (HF.out.below HB.out) (by omega)
      obtain rfl : decide ((size L : Int) ≤ 64) = r := by rw [← hr.out]; exact decide_eq_decide.2 ⟨fun e => HFI.out.2 ⟨HOK2.out, by omega⟩, fun e => by have := (HFI.out.1 e).2; omega⟩
      go_wp2_with (go_at_call 66; ((with_reducible refine cl.mono ?_); rintro e w2 ⟨rfl, hb2⟩))
      go_ret
      exact ⟨rfl, hbo.trans (hb2.mono hbo.size)⟩
end Go.Proofs.Ytiajpjkkopdmgaa.schema

namespace Go.Proofs.Ytiajpjkkopdmgaa.schema
open Go.RowKit
set_option linter.unusedVariables false
section
variable {o : Oper} {a : Act} {w : World}
theorem exec_indexM {x y : Operand} {b off len cap i : Nat} (ho : o.op = .indexAddr 22 x y) (hx : a.eval x = .slice (some ⟨b, off, none⟩) len cap) (hy : a.eval y = .int .i64 (i : Int)) (hi : i < len) :
    (execOp a.eval o).run Try.prog w = .ok (.value (.pointer (some ⟨b, off + i * 2, none⟩))) w := by
  unfold execOp
  rw [ho]
  simp only [hx, hy]
  go_simp
end
end Go.Proofs.Ytiajpjkkopdmgaa.schema
