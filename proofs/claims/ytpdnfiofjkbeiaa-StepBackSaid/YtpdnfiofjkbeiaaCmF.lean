/- Contracts and lemmas that the claims of this seat share: StepTable, StepRefTable, StepPrintM. Each says its own conditions. -/
import Derived.Test.YtpdnfiofjkbeiaaCmE
import Derived.WalkMore
/- Contracts of layer 15 (step) and of its reference: the tables (fineTable, table). No condition but a limit from 1 to 1000. -/
namespace Go.Proofs.Ytpdnfiofjkbeiaa.step
open Go.RowKit
open Go.Proofs.Ytpdnfiofjkbeiaa.field (Gives newB gives_from)
open Go.Proofs.Ytpdnfiofjkbeiaa.schema (take_succ_at below_out)
set_option linter.unusedVariables false

/-- the numbers seen so far, as an array -/
def seenT (l : List Int) : List Value := (List.range 1000).map fun j : Nat => Value.bool (decide ((j : Int) ∈ l))
theorem seenT_at (l : List Int) (n : Nat) (h : n < 1000) : (seenT l)[n]? = some (.bool (decide ((n : Int) ∈ l))) := by simp [seenT, h]
theorem seenT_set (l : List Int) (n : Nat) (h : n < 1000) : (seenT l).set n (.bool true) = seenT (l ++ [(n : Int)]) := by
  apply List.ext_getElem?
  intro i
  rw [List.getElem?_set]
  by_cases hi : i < 1000
  · rw [seenT_at _ i hi, seenT_at _ i hi]
    by_cases hn : n = i
    · subst hn; simp [seenT, h]
    · rw [if_neg hn]
      simp; omega
  · simp [seenT]
    simp [hi]
    omega
theorem seenT_zero : Try.zeroCells104 = (seenT []).toArray := by kernel_rfl
/-- the numbers, one by one -/
def TabOk (lim : Int) (l : List Int) : Prop := (∀ n ∈ l, 0 ≤ n ∧ n ≤ lim - 1) ∧ l.Nodup
theorem tab_succ {lim : Int} {L : List Int} {k : Nat} {x : Int} (h : L[k]? = some x) : TabOk lim (L.take (k + 1)) ↔ TabOk lim (L.take k) ∧ (0 ≤ x ∧ x ≤ lim - 1) ∧ x ∉ L.take k := by
  rw [take_succ_at h]
  unfold TabOk
  simp only [List.nodup_append, List.mem_append, List.mem_singleton]
  constructor
  · rintro ⟨h1, h2, h3, h4⟩
    exact ⟨⟨fun n hn => h1 n (.inl hn), h2⟩, h1 x (.inr rfl), fun hm => h4 _ hm _ rfl rfl⟩
  · rintro ⟨⟨h1, h2⟩, h3, h4⟩
    exact ⟨fun n hn => hn.elim (h1 n) (fun e => e ▸ h3), h2, by simp, fun a ha b hb e => h4 (by rw [← hb, ← e]; exact ha)⟩
theorem tab_take {lim : Int} {L : List Int} (h : TabOk lim L) (k : Nat) : TabOk lim (L.take k) :=
  ⟨fun n hn => h.1 n (List.mem_of_mem_take hn), h.2.sublist (List.take_sublist _ _)⟩
theorem tab_no {lim : Int} {L : List Int} {k : Nat} {x : Int} (h : L[k]? = some x) (hn : ¬ ((0 ≤ x ∧ x ≤ lim - 1) ∧ x ∉ L.take k)) : ¬ TabOk lim L := fun hf => hn ((tab_succ h).1 (tab_take hf _)).2
/-- the number k in a later world -/
theorem int_at {w w' : World} {a : Option Addr} {L : List Int} (h : Ins w a L) (hb : Below w.heap.size w w') {k : Nat} (hk : k < L.length) :
    ∃ b off p, a = some ⟨b, off, none⟩ ∧ b < w'.heap.size ∧ L[k]? = some p ∧ w'.cell? ⟨b, off + k, none⟩ = some (.int .i64 p) := (h.below hb).at hk
set_option maxRecDepth 20000 in
theorem fineTable_any (a : Option Addr) (cap : Nat) (L : List Int) (lim : Int) (h1 : 1 ≤ lim) (h2 : lim ≤ 1000) (w : World) (h : Ins w a L) (hL : L.length ≤ maxLen) :
    Calls Try.prog 47 #[.slice a L.length cap, .int .i64 lim] w (Gives (.bool (decide (Table L lim))) w) := by
  have hml : (L.length : Int) ≤ 9223372036854775807 := by unfold maxLen at hL; omega
  obtain ⟨v, hv⟩ : ∃ v : Bool, Hid (decide (Table L lim) = v) := ⟨_, rfl⟩
  rw [hv.out]
  have cW := within_any (L.length : Int) 1 64
  unfold Gives at cW ⊢
  have HF := hid h
  clear h hL
  by_cases h3 : 1 ≤ L.length ∧ L.length ≤ 64
  · rw [show decide ((1 : Int) ≤ (L.length : Int) ∧ (L.length : Int) ≤ 64) = true from decide_eq_true (by omega)] at cW
    have HTI : Hid (Table L lim ↔ TabOk lim L) := hid ⟨fun h => h.2, fun h => ⟨h3, h⟩⟩
    have cV := fun n (w' : World) => within_any n 0 (lim - 1) w'
    clear h3
    go_enter Try.func47, Try.ntmps47
    go_wp2_with (go_at_call 46; ((with_reducible refine (cW _).mono ?_); rintro e w1 ⟨rfl, hb1⟩; have HB1 := hid hb1; have HZ : Hid (Block (w1.alloc (.cells Try.zeroCells104 104)) w1.heap.size 104 (seenT [])) := (by rw [seenT_zero]; exact hid (Block.new w1 104 (seenT []))); have HN := hid (newB w1 (.cells Try.zeroCells104 104)); have HLE := hid hb1.size; clear hb1))
    have HF1 := hid (HF.out.below HB1.out)
    clear cW
    generalize w1.alloc (.cells Try.zeroCells104 104) = w2 at *
    obtain ⟨B, hB⟩ : ∃ B : Nat, Hid (w1.heap.size = B) := ⟨_, rfl⟩
    rw [hB.out] at HZ HLE ⊢
    go_loopw [14] (fun n wr => ∃ k : Nat, k ≤ L.length ∧ n = .int .i64 (k : Int) ∧ Hid (TabOk lim (L.take k)) ∧ Hid (Block wr B 104 (seenT (L.take k))) ∧ Hid (Below w1.heap.size w1 wr)) (fun n _ => L.length - (intOf n).toNat)
    case atStart => exact ⟨0, Nat.zero_le _, rfl, hid ⟨by simp, by simp⟩, HZ, HN⟩
    case round =>
      obtain ⟨k, hk, rfl, HOK, HBl, HB⟩ := hrel
      by_cases hlt : k < L.length
      · obtain ⟨b, off, p, rfl, hbl, hp, c0⟩ := int_at HF1.out HB.out hlt
        have i1 : (k : Int) < L.length := by omega
        have HP := hid hp
        have HNO := hid (tab_no (lim := lim) hp)
        have HSUC := hid (tab_succ (lim := lim) hp)
        have HTK := hid (take_succ_at hp)
        have cs := fun w' => cV p w'
        clear hp
        generalize hI : L.take k = I at *
        clear hI
        by_cases hr : 0 ≤ p ∧ p ≤ lim - 1
        · obtain ⟨n, rfl⟩ := Int.eq_ofNat_of_zero_le hr.1
          have hn2 : n < 1000 := by omega
          have hn3 : (n : Int) < 1000 := by omega
          rw [decide_eq_true hr] at cs
          have HR := hid hr
          clear hr
          have hsd := seenT_at I n hn2
          by_cases hm : (n : Int) ∈ I
          · rw [decide_eq_true hm] at hsd
            obtain rfl : false = v := by rw [← hv.out]; exact (decide_eq_false (fun h => HNO.out (fun h => h.2 hm) (HTI.out.1 h))).symm
            clear hm
            go_wp2_with (go_at_call 46; ((with_reducible refine (cs _).mono ?_); rintro e w3 ⟨rfl, hb3⟩; have hc := (HBl.out.later hb3).cell n; rw [hsd] at hc))
            go_ret
            exact ⟨rfl, HB1.out.trans ((HB.out.trans (hb3.mono HB.out.size)).mono HB1.out.size)⟩
          · rw [decide_eq_false hm] at hsd
            have HM := hid hm
            clear hm
            go_wp2_with (go_at_call 46; ((with_reducible refine (cs _).mono ?_); rintro e w3 ⟨rfl, hb3⟩; have hblk := HBl.out.later hb3; have hc := hblk.cell n; rw [hsd] at hc; have hfz := hblk.frozen n; have HBK := hid hblk; clear hblk))
            refine ⟨⟨k + 1, by omega, by go_num, hid (HSUC.out.2 ⟨HOK.out, HR.out, HM.out⟩), hid ?_, hid ?_⟩, by simp [intOf]; omega⟩
            · have := HBK.out.setCell n (.bool true)
              rw [seenT_set _ _ (by omega)] at this
              rw [HTK.out]; exact this
            · exact below_setCells (HB.out.trans (hb3.mono HB.out.size)) (by rw [hB.out]; exact Nat.le_refl _) n [.bool true]
        · obtain rfl : false = v := by rw [← hv.out]; exact (decide_eq_false (fun h => HNO.out (fun h => hr h.1) (HTI.out.1 h))).symm
          rw [decide_eq_false hr] at cs
          clear hr
          go_wp2_with (go_at_call 46; ((with_reducible refine (cs _).mono ?_); rintro e w3 ⟨rfl, hb3⟩))
          go_ret
          exact ⟨rfl, HB1.out.trans ((HB.out.trans (hb3.mono HB.out.size)).mono HB1.out.size)⟩
      · obtain rfl : k = L.length := by omega
        obtain rfl : true = v := by rw [← hv.out]; have := HOK.out; rw [List.take_of_length_le (Nat.le_refl _)] at this; exact (decide_eq_true (HTI.out.2 this)).symm
        go_wp2
        go_ret
        exact ⟨rfl, HB1.out.trans (HB.out.mono HB1.out.size)⟩
  · rw [show decide ((1 : Int) ≤ (L.length : Int) ∧ (L.length : Int) ≤ 64) = false from decide_eq_false (by omega)] at cW
    obtain rfl : false = v := by rw [← hv.out]; exact (decide_eq_false (fun h => h3 h.1)).symm
    clear h3
    go_enter Try.func47, Try.ntmps47
    go_wp2_with (go_at_call 46; ((with_reducible refine (cW _).mono ?_); rintro e w1 ⟨rfl, hb1⟩))
    go_ret
    exact ⟨rfl, hb1⟩
end Go.Proofs.Ytpdnfiofjkbeiaa.step
/- Contract of the reference of layer 15 (step): table. No condition but a limit from 1 to 1000. -/
namespace Go.Proofs.Ytpdnfiofjkbeiaa.step
open Go.RowKit
open Go.Proofs.Ytpdnfiofjkbeiaa.field (Gives newB gives_from)
open Go.Proofs.Ytpdnfiofjkbeiaa.schema (take_succ_at below_out)
set_option linter.unusedVariables false

theorem not_take {L : List Int} {k : Nat} {x q : Int} (h : L[k]? = some q) (hn : x ∉ L.take k) (hq : ¬ q = x) : x ∉ L.take (k + 1) := by
  rw [take_succ_at h]
  intro hm
  rcases List.mem_append.1 hm with h1 | h1
  · exact hn h1
  · exact hq (List.mem_singleton.1 h1).symm
theorem mem_take {L : List Int} {j k : Nat} {q : Int} (h : L[j]? = some q) (hj : j < k) : q ∈ L.take k := by
  have := (List.getElem?_take_of_lt (l := L) hj).trans h
  exact List.mem_of_getElem? this
theorem int_cell {w w' : World} {b off k : Nat} {p : Int} {L : List Int} (h : Ins w (some ⟨b, off, none⟩) L) (hb : Below w.heap.size w w') (hp : L[k]? = some p) : w'.cell? ⟨b, off + k, none⟩ = some (.int .i64 p) := by
  rcases h.below hb with rfl | ⟨b', off', he, hlt, hc⟩
  · simp at hp
  · injection he with e
    injection e with e1 e2
    subst e1 e2
    exact hc k p hp
theorem int_block {w w' : World} {b off k : Nat} {p : Int} {L : List Int} (h : Ins w (some ⟨b, off, none⟩) L) (hb : Below w.heap.size w w') (hp : L[k]? = some p) : b < w'.heap.size := by
  rcases h.below hb with rfl | ⟨b', off', he, hlt, hc⟩
  · simp at hp
  · injection he with e
    injection e with e1 e2
    subst e1 e2
    exact hlt
set_option maxRecDepth 20000 in
theorem refTable_any (a : Option Addr) (cap : Nat) (L : List Int) (lim : Int) (h1 : 1 ≤ lim) (h2 : lim ≤ 1000) (w : World) (h : Ins w a L) (hL : L.length ≤ maxLen) :
    Calls Try.prog 51 #[.slice a L.length cap, .int .i64 lim] w (Gives (.bool (decide (Table L lim))) w) := by
  have hml : (L.length : Int) ≤ 9223372036854775807 := by unfold maxLen at hL; omega
  obtain ⟨v, hv⟩ : ∃ v : Bool, Hid (decide (Table L lim) = v) := ⟨_, rfl⟩
  rw [hv.out]
  have cV := fun n (w' : World) => between_any n 0 (lim - 1) w'
  unfold Gives at cV ⊢
  have HF := hid h
  clear h hL
  go_enter Try.func51, Try.ntmps51
  go_wp2
  go_loopw [5] (fun n wr => ∃ k : Nat, k ≤ L.length ∧ n = .int .i64 (k : Int) ∧ Hid (TabOk lim (L.take k)) ∧ Hid (Below w.heap.size w wr)) (fun n _ => L.length - (intOf n).toNat)
  case atStart => exact ⟨0, Nat.zero_le _, rfl, hid ⟨by simp, by simp⟩, hid (Below.refl _ _)⟩
  case round =>
    obtain ⟨k, hk, rfl, HOK, HB⟩ := hrel
    by_cases hlt : k < L.length
    · obtain ⟨b, off, p, rfl, hbl, hp, c0⟩ := int_at HF.out HB.out hlt
      have i1 : (k : Int) < L.length := by omega
      have HP := hid hp
      have HNO := hid (tab_no (lim := lim) hp)
      have HSUC := hid (tab_succ (lim := lim) hp)
      have cs := fun w' => cV p w'
      clear hp
      by_cases hr : 0 ≤ p ∧ p ≤ lim - 1
      · rw [decide_eq_true hr] at cs
        have HR := hid hr
        clear hr
        go_wp2_with (go_at_call 23; ((with_reducible refine (cs _).mono ?_); rintro e w3 ⟨rfl, hb3⟩; have HB3 := hid (HB.out.trans (hb3.mono HB.out.size)); clear hb3))
        clear c0 hbl
        go_loopw [6] (fun n wr => ∃ j : Nat, j ≤ k ∧ n = .int .i64 (j : Int) ∧ Hid (p ∉ L.take j) ∧ Hid (Below w.heap.size w wr)) (fun n _ => k - (intOf n).toNat)
        case atStart => exact ⟨0, Nat.zero_le _, rfl, hid (by simp), HB3⟩
        case round =>
          obtain ⟨j, hj, rfl, HNI, HB4⟩ := hrel
          by_cases hlt2 : j < k
          · have hq0 := List.getElem?_eq_getElem (show j < L.length by omega)
            generalize L[j]'(show j < L.length by omega) = q at hq0
            have d0 := int_cell HF.out HB4.out hq0
            have c1 := int_cell HF.out HB4.out HP.out
            have hbl := int_block HF.out HB4.out hq0
            have i2 : (j : Int) < k := by omega
            have i3 : (j : Int) < L.length := by omega
            have hq := hq0
            clear hq0
            have HQ := hid hq
            clear hq
            by_cases hpq : q = p
            · obtain rfl : false = v := by
                rw [← hv.out]
                exact (decide_eq_false (fun h => (HSUC.out.1 (tab_take h.2 _)).2.2 (by rw [← hpq]; exact mem_take HQ.out hlt2))).symm
              subst hpq
              go_wp2
              go_quiet (fail)
              go_wp2
              go_ret
              exact ⟨rfl, below_drewN HB4.out _⟩
            · have hd : (q == p) = false := by rw [beq_eq_false_iff_ne]; exact hpq
              have HPQ := hid hpq
              clear hpq
              go_wp2
              go_quiet (fail)
              go_wp2
              exact ⟨⟨j + 1, by omega, by go_num, hid (not_take HQ.out HNI.out HPQ.out), hid (below_drewN HB4.out _)⟩, by simp [intOf]; omega⟩
          · obtain rfl : j = k := by omega
            go_wp2
            exact ⟨⟨j + 1, by omega, by go_num, hid (HSUC.out.2 ⟨HOK.out, HR.out, HNI.out⟩), hid HB4.out⟩, by simp [intOf]; omega⟩
      · obtain rfl : false = v := by rw [← hv.out]; exact (decide_eq_false (fun h => HNO.out (fun h => hr h.1) h.2)).symm
        rw [decide_eq_false hr] at cs
        clear hr
        go_wp2_with (go_at_call 23; ((with_reducible refine (cs _).mono ?_); rintro e w3 ⟨rfl, hb3⟩))
        go_ret
        exact ⟨rfl, HB.out.trans (hb3.mono HB.out.size)⟩
    · obtain rfl : k = L.length := by omega
      have HT := HOK.out
      rw [List.take_of_length_le (Nat.le_refl _)] at HT
      have HT := hid HT
      by_cases h3 : 1 ≤ L.length
      · have hd3 : decide ((L.length : Int) ≥ 1) = true := decide_eq_true (by omega)
        by_cases h4 : L.length ≤ 64
        · have hd4 : decide ((L.length : Int) ≤ 64) = true := decide_eq_true (by omega)
          obtain rfl : true = v := by rw [← hv.out]; exact (decide_eq_true ⟨⟨h3, h4⟩, HT.out⟩).symm
          go_wp2
          go_ret
          exact ⟨rfl, HB.out⟩
        · have hd4 : decide ((L.length : Int) ≤ 64) = false := decide_eq_false (by omega)
          obtain rfl : false = v := by rw [← hv.out]; exact (decide_eq_false (fun h => h4 h.1.2)).symm
          go_wp2
          go_ret
          exact ⟨rfl, HB.out⟩
      · have hd3 : decide ((L.length : Int) ≥ 1) = false := decide_eq_false (by omega)
        obtain rfl : false = v := by rw [← hv.out]; exact (decide_eq_false (fun h => h3 h.1.1)).symm
        go_wp2
        go_ret
        exact ⟨rfl, HB.out⟩
end Go.Proofs.Ytpdnfiofjkbeiaa.step
/- Contract of layer 15 (step): printMember. No condition but a member that is as it must be, and a row shorter than 800000 bytes. -/
namespace Go.Proofs.Ytpdnfiofjkbeiaa.step
open Go.RowKit Go.Proofs.Ytpdnfiofjkbeiaa.pen
open Go.Proofs.Ytpdnfiofjkbeiaa.field (newB bytesOf bytesOf_length)
open Go.Proofs.Ytpdnfiofjkbeiaa.schema (PS below_out take_succ_at field_at)
set_option linter.unusedVariables false

theorem numsA_succ {L : List Int} {k : Nat} {x : Int} (h : L[k]? = some x) : numsA (L.take (k + 1)) = numsA (L.take k) ++ vb x.toNat := by
  rw [take_succ_at h]; simp [numsA]
theorem fieldsA_succ {L : List field.Fd} {k : Nat} {x : field.Fd} (h : L[k]? = some x) : fieldsA (L.take (k + 1)) = fieldsA (L.take k) ++ fieldA x := by
  rw [take_succ_at h]; simp [fieldsA]
theorem numsA_len {L : List Int} (h : ∀ n ∈ L, 0 ≤ n ∧ n ≤ 1000) : (numsA L).length ≤ 10 * L.length := by
  induction L with
  | nil => simp [numsA]
  | cons n L ih =>
    have h1 := h n (by simp)
    have h2 := vb_ten n.toNat (by omega)
    have h3 := ih (fun m hm => h m (by simp [hm]))
    simp only [numsA, List.map_cons, List.flatten_cons, List.length_append, List.length_cons] at h3 ⊢
    omega
theorem fieldA_len {f : field.Fd} (h : FieldOk f) : (fieldA f).length ≤ 50 := by
  obtain ⟨⟨i0, i1⟩, ⟨k0, k1⟩, ⟨a0, a1⟩, ⟨b0, b1⟩, m0, m1⟩ := h
  have l1 := vb_ten f.id.toNat (by omega)
  have l2 := vb_ten f.kind.toNat (by omega)
  have l3 := vb_ten (zig f.lo) (zig_lt _ (by omega) (by omega))
  have l4 := vb_ten (zig f.hi) (zig_lt _ (by omega) (by omega))
  have l5 := vb_ten f.most.toNat (by omega)
  simp only [fieldA, List.length_append]
  omega
theorem fieldsA_len {L : List field.Fd} (h : ∀ f ∈ L, FieldOk f) : (fieldsA L).length ≤ 50 * L.length := by
  induction L with
  | nil => simp [fieldsA]
  | cons f L ih =>
    have h1 := fieldA_len (h f (by simp))
    have h3 := ih (fun m hm => h m (by simp [hm]))
    simp only [fieldsA, List.map_cons, List.flatten_cons, List.length_append, List.length_cons] at h3 ⊢
    omega

set_option maxRecDepth 20000 in
set_option maxHeartbeats 1600000 in
theorem pm0 {g : Nat} {w1 : World} {xs : List Nat} {v : Value} {w : World} (h : PS g w1 xs v w) (hg : w1.heap.size = g) (s : Sp) (ta : Option Addr) (tc : Nat) (la : Option Addr) (lc : Nat) (HL : Hid (Lists w1 s ta la)) (hfine : s.Fine 0) (hn : xs.length ≤ 800000) :
    Calls Try.prog 35 #[.pointer (some ⟨g, 0, none⟩), .agg #[.int .i64 s.op, .int .i64 s.fm, .int .i64 s.fd, .int .i64 s.pl, .int .i64 s.tt, .int .i64 s.a, .int .i64 s.b, .int .i64 s.f.id, .int .i64 s.f.kind, .int .i64 s.f.lo, .int .i64 s.f.hi, .int .i64 s.f.most, .int .i64 s.v.n, .string s.v.s, .slice ta s.t.length tc, .slice la s.l.length lc], .int .i64 0] w (Pens g w1 xs (s.memB 0) w) := by
  have hS0 := h.later (newB w (.cells #[.int .i64 s.op, .int .i64 s.fm, .int .i64 s.fd, .int .i64 s.pl, .int .i64 s.tt, .int .i64 s.a, .int .i64 s.b, .int .i64 s.f.id, .int .i64 s.f.kind, .int .i64 s.f.lo, .int .i64 s.f.hi, .int .i64 s.f.most, .int .i64 s.v.n, .string s.v.s, .slice ta s.t.length tc, .slice la s.l.length lc] 29))
  have hB0 := Block.new w 29 [.int .i64 s.op, .int .i64 s.fm, .int .i64 s.fd, .int .i64 s.pl, .int .i64 s.tt, .int .i64 s.a, .int .i64 s.b, .int .i64 s.f.id, .int .i64 s.f.kind, .int .i64 s.f.lo, .int .i64 s.f.hi, .int .i64 s.f.most, .int .i64 s.v.n, .string s.v.s, .slice ta s.t.length tc, .slice la s.l.length lc]
  have hne : w.heap.size ≠ g := by have := h.1.1.lt; omega
  have HK0 : Hid (Stays g w (w.alloc (.cells #[.int .i64 s.op, .int .i64 s.fm, .int .i64 s.fd, .int .i64 s.pl, .int .i64 s.tt, .int .i64 s.a, .int .i64 s.b, .int .i64 s.f.id, .int .i64 s.f.kind, .int .i64 s.f.lo, .int .i64 s.f.hi, .int .i64 s.f.most, .int .i64 s.v.n, .string s.v.s, .slice ta s.t.length tc, .slice la s.l.length lc] 29))) := hid (Stays.later (newB _ _))
  have hok := fine_ok (m := 0) (by omega) hfine
  clear h
  have hq : 0 ≤ s.fm ∧ s.fm ≤ 200 := hok 102 (by simp [lets])
  clear hok hfine
  have hmb : s.memB 0 = vb s.fm.toNat := by simp [Sp.memB, lets, Sp.letB]
  rw [hmb]
  clear hmb
  unfold Pens
  have c1 := count_pen hS0 s.fm (by omega) (by omega) (by omega)
  clear hS0
  go_enter Try.func35, Try.ntmps35
  go_wp2_with (first
    | (go_at_call 34; ((with_reducible refine c1.mono ?_); clear c1; rintro e u1 ⟨rfl, v1, hS1, hK1⟩; have hB1 := hK1 _ _ _ hB0 st_ty hne;  have HS1 := hid hS1; clear hS1)))
  exact ret0 rfl rfl ⟨rfl, v1, by simpa only [List.append_assoc] using HS1.out, HK0.out.trans (hK1)⟩
set_option maxRecDepth 20000 in
set_option maxHeartbeats 1600000 in
theorem pm1 {g : Nat} {w1 : World} {xs : List Nat} {v : Value} {w : World} (h : PS g w1 xs v w) (hg : w1.heap.size = g) (s : Sp) (ta : Option Addr) (tc : Nat) (la : Option Addr) (lc : Nat) (HL : Hid (Lists w1 s ta la)) (hfine : s.Fine 1) (hn : xs.length ≤ 800000) :
    Calls Try.prog 35 #[.pointer (some ⟨g, 0, none⟩), .agg #[.int .i64 s.op, .int .i64 s.fm, .int .i64 s.fd, .int .i64 s.pl, .int .i64 s.tt, .int .i64 s.a, .int .i64 s.b, .int .i64 s.f.id, .int .i64 s.f.kind, .int .i64 s.f.lo, .int .i64 s.f.hi, .int .i64 s.f.most, .int .i64 s.v.n, .string s.v.s, .slice ta s.t.length tc, .slice la s.l.length lc], .int .i64 1] w (Pens g w1 xs (s.memB 1) w) := by
  have hS0 := h.later (newB w (.cells #[.int .i64 s.op, .int .i64 s.fm, .int .i64 s.fd, .int .i64 s.pl, .int .i64 s.tt, .int .i64 s.a, .int .i64 s.b, .int .i64 s.f.id, .int .i64 s.f.kind, .int .i64 s.f.lo, .int .i64 s.f.hi, .int .i64 s.f.most, .int .i64 s.v.n, .string s.v.s, .slice ta s.t.length tc, .slice la s.l.length lc] 29))
  have hB0 := Block.new w 29 [.int .i64 s.op, .int .i64 s.fm, .int .i64 s.fd, .int .i64 s.pl, .int .i64 s.tt, .int .i64 s.a, .int .i64 s.b, .int .i64 s.f.id, .int .i64 s.f.kind, .int .i64 s.f.lo, .int .i64 s.f.hi, .int .i64 s.f.most, .int .i64 s.v.n, .string s.v.s, .slice ta s.t.length tc, .slice la s.l.length lc]
  have hne : w.heap.size ≠ g := by have := h.1.1.lt; omega
  have HK0 : Hid (Stays g w (w.alloc (.cells #[.int .i64 s.op, .int .i64 s.fm, .int .i64 s.fd, .int .i64 s.pl, .int .i64 s.tt, .int .i64 s.a, .int .i64 s.b, .int .i64 s.f.id, .int .i64 s.f.kind, .int .i64 s.f.lo, .int .i64 s.f.hi, .int .i64 s.f.most, .int .i64 s.v.n, .string s.v.s, .slice ta s.t.length tc, .slice la s.l.length lc] 29))) := hid (Stays.later (newB _ _))
  have hok := fine_ok (m := 1) (by omega) hfine
  clear h
  have hq : 0 ≤ s.fd ∧ s.fd ≤ 255 := hok 100 (by simp [lets])
  clear hok hfine
  have hmb : s.memB 1 = vb s.fd.toNat := by simp [Sp.memB, lets, Sp.letB]
  rw [hmb]
  clear hmb
  unfold Pens
  have c1 := count_pen hS0 s.fd (by omega) (by omega) (by omega)
  clear hS0
  go_enter Try.func35, Try.ntmps35
  go_wp2_with (first
    | (go_at_call 34; ((with_reducible refine c1.mono ?_); clear c1; rintro e u1 ⟨rfl, v1, hS1, hK1⟩; have hB1 := hK1 _ _ _ hB0 st_ty hne;  have HS1 := hid hS1; clear hS1)))
  exact ret0 rfl rfl ⟨rfl, v1, by simpa only [List.append_assoc] using HS1.out, HK0.out.trans (hK1)⟩
set_option maxRecDepth 20000 in
set_option maxHeartbeats 1600000 in
theorem pm2 {g : Nat} {w1 : World} {xs : List Nat} {v : Value} {w : World} (h : PS g w1 xs v w) (hg : w1.heap.size = g) (s : Sp) (ta : Option Addr) (tc : Nat) (la : Option Addr) (lc : Nat) (HL : Hid (Lists w1 s ta la)) (hfine : s.Fine 2) (hn : xs.length ≤ 800000) :
    Calls Try.prog 35 #[.pointer (some ⟨g, 0, none⟩), .agg #[.int .i64 s.op, .int .i64 s.fm, .int .i64 s.fd, .int .i64 s.pl, .int .i64 s.tt, .int .i64 s.a, .int .i64 s.b, .int .i64 s.f.id, .int .i64 s.f.kind, .int .i64 s.f.lo, .int .i64 s.f.hi, .int .i64 s.f.most, .int .i64 s.v.n, .string s.v.s, .slice ta s.t.length tc, .slice la s.l.length lc], .int .i64 2] w (Pens g w1 xs (s.memB 2) w) := by
  have hS0 := h.later (newB w (.cells #[.int .i64 s.op, .int .i64 s.fm, .int .i64 s.fd, .int .i64 s.pl, .int .i64 s.tt, .int .i64 s.a, .int .i64 s.b, .int .i64 s.f.id, .int .i64 s.f.kind, .int .i64 s.f.lo, .int .i64 s.f.hi, .int .i64 s.f.most, .int .i64 s.v.n, .string s.v.s, .slice ta s.t.length tc, .slice la s.l.length lc] 29))
  have hB0 := Block.new w 29 [.int .i64 s.op, .int .i64 s.fm, .int .i64 s.fd, .int .i64 s.pl, .int .i64 s.tt, .int .i64 s.a, .int .i64 s.b, .int .i64 s.f.id, .int .i64 s.f.kind, .int .i64 s.f.lo, .int .i64 s.f.hi, .int .i64 s.f.most, .int .i64 s.v.n, .string s.v.s, .slice ta s.t.length tc, .slice la s.l.length lc]
  have hne : w.heap.size ≠ g := by have := h.1.1.lt; omega
  have HK0 : Hid (Stays g w (w.alloc (.cells #[.int .i64 s.op, .int .i64 s.fm, .int .i64 s.fd, .int .i64 s.pl, .int .i64 s.tt, .int .i64 s.a, .int .i64 s.b, .int .i64 s.f.id, .int .i64 s.f.kind, .int .i64 s.f.lo, .int .i64 s.f.hi, .int .i64 s.f.most, .int .i64 s.v.n, .string s.v.s, .slice ta s.t.length tc, .slice la s.l.length lc] 29))) := hid (Stays.later (newB _ _))
  have hok := fine_ok (m := 2) (by omega) hfine
  clear h
  have hq : 0 ≤ s.pl ∧ s.pl ≤ 8 := hok 112 (by simp [lets])
  clear hok hfine
  have hmb : s.memB 2 = vb s.pl.toNat := by simp [Sp.memB, lets, Sp.letB]
  rw [hmb]
  clear hmb
  unfold Pens
  have c1 := count_pen hS0 s.pl (by omega) (by omega) (by omega)
  clear hS0
  go_enter Try.func35, Try.ntmps35
  go_wp2_with (first
    | (go_at_call 34; ((with_reducible refine c1.mono ?_); clear c1; rintro e u1 ⟨rfl, v1, hS1, hK1⟩; have hB1 := hK1 _ _ _ hB0 st_ty hne;  have HS1 := hid hS1; clear hS1)))
  exact ret0 rfl rfl ⟨rfl, v1, by simpa only [List.append_assoc] using HS1.out, HK0.out.trans (hK1)⟩
set_option maxRecDepth 20000 in
set_option maxHeartbeats 1600000 in
theorem pm3 {g : Nat} {w1 : World} {xs : List Nat} {v : Value} {w : World} (h : PS g w1 xs v w) (hg : w1.heap.size = g) (s : Sp) (ta : Option Addr) (tc : Nat) (la : Option Addr) (lc : Nat) (HL : Hid (Lists w1 s ta la)) (hfine : s.Fine 3) (hn : xs.length ≤ 800000) :
    Calls Try.prog 35 #[.pointer (some ⟨g, 0, none⟩), .agg #[.int .i64 s.op, .int .i64 s.fm, .int .i64 s.fd, .int .i64 s.pl, .int .i64 s.tt, .int .i64 s.a, .int .i64 s.b, .int .i64 s.f.id, .int .i64 s.f.kind, .int .i64 s.f.lo, .int .i64 s.f.hi, .int .i64 s.f.most, .int .i64 s.v.n, .string s.v.s, .slice ta s.t.length tc, .slice la s.l.length lc], .int .i64 3] w (Pens g w1 xs (s.memB 3) w) := by
  have hS0 := h.later (newB w (.cells #[.int .i64 s.op, .int .i64 s.fm, .int .i64 s.fd, .int .i64 s.pl, .int .i64 s.tt, .int .i64 s.a, .int .i64 s.b, .int .i64 s.f.id, .int .i64 s.f.kind, .int .i64 s.f.lo, .int .i64 s.f.hi, .int .i64 s.f.most, .int .i64 s.v.n, .string s.v.s, .slice ta s.t.length tc, .slice la s.l.length lc] 29))
  have hB0 := Block.new w 29 [.int .i64 s.op, .int .i64 s.fm, .int .i64 s.fd, .int .i64 s.pl, .int .i64 s.tt, .int .i64 s.a, .int .i64 s.b, .int .i64 s.f.id, .int .i64 s.f.kind, .int .i64 s.f.lo, .int .i64 s.f.hi, .int .i64 s.f.most, .int .i64 s.v.n, .string s.v.s, .slice ta s.t.length tc, .slice la s.l.length lc]
  have hne : w.heap.size ≠ g := by have := h.1.1.lt; omega
  have HK0 : Hid (Stays g w (w.alloc (.cells #[.int .i64 s.op, .int .i64 s.fm, .int .i64 s.fd, .int .i64 s.pl, .int .i64 s.tt, .int .i64 s.a, .int .i64 s.b, .int .i64 s.f.id, .int .i64 s.f.kind, .int .i64 s.f.lo, .int .i64 s.f.hi, .int .i64 s.f.most, .int .i64 s.v.n, .string s.v.s, .slice ta s.t.length tc, .slice la s.l.length lc] 29))) := hid (Stays.later (newB _ _))
  have hok := fine_ok (m := 3) (by omega) hfine
  clear h
  have hq : 0 ≤ s.tt ∧ s.tt ≤ 255 := hok 116 (by simp [lets])
  clear hok hfine
  have hmb : s.memB 3 = vb s.tt.toNat := by simp [Sp.memB, lets, Sp.letB]
  rw [hmb]
  clear hmb
  unfold Pens
  have c1 := count_pen hS0 s.tt (by omega) (by omega) (by omega)
  clear hS0
  go_enter Try.func35, Try.ntmps35
  go_wp2_with (first
    | (go_at_call 34; ((with_reducible refine c1.mono ?_); clear c1; rintro e u1 ⟨rfl, v1, hS1, hK1⟩; have hB1 := hK1 _ _ _ hB0 st_ty hne;  have HS1 := hid hS1; clear hS1)))
  exact ret0 rfl rfl ⟨rfl, v1, by simpa only [List.append_assoc] using HS1.out, HK0.out.trans (hK1)⟩
set_option maxRecDepth 20000 in
set_option maxHeartbeats 1600000 in
theorem pm4 {g : Nat} {w1 : World} {xs : List Nat} {v : Value} {w : World} (h : PS g w1 xs v w) (hg : w1.heap.size = g) (s : Sp) (ta : Option Addr) (tc : Nat) (la : Option Addr) (lc : Nat) (HL : Hid (Lists w1 s ta la)) (hfine : s.Fine 4) (hn : xs.length ≤ 800000) :
    Calls Try.prog 35 #[.pointer (some ⟨g, 0, none⟩), .agg #[.int .i64 s.op, .int .i64 s.fm, .int .i64 s.fd, .int .i64 s.pl, .int .i64 s.tt, .int .i64 s.a, .int .i64 s.b, .int .i64 s.f.id, .int .i64 s.f.kind, .int .i64 s.f.lo, .int .i64 s.f.hi, .int .i64 s.f.most, .int .i64 s.v.n, .string s.v.s, .slice ta s.t.length tc, .slice la s.l.length lc], .int .i64 4] w (Pens g w1 xs (s.memB 4) w) := by
  have hS0 := h.later (newB w (.cells #[.int .i64 s.op, .int .i64 s.fm, .int .i64 s.fd, .int .i64 s.pl, .int .i64 s.tt, .int .i64 s.a, .int .i64 s.b, .int .i64 s.f.id, .int .i64 s.f.kind, .int .i64 s.f.lo, .int .i64 s.f.hi, .int .i64 s.f.most, .int .i64 s.v.n, .string s.v.s, .slice ta s.t.length tc, .slice la s.l.length lc] 29))
  have hB0 := Block.new w 29 [.int .i64 s.op, .int .i64 s.fm, .int .i64 s.fd, .int .i64 s.pl, .int .i64 s.tt, .int .i64 s.a, .int .i64 s.b, .int .i64 s.f.id, .int .i64 s.f.kind, .int .i64 s.f.lo, .int .i64 s.f.hi, .int .i64 s.f.most, .int .i64 s.v.n, .string s.v.s, .slice ta s.t.length tc, .slice la s.l.length lc]
  have hne : w.heap.size ≠ g := by have := h.1.1.lt; omega
  have HK0 : Hid (Stays g w (w.alloc (.cells #[.int .i64 s.op, .int .i64 s.fm, .int .i64 s.fd, .int .i64 s.pl, .int .i64 s.tt, .int .i64 s.a, .int .i64 s.b, .int .i64 s.f.id, .int .i64 s.f.kind, .int .i64 s.f.lo, .int .i64 s.f.hi, .int .i64 s.f.most, .int .i64 s.v.n, .string s.v.s, .slice ta s.t.length tc, .slice la s.l.length lc] 29))) := hid (Stays.later (newB _ _))
  have hok := fine_ok (m := 4) (by omega) hfine
  clear h
  have hq : 0 ≤ s.a ∧ s.a ≤ 1048576 := hok 97 (by simp [lets])
  clear hok hfine
  have hmb : s.memB 4 = vb s.a.toNat := by simp [Sp.memB, lets, Sp.letB]
  rw [hmb]
  clear hmb
  unfold Pens
  have c1 := count_pen hS0 s.a (by omega) (by omega) (by omega)
  clear hS0
  go_enter Try.func35, Try.ntmps35
  go_wp2_with (first
    | (go_at_call 34; ((with_reducible refine c1.mono ?_); clear c1; rintro e u1 ⟨rfl, v1, hS1, hK1⟩; have hB1 := hK1 _ _ _ hB0 st_ty hne;  have HS1 := hid hS1; clear hS1)))
  exact ret0 rfl rfl ⟨rfl, v1, by simpa only [List.append_assoc] using HS1.out, HK0.out.trans (hK1)⟩
set_option maxRecDepth 20000 in
set_option maxHeartbeats 1600000 in
theorem pm5 {g : Nat} {w1 : World} {xs : List Nat} {v : Value} {w : World} (h : PS g w1 xs v w) (hg : w1.heap.size = g) (s : Sp) (ta : Option Addr) (tc : Nat) (la : Option Addr) (lc : Nat) (HL : Hid (Lists w1 s ta la)) (hfine : s.Fine 5) (hn : xs.length ≤ 800000) :
    Calls Try.prog 35 #[.pointer (some ⟨g, 0, none⟩), .agg #[.int .i64 s.op, .int .i64 s.fm, .int .i64 s.fd, .int .i64 s.pl, .int .i64 s.tt, .int .i64 s.a, .int .i64 s.b, .int .i64 s.f.id, .int .i64 s.f.kind, .int .i64 s.f.lo, .int .i64 s.f.hi, .int .i64 s.f.most, .int .i64 s.v.n, .string s.v.s, .slice ta s.t.length tc, .slice la s.l.length lc], .int .i64 5] w (Pens g w1 xs (s.memB 5) w) := by
  have hS0 := h.later (newB w (.cells #[.int .i64 s.op, .int .i64 s.fm, .int .i64 s.fd, .int .i64 s.pl, .int .i64 s.tt, .int .i64 s.a, .int .i64 s.b, .int .i64 s.f.id, .int .i64 s.f.kind, .int .i64 s.f.lo, .int .i64 s.f.hi, .int .i64 s.f.most, .int .i64 s.v.n, .string s.v.s, .slice ta s.t.length tc, .slice la s.l.length lc] 29))
  have hB0 := Block.new w 29 [.int .i64 s.op, .int .i64 s.fm, .int .i64 s.fd, .int .i64 s.pl, .int .i64 s.tt, .int .i64 s.a, .int .i64 s.b, .int .i64 s.f.id, .int .i64 s.f.kind, .int .i64 s.f.lo, .int .i64 s.f.hi, .int .i64 s.f.most, .int .i64 s.v.n, .string s.v.s, .slice ta s.t.length tc, .slice la s.l.length lc]
  have hne : w.heap.size ≠ g := by have := h.1.1.lt; omega
  have HK0 : Hid (Stays g w (w.alloc (.cells #[.int .i64 s.op, .int .i64 s.fm, .int .i64 s.fd, .int .i64 s.pl, .int .i64 s.tt, .int .i64 s.a, .int .i64 s.b, .int .i64 s.f.id, .int .i64 s.f.kind, .int .i64 s.f.lo, .int .i64 s.f.hi, .int .i64 s.f.most, .int .i64 s.v.n, .string s.v.s, .slice ta s.t.length tc, .slice la s.l.length lc] 29))) := hid (Stays.later (newB _ _))
  have hok := fine_ok (m := 5) (by omega) hfine
  clear h
  have hq : InOk s.a ∧ InOk s.b := hok 98 (by simp [lets])
  have la1 := vb_ten (zig s.a) (zig_lt _ hq.1.1 hq.1.2)
  clear hok hfine
  have hmb : s.memB 5 = vb (zig s.a) ++ vb (zig s.b) := by simp [Sp.memB, lets, Sp.letB]
  rw [hmb]
  clear hmb
  unfold Pens
  have c1 := num_pen hS0 s.a hq.1.1 hq.1.2 (by omega)
  have C2 := hid (fun v w' (h : PS g w1 (xs ++ vb (zig s.a)) v w') => num_pen h s.b hq.2.1 hq.2.2 (by simp only [List.length_append]; omega))
  clear hS0
  go_enter Try.func35, Try.ntmps35
  go_wp2_with (first
    | (go_at_call 56; ((with_reducible refine c1.mono ?_); clear c1; rintro e u1 ⟨rfl, v1, hS1, hK1⟩; have hB1 := hK1 _ _ _ hB0 st_ty hne; have z6 := hB1.cell 6; have c2 := C2.out _ _ hS1; have HS1 := hid hS1; clear hS1))
    | (go_at_call 56; ((with_reducible refine c2.mono ?_); clear c2; rintro e u2 ⟨rfl, v2, hS2, hK2⟩; have hB2 := hK2 _ _ _ hB1 st_ty hne;  have HS2 := hid hS2; clear hS2)))
  exact ret0 rfl rfl ⟨rfl, v2, by simpa only [List.append_assoc] using HS2.out, HK0.out.trans (hK1.trans (hK2))⟩
set_option maxRecDepth 20000 in
set_option maxHeartbeats 1600000 in
theorem pm8 {g : Nat} {w1 : World} {xs : List Nat} {v : Value} {w : World} (h : PS g w1 xs v w) (hg : w1.heap.size = g) (s : Sp) (ta : Option Addr) (tc : Nat) (la : Option Addr) (lc : Nat) (HL : Hid (Lists w1 s ta la)) (hfine : s.Fine 8) (hn : xs.length ≤ 800000) :
    Calls Try.prog 35 #[.pointer (some ⟨g, 0, none⟩), .agg #[.int .i64 s.op, .int .i64 s.fm, .int .i64 s.fd, .int .i64 s.pl, .int .i64 s.tt, .int .i64 s.a, .int .i64 s.b, .int .i64 s.f.id, .int .i64 s.f.kind, .int .i64 s.f.lo, .int .i64 s.f.hi, .int .i64 s.f.most, .int .i64 s.v.n, .string s.v.s, .slice ta s.t.length tc, .slice la s.l.length lc], .int .i64 8] w (Pens g w1 xs (s.memB 8) w) := by
  have hS0 := h.later (newB w (.cells #[.int .i64 s.op, .int .i64 s.fm, .int .i64 s.fd, .int .i64 s.pl, .int .i64 s.tt, .int .i64 s.a, .int .i64 s.b, .int .i64 s.f.id, .int .i64 s.f.kind, .int .i64 s.f.lo, .int .i64 s.f.hi, .int .i64 s.f.most, .int .i64 s.v.n, .string s.v.s, .slice ta s.t.length tc, .slice la s.l.length lc] 29))
  have hB0 := Block.new w 29 [.int .i64 s.op, .int .i64 s.fm, .int .i64 s.fd, .int .i64 s.pl, .int .i64 s.tt, .int .i64 s.a, .int .i64 s.b, .int .i64 s.f.id, .int .i64 s.f.kind, .int .i64 s.f.lo, .int .i64 s.f.hi, .int .i64 s.f.most, .int .i64 s.v.n, .string s.v.s, .slice ta s.t.length tc, .slice la s.l.length lc]
  have hne : w.heap.size ≠ g := by have := h.1.1.lt; omega
  have HK0 : Hid (Stays g w (w.alloc (.cells #[.int .i64 s.op, .int .i64 s.fm, .int .i64 s.fd, .int .i64 s.pl, .int .i64 s.tt, .int .i64 s.a, .int .i64 s.b, .int .i64 s.f.id, .int .i64 s.f.kind, .int .i64 s.f.lo, .int .i64 s.f.hi, .int .i64 s.f.most, .int .i64 s.v.n, .string s.v.s, .slice ta s.t.length tc, .slice la s.l.length lc] 29))) := hid (Stays.later (newB _ _))
  have hok := fine_ok (m := 8) (by omega) hfine
  clear h
  have hq : FieldOk s.f := hok 70 (by simp [lets])
  clear hok hfine
  have hmb : s.memB 8 = fieldA s.f := by simp [Sp.memB, lets, Sp.letB]
  rw [hmb]
  clear hmb
  unfold Pens
  have c1 := printField_any hS0 s.f hq (by omega)
  clear hS0
  go_enter Try.func35, Try.ntmps35
  go_wp2_with (first
    | (go_at_call 57; ((with_reducible refine c1.mono ?_); clear c1; rintro e u1 ⟨rfl, v1, hS1, hK1⟩; have hB1 := hK1 _ _ _ hB0 st_ty hne;  have HS1 := hid hS1; clear hS1)))
  exact ret0 rfl rfl ⟨rfl, v1, by simpa only [List.append_assoc] using HS1.out, HK0.out.trans (hK1)⟩
set_option maxRecDepth 20000 in
set_option maxHeartbeats 1600000 in
theorem pm9 {g : Nat} {w1 : World} {xs : List Nat} {v : Value} {w : World} (h : PS g w1 xs v w) (hg : w1.heap.size = g) (s : Sp) (ta : Option Addr) (tc : Nat) (la : Option Addr) (lc : Nat) (HL : Hid (Lists w1 s ta la)) (hfine : s.Fine 9) (hn : xs.length ≤ 800000) :
    Calls Try.prog 35 #[.pointer (some ⟨g, 0, none⟩), .agg #[.int .i64 s.op, .int .i64 s.fm, .int .i64 s.fd, .int .i64 s.pl, .int .i64 s.tt, .int .i64 s.a, .int .i64 s.b, .int .i64 s.f.id, .int .i64 s.f.kind, .int .i64 s.f.lo, .int .i64 s.f.hi, .int .i64 s.f.most, .int .i64 s.v.n, .string s.v.s, .slice ta s.t.length tc, .slice la s.l.length lc], .int .i64 9] w (Pens g w1 xs (s.memB 9) w) := by
  have hS0 := h.later (newB w (.cells #[.int .i64 s.op, .int .i64 s.fm, .int .i64 s.fd, .int .i64 s.pl, .int .i64 s.tt, .int .i64 s.a, .int .i64 s.b, .int .i64 s.f.id, .int .i64 s.f.kind, .int .i64 s.f.lo, .int .i64 s.f.hi, .int .i64 s.f.most, .int .i64 s.v.n, .string s.v.s, .slice ta s.t.length tc, .slice la s.l.length lc] 29))
  have hB0 := Block.new w 29 [.int .i64 s.op, .int .i64 s.fm, .int .i64 s.fd, .int .i64 s.pl, .int .i64 s.tt, .int .i64 s.a, .int .i64 s.b, .int .i64 s.f.id, .int .i64 s.f.kind, .int .i64 s.f.lo, .int .i64 s.f.hi, .int .i64 s.f.most, .int .i64 s.v.n, .string s.v.s, .slice ta s.t.length tc, .slice la s.l.length lc]
  have hne : w.heap.size ≠ g := by have := h.1.1.lt; omega
  have HK0 : Hid (Stays g w (w.alloc (.cells #[.int .i64 s.op, .int .i64 s.fm, .int .i64 s.fd, .int .i64 s.pl, .int .i64 s.tt, .int .i64 s.a, .int .i64 s.b, .int .i64 s.f.id, .int .i64 s.f.kind, .int .i64 s.f.lo, .int .i64 s.f.hi, .int .i64 s.f.most, .int .i64 s.v.n, .string s.v.s, .slice ta s.t.length tc, .slice la s.l.length lc] 29))) := hid (Stays.later (newB _ _))
  have hok := fine_ok (m := 9) (by omega) hfine
  clear h
  have hq : FieldOk s.f := hok 70 (by simp [lets])
  have hr : InOk s.v.n ∧ s.v.s.size ≤ 32 := hok 86 (by simp [lets])
  have la1 := fieldA_len hq
  have la2 := vb_ten (zig s.v.n) (zig_lt _ hr.1.1 hr.1.2)
  clear hok hfine
  have hmb : s.memB 9 = fieldA s.f ++ vb (zig s.v.n) ++ (vb s.v.s.size ++ bytesOf s.v.s) := by simp [Sp.memB, lets, Sp.letB]
  rw [hmb]
  clear hmb
  unfold Pens
  have c1 := printField_any hS0 s.f hq (by omega)
  have C2 := hid (fun v w' (h : PS g w1 (xs ++ fieldA s.f) v w') => num_pen h s.v.n hr.1.1 hr.1.2 (by simp only [List.length_append]; omega))
  have C3 := hid (fun v w' (h : PS g w1 (xs ++ fieldA s.f ++ vb (zig s.v.n)) v w') => text_pen h s.v.s (by omega) (by simp only [List.length_append]; omega))
  clear hS0
  go_enter Try.func35, Try.ntmps35
  go_wp2_with (first
    | (go_at_call 57; ((with_reducible refine c1.mono ?_); clear c1; rintro e u1 ⟨rfl, v1, hS1, hK1⟩; have hB1 := hK1 _ _ _ hB0 st_ty hne; have z12 := hB1.cell 12; have c2 := C2.out _ _ hS1; have HS1 := hid hS1; clear hS1))
    | (go_at_call 56; ((with_reducible refine c2.mono ?_); clear c2; rintro e u2 ⟨rfl, v2, hS2, hK2⟩; have hB2 := hK2 _ _ _ hB1 st_ty hne; have z13 := hB2.cell 13; have c3 := C3.out _ _ hS2; have HS2 := hid hS2; clear hS2))
    | (go_at_call 58; ((with_reducible refine c3.mono ?_); clear c3; rintro e u3 ⟨rfl, v3, hS3, hK3⟩; have hB3 := hK3 _ _ _ hB2 st_ty hne;  have HS3 := hid hS3; clear hS3)))
  exact ret0 rfl rfl ⟨rfl, v3, by simpa only [List.append_assoc] using HS3.out, HK0.out.trans (hK1.trans (hK2.trans (hK3)))⟩
set_option maxRecDepth 20000 in
set_option maxHeartbeats 1600000 in
theorem pm10 {g : Nat} {w1 : World} {xs : List Nat} {v : Value} {w : World} (h : PS g w1 xs v w) (hg : w1.heap.size = g) (s : Sp) (ta : Option Addr) (tc : Nat) (la : Option Addr) (lc : Nat) (HL : Hid (Lists w1 s ta la)) (hfine : s.Fine 10) (hn : xs.length ≤ 800000) :
    Calls Try.prog 35 #[.pointer (some ⟨g, 0, none⟩), .agg #[.int .i64 s.op, .int .i64 s.fm, .int .i64 s.fd, .int .i64 s.pl, .int .i64 s.tt, .int .i64 s.a, .int .i64 s.b, .int .i64 s.f.id, .int .i64 s.f.kind, .int .i64 s.f.lo, .int .i64 s.f.hi, .int .i64 s.f.most, .int .i64 s.v.n, .string s.v.s, .slice ta s.t.length tc, .slice la s.l.length lc], .int .i64 10] w (Pens g w1 xs (s.memB 10) w) := by
  have hS0 := h.later (newB w (.cells #[.int .i64 s.op, .int .i64 s.fm, .int .i64 s.fd, .int .i64 s.pl, .int .i64 s.tt, .int .i64 s.a, .int .i64 s.b, .int .i64 s.f.id, .int .i64 s.f.kind, .int .i64 s.f.lo, .int .i64 s.f.hi, .int .i64 s.f.most, .int .i64 s.v.n, .string s.v.s, .slice ta s.t.length tc, .slice la s.l.length lc] 29))
  have hB0 := Block.new w 29 [.int .i64 s.op, .int .i64 s.fm, .int .i64 s.fd, .int .i64 s.pl, .int .i64 s.tt, .int .i64 s.a, .int .i64 s.b, .int .i64 s.f.id, .int .i64 s.f.kind, .int .i64 s.f.lo, .int .i64 s.f.hi, .int .i64 s.f.most, .int .i64 s.v.n, .string s.v.s, .slice ta s.t.length tc, .slice la s.l.length lc]
  have hne : w.heap.size ≠ g := by have := h.1.1.lt; omega
  have HK0 : Hid (Stays g w (w.alloc (.cells #[.int .i64 s.op, .int .i64 s.fm, .int .i64 s.fd, .int .i64 s.pl, .int .i64 s.tt, .int .i64 s.a, .int .i64 s.b, .int .i64 s.f.id, .int .i64 s.f.kind, .int .i64 s.f.lo, .int .i64 s.f.hi, .int .i64 s.f.most, .int .i64 s.v.n, .string s.v.s, .slice ta s.t.length tc, .slice la s.l.length lc] 29))) := hid (Stays.later (newB _ _))
  have hok := fine_ok (m := 10) (by omega) hfine
  clear h
  have hr : InOk s.v.n ∧ s.v.s.size ≤ 32 := hok 86 (by simp [lets])
  have la2 := vb_ten (zig s.v.n) (zig_lt _ hr.1.1 hr.1.2)
  clear hok hfine
  have hmb : s.memB 10 = vb (zig s.v.n) ++ (vb s.v.s.size ++ bytesOf s.v.s) := by simp [Sp.memB, lets, Sp.letB]
  rw [hmb]
  clear hmb
  unfold Pens
  have c1 := num_pen hS0 s.v.n hr.1.1 hr.1.2 (by omega)
  have C2 := hid (fun v w' (h : PS g w1 (xs ++ vb (zig s.v.n)) v w') => text_pen h s.v.s (by omega) (by simp only [List.length_append]; omega))
  clear hS0
  go_enter Try.func35, Try.ntmps35
  go_wp2_with (first
    | (go_at_call 56; ((with_reducible refine c1.mono ?_); clear c1; rintro e u1 ⟨rfl, v1, hS1, hK1⟩; have hB1 := hK1 _ _ _ hB0 st_ty hne; have z13 := hB1.cell 13; have c2 := C2.out _ _ hS1; have HS1 := hid hS1; clear hS1))
    | (go_at_call 58; ((with_reducible refine c2.mono ?_); clear c2; rintro e u2 ⟨rfl, v2, hS2, hK2⟩; have hB2 := hK2 _ _ _ hB1 st_ty hne;  have HS2 := hid hS2; clear hS2)))
  exact ret0 rfl rfl ⟨rfl, v2, by simpa only [List.append_assoc] using HS2.out, HK0.out.trans (hK1.trans (hK2))⟩
set_option maxRecDepth 20000 in
set_option maxHeartbeats 1600000 in
theorem pm7 {g : Nat} {w1 : World} {xs : List Nat} {v : Value} {w : World} (h : PS g w1 xs v w) (hg : w1.heap.size = g) (s : Sp) (ta : Option Addr) (tc : Nat) (la : Option Addr) (lc : Nat) (HL : Hid (Lists w1 s ta la)) (hfine : s.Fine 7) (hn : xs.length ≤ 800000) :
    Calls Try.prog 35 #[.pointer (some ⟨g, 0, none⟩), .agg #[.int .i64 s.op, .int .i64 s.fm, .int .i64 s.fd, .int .i64 s.pl, .int .i64 s.tt, .int .i64 s.a, .int .i64 s.b, .int .i64 s.f.id, .int .i64 s.f.kind, .int .i64 s.f.lo, .int .i64 s.f.hi, .int .i64 s.f.most, .int .i64 s.v.n, .string s.v.s, .slice ta s.t.length tc, .slice la s.l.length lc], .int .i64 7] w (Pens g w1 xs (s.memB 7) w) := by
  have hS0 := h.later (newB w (.cells #[.int .i64 s.op, .int .i64 s.fm, .int .i64 s.fd, .int .i64 s.pl, .int .i64 s.tt, .int .i64 s.a, .int .i64 s.b, .int .i64 s.f.id, .int .i64 s.f.kind, .int .i64 s.f.lo, .int .i64 s.f.hi, .int .i64 s.f.most, .int .i64 s.v.n, .string s.v.s, .slice ta s.t.length tc, .slice la s.l.length lc] 29))
  have hB0 := Block.new w 29 [.int .i64 s.op, .int .i64 s.fm, .int .i64 s.fd, .int .i64 s.pl, .int .i64 s.tt, .int .i64 s.a, .int .i64 s.b, .int .i64 s.f.id, .int .i64 s.f.kind, .int .i64 s.f.lo, .int .i64 s.f.hi, .int .i64 s.f.most, .int .i64 s.v.n, .string s.v.s, .slice ta s.t.length tc, .slice la s.l.length lc]
  have hne : w.heap.size ≠ g := by have := h.1.1.lt; omega
  have HK0 : Hid (Stays g w (w.alloc (.cells #[.int .i64 s.op, .int .i64 s.fm, .int .i64 s.fd, .int .i64 s.pl, .int .i64 s.tt, .int .i64 s.a, .int .i64 s.b, .int .i64 s.f.id, .int .i64 s.f.kind, .int .i64 s.f.lo, .int .i64 s.f.hi, .int .i64 s.f.most, .int .i64 s.v.n, .string s.v.s, .slice ta s.t.length tc, .slice la s.l.length lc] 29))) := hid (Stays.later (newB _ _))
  have hok := fine_ok (m := 7) (by omega) hfine
  clear h
  have hq2 : s.t.length ≤ 64 ∧ ∀ n ∈ s.t, 0 ≤ n ∧ n ≤ 1000 := hok 84 (by simp [lets])
  have lt1 := vb_ten (s.t.length : Int).toNat (by omega)
  clear hok hfine
  have hmb : s.memB 7 = vb (s.t.length : Int).toNat ++ numsA s.t := by simp [Sp.memB, lets, Sp.letB]
  rw [hmb]
  clear hmb
  unfold Pens
  have c1 := count_pen hS0 (s.t.length : Int) (by omega) (by omega) (by omega)
  clear hS0
  go_enter Try.func35, Try.ntmps35
  go_wp2_with (first
    | (go_at_call 34; ((with_reducible refine c1.mono ?_); clear c1; rintro e u1 ⟨rfl, v1, hS1, hK1⟩; have hB1 := hK1 _ _ _ hB0 st_ty hne; have z14 := hB1.cell 14; have HS1 := hid hS1; clear hS1)))
  have HKn : Hid (Stays g w u1) := hid (HK0.out.trans (hK1))
  have HBW := hid (show Below w1.heap.size w1 u1 by rw [hg]; exact HS1.out.2.1)
  obtain ⟨Y, hY⟩ : ∃ Y : List Nat, Hid (xs ++ vb (s.t.length : Int).toNat = Y) := ⟨_, hid rfl⟩
  have HYL : Hid (Y.length ≤ 800020) := hid (by rw [← hY.out]; simp only [List.length_append]; omega)
  rw [hY.out] at HS1
  go_loopw [75] (fun m wr => ∃ k : Nat, k ≤ s.t.length ∧ m = .int .i64 (k : Int) ∧ Hid (∃ vP, PS g w1 (Y ++ numsA (s.t.take k)) vP wr ∧ Stays g w wr)) (fun m _ => s.t.length - (intOf m).toNat)
  case atStart => exact ⟨0, Nat.zero_le _, rfl, hid ⟨v1, by simpa [numsA] using HS1.out, HKn.out⟩⟩
  case round =>
    obtain ⟨k, hk, rfl, HS⟩ := hrel
    obtain ⟨vP, hS, hKr⟩ := HS.out
    by_cases hlt : k < s.t.length
    · obtain ⟨b, off, p, rfl, hbl, hp, c0⟩ := int_at HL.out.t (show Below w1.heap.size w1 _ by rw [hg]; exact hS.2.1) hlt
      have i1 : (k : Int) < s.t.length := by omega
      have HTK := hid (numsA_succ hp)
      have hpr := hq2.2 p (List.mem_of_getElem? hp)
      have l1 := numsA_len (L := s.t.take k) (fun n hn => hq2.2 n (List.mem_of_mem_take hn))
      have l2 : (s.t.take k).length ≤ s.t.length := by simp; omega
      have l3 := HYL.out
      have cP := count_pen hS p hpr.1 (by omega) (by simp only [List.length_append]; omega)
      have HKR := hid hKr
      clear hp hKr hS HS
      go_wp2_with (go_at_call 34; ((with_reducible refine cP.mono ?_); rintro e wq ⟨rfl, vq, hSq, hKq⟩; have HSQ := hid hSq; clear hSq))
      exact ⟨⟨k + 1, by omega, by go_num, hid ⟨vq, by rw [HTK.out]; simpa only [List.append_assoc] using HSQ.out, HKR.out.trans hKq⟩⟩, by simp [intOf]; omega⟩
    · obtain rfl : k = s.t.length := by omega
      rw [List.take_of_length_le (Nat.le_refl _), ← hY.out] at hS
      have HSE := hid hS
      have HKE := hid hKr
      clear hS hKr HS
      go_wp2
      exact ret0 rfl rfl ⟨rfl, vP, by simpa only [List.append_assoc, Int.toNat_natCast] using HSE.out, HKE.out⟩
set_option maxRecDepth 20000 in
set_option maxHeartbeats 1600000 in
theorem pm6 {g : Nat} {w1 : World} {xs : List Nat} {v : Value} {w : World} (h : PS g w1 xs v w) (hg : w1.heap.size = g) (s : Sp) (ta : Option Addr) (tc : Nat) (la : Option Addr) (lc : Nat) (HL : Hid (Lists w1 s ta la)) (hfine : s.Fine 6) (hn : xs.length ≤ 800000) :
    Calls Try.prog 35 #[.pointer (some ⟨g, 0, none⟩), .agg #[.int .i64 s.op, .int .i64 s.fm, .int .i64 s.fd, .int .i64 s.pl, .int .i64 s.tt, .int .i64 s.a, .int .i64 s.b, .int .i64 s.f.id, .int .i64 s.f.kind, .int .i64 s.f.lo, .int .i64 s.f.hi, .int .i64 s.f.most, .int .i64 s.v.n, .string s.v.s, .slice ta s.t.length tc, .slice la s.l.length lc], .int .i64 6] w (Pens g w1 xs (s.memB 6) w) := by
  have hS0 := h.later (newB w (.cells #[.int .i64 s.op, .int .i64 s.fm, .int .i64 s.fd, .int .i64 s.pl, .int .i64 s.tt, .int .i64 s.a, .int .i64 s.b, .int .i64 s.f.id, .int .i64 s.f.kind, .int .i64 s.f.lo, .int .i64 s.f.hi, .int .i64 s.f.most, .int .i64 s.v.n, .string s.v.s, .slice ta s.t.length tc, .slice la s.l.length lc] 29))
  have hB0 := Block.new w 29 [.int .i64 s.op, .int .i64 s.fm, .int .i64 s.fd, .int .i64 s.pl, .int .i64 s.tt, .int .i64 s.a, .int .i64 s.b, .int .i64 s.f.id, .int .i64 s.f.kind, .int .i64 s.f.lo, .int .i64 s.f.hi, .int .i64 s.f.most, .int .i64 s.v.n, .string s.v.s, .slice ta s.t.length tc, .slice la s.l.length lc]
  have hne : w.heap.size ≠ g := by have := h.1.1.lt; omega
  have HK0 : Hid (Stays g w (w.alloc (.cells #[.int .i64 s.op, .int .i64 s.fm, .int .i64 s.fd, .int .i64 s.pl, .int .i64 s.tt, .int .i64 s.a, .int .i64 s.b, .int .i64 s.f.id, .int .i64 s.f.kind, .int .i64 s.f.lo, .int .i64 s.f.hi, .int .i64 s.f.most, .int .i64 s.v.n, .string s.v.s, .slice ta s.t.length tc, .slice la s.l.length lc] 29))) := hid (Stays.later (newB _ _))
  have hok := fine_ok (m := 6) (by omega) hfine
  clear h
  have hq : 0 ≤ s.a ∧ s.a ≤ 1048576 := hok 97 (by simp [lets])
  have la1 := vb_ten s.a.toNat (by omega)
  have hq2 : s.t.length ≤ 64 ∧ ∀ n ∈ s.t, 0 ≤ n ∧ n ≤ 1000 := hok 84 (by simp [lets])
  have lt1 := vb_ten (s.t.length : Int).toNat (by omega)
  clear hok hfine
  have hmb : s.memB 6 = vb s.a.toNat ++ vb (s.t.length : Int).toNat ++ numsA s.t := by simp [Sp.memB, lets, Sp.letB]
  rw [hmb]
  clear hmb
  unfold Pens
  have c1 := count_pen hS0 s.a (by omega) (by omega) (by omega)
  have C2 := hid (fun v w' (h : PS g w1 (xs ++ vb s.a.toNat) v w') => count_pen h (s.t.length : Int) (by omega) (by omega) (by simp only [List.length_append]; omega))
  clear hS0
  go_enter Try.func35, Try.ntmps35
  go_wp2_with (first
    | (go_at_call 34; ((with_reducible refine c1.mono ?_); clear c1; rintro e u1 ⟨rfl, v1, hS1, hK1⟩; have hB1 := hK1 _ _ _ hB0 st_ty hne; have z14 := hB1.cell 14; have c2 := C2.out _ _ hS1; have HS1 := hid hS1; clear hS1))
    | (go_at_call 34; ((with_reducible refine c2.mono ?_); clear c2; rintro e u2 ⟨rfl, v2, hS2, hK2⟩; have hB2 := hK2 _ _ _ hB1 st_ty hne; have z14 := hB2.cell 14; have HS2 := hid hS2; clear hS2)))
  have HKn : Hid (Stays g w u2) := hid (HK0.out.trans (hK1.trans (hK2)))
  have HBW := hid (show Below w1.heap.size w1 u2 by rw [hg]; exact HS2.out.2.1)
  obtain ⟨Y, hY⟩ : ∃ Y : List Nat, Hid (xs ++ vb s.a.toNat ++ vb (s.t.length : Int).toNat = Y) := ⟨_, hid rfl⟩
  have HYL : Hid (Y.length ≤ 800020) := hid (by rw [← hY.out]; simp only [List.length_append]; omega)
  rw [hY.out] at HS2
  go_loopw [75] (fun m wr => ∃ k : Nat, k ≤ s.t.length ∧ m = .int .i64 (k : Int) ∧ Hid (∃ vP, PS g w1 (Y ++ numsA (s.t.take k)) vP wr ∧ Stays g w wr)) (fun m _ => s.t.length - (intOf m).toNat)
  case atStart => exact ⟨0, Nat.zero_le _, rfl, hid ⟨v2, by simpa [numsA] using HS2.out, HKn.out⟩⟩
  case round =>
    obtain ⟨k, hk, rfl, HS⟩ := hrel
    obtain ⟨vP, hS, hKr⟩ := HS.out
    by_cases hlt : k < s.t.length
    · obtain ⟨b, off, p, rfl, hbl, hp, c0⟩ := int_at HL.out.t (show Below w1.heap.size w1 _ by rw [hg]; exact hS.2.1) hlt
      have i1 : (k : Int) < s.t.length := by omega
      have HTK := hid (numsA_succ hp)
      have hpr := hq2.2 p (List.mem_of_getElem? hp)
      have l1 := numsA_len (L := s.t.take k) (fun n hn => hq2.2 n (List.mem_of_mem_take hn))
      have l2 : (s.t.take k).length ≤ s.t.length := by simp; omega
      have l3 := HYL.out
      have cP := count_pen hS p hpr.1 (by omega) (by simp only [List.length_append]; omega)
      have HKR := hid hKr
      clear hp hKr hS HS
      go_wp2_with (go_at_call 34; ((with_reducible refine cP.mono ?_); rintro e wq ⟨rfl, vq, hSq, hKq⟩; have HSQ := hid hSq; clear hSq))
      exact ⟨⟨k + 1, by omega, by go_num, hid ⟨vq, by rw [HTK.out]; simpa only [List.append_assoc] using HSQ.out, HKR.out.trans hKq⟩⟩, by simp [intOf]; omega⟩
    · obtain rfl : k = s.t.length := by omega
      rw [List.take_of_length_le (Nat.le_refl _), ← hY.out] at hS
      have HSE := hid hS
      have HKE := hid hKr
      clear hS hKr HS
      go_wp2
      exact ret0 rfl rfl ⟨rfl, vP, by simpa only [List.append_assoc, Int.toNat_natCast] using HSE.out, HKE.out⟩
set_option maxRecDepth 20000 in
set_option maxHeartbeats 1600000 in
theorem pm11 {g : Nat} {w1 : World} {xs : List Nat} {v : Value} {w : World} (h : PS g w1 xs v w) (hg : w1.heap.size = g) (s : Sp) (ta : Option Addr) (tc : Nat) (la : Option Addr) (lc : Nat) (HL : Hid (Lists w1 s ta la)) (hfine : s.Fine 11) (hn : xs.length ≤ 800000) :
    Calls Try.prog 35 #[.pointer (some ⟨g, 0, none⟩), .agg #[.int .i64 s.op, .int .i64 s.fm, .int .i64 s.fd, .int .i64 s.pl, .int .i64 s.tt, .int .i64 s.a, .int .i64 s.b, .int .i64 s.f.id, .int .i64 s.f.kind, .int .i64 s.f.lo, .int .i64 s.f.hi, .int .i64 s.f.most, .int .i64 s.v.n, .string s.v.s, .slice ta s.t.length tc, .slice la s.l.length lc], .int .i64 11] w (Pens g w1 xs (s.memB 11) w) := by
  have hS0 := h.later (newB w (.cells #[.int .i64 s.op, .int .i64 s.fm, .int .i64 s.fd, .int .i64 s.pl, .int .i64 s.tt, .int .i64 s.a, .int .i64 s.b, .int .i64 s.f.id, .int .i64 s.f.kind, .int .i64 s.f.lo, .int .i64 s.f.hi, .int .i64 s.f.most, .int .i64 s.v.n, .string s.v.s, .slice ta s.t.length tc, .slice la s.l.length lc] 29))
  have hB0 := Block.new w 29 [.int .i64 s.op, .int .i64 s.fm, .int .i64 s.fd, .int .i64 s.pl, .int .i64 s.tt, .int .i64 s.a, .int .i64 s.b, .int .i64 s.f.id, .int .i64 s.f.kind, .int .i64 s.f.lo, .int .i64 s.f.hi, .int .i64 s.f.most, .int .i64 s.v.n, .string s.v.s, .slice ta s.t.length tc, .slice la s.l.length lc]
  have hne : w.heap.size ≠ g := by have := h.1.1.lt; omega
  have HK0 : Hid (Stays g w (w.alloc (.cells #[.int .i64 s.op, .int .i64 s.fm, .int .i64 s.fd, .int .i64 s.pl, .int .i64 s.tt, .int .i64 s.a, .int .i64 s.b, .int .i64 s.f.id, .int .i64 s.f.kind, .int .i64 s.f.lo, .int .i64 s.f.hi, .int .i64 s.f.most, .int .i64 s.v.n, .string s.v.s, .slice ta s.t.length tc, .slice la s.l.length lc] 29))) := hid (Stays.later (newB _ _))
  have hok := fine_ok (m := 11) (by omega) hfine
  clear h
  have hq2 : s.l.length ≤ 8 ∧ ∀ f ∈ s.l, FieldOk f := hok 76 (by simp [lets])
  have lt1 := vb_ten (s.l.length : Int).toNat (by omega)
  clear hok hfine
  have hmb : s.memB 11 = vb (s.l.length : Int).toNat ++ fieldsA s.l := by simp [Sp.memB, lets, Sp.letB]
  rw [hmb]
  clear hmb
  unfold Pens
  have c1 := count_pen hS0 (s.l.length : Int) (by omega) (by omega) (by omega)
  clear hS0
  go_enter Try.func35, Try.ntmps35
  go_wp2_with (first
    | (go_at_call 34; ((with_reducible refine c1.mono ?_); clear c1; rintro e u1 ⟨rfl, v1, hS1, hK1⟩; have hB1 := hK1 _ _ _ hB0 st_ty hne; have z15 := hB1.cell 15; have HS1 := hid hS1; clear hS1)))
  have HKn : Hid (Stays g w u1) := hid (HK0.out.trans (hK1))
  obtain ⟨Y, hY⟩ : ∃ Y : List Nat, Hid (xs ++ vb (s.l.length : Int).toNat = Y) := ⟨_, hid rfl⟩
  have HYL : Hid (Y.length ≤ 800020) := hid (by rw [← hY.out]; simp only [List.length_append]; omega)
  rw [hY.out] at HS1
  go_loopw [109] (fun m wr => ∃ k : Nat, k ≤ s.l.length ∧ m = .int .i64 (k : Int) ∧ Hid (∃ vP, PS g w1 (Y ++ fieldsA (s.l.take k)) vP wr ∧ Stays g w wr)) (fun m _ => s.l.length - (intOf m).toNat)
  case atStart => exact ⟨0, Nat.zero_le _, rfl, hid ⟨v1, by simpa [fieldsA] using HS1.out, HKn.out⟩⟩
  case round =>
    obtain ⟨k, hk, rfl, HS⟩ := hrel
    obtain ⟨vP, hS, hKr⟩ := HS.out
    by_cases hlt : k < s.l.length
    · obtain ⟨b, off, p, rfl, hbl, hp, c0, c1, c2, c3, c4⟩ := field_at HL.out.l (show Below w1.heap.size w1 _ by rw [hg]; exact hS.2.1) hlt
      have i1 : (k : Int) < s.l.length := by omega
      have HTK := hid (fieldsA_succ hp)
      have hpr := hq2.2 p (List.mem_of_getElem? hp)
      have l1 := fieldsA_len (L := s.l.take k) (fun n hn => hq2.2 n (List.mem_of_mem_take hn))
      have l2 : (s.l.take k).length ≤ s.l.length := by simp; omega
      have l3 := HYL.out
      have cP := printField_any (hS.later (newB wr (.cells #[.int .i64 p.id, .int .i64 p.kind, .int .i64 p.lo, .int .i64 p.hi, .int .i64 p.most] 23))) p hpr (by simp only [List.length_append]; omega)
      have HKR := hid (hKr.trans (Stays.later (newB wr (.cells #[.int .i64 p.id, .int .i64 p.kind, .int .i64 p.lo, .int .i64 p.hi, .int .i64 p.most] 23))))
      clear hp hKr hS HS
      go_wp2_with (go_at_call 57; ((with_reducible refine cP.mono ?_); rintro e wq ⟨rfl, vq, hSq, hKq⟩; have HSQ := hid hSq; clear hSq))
      exact ⟨⟨k + 1, by omega, by go_num, hid ⟨vq, by rw [HTK.out]; simpa only [List.append_assoc] using HSQ.out, HKR.out.trans hKq⟩⟩, by simp [intOf]; omega⟩
    · obtain rfl : k = s.l.length := by omega
      rw [List.take_of_length_le (Nat.le_refl _), ← hY.out] at hS
      have HSE := hid hS
      have HKE := hid hKr
      clear hS hKr HS
      go_wp2
      exact ret0 rfl rfl ⟨rfl, vP, by simpa only [List.append_assoc, Int.toNat_natCast] using HSE.out, HKE.out⟩
theorem printMember_any {g : Nat} {w1 : World} {xs : List Nat} {v : Value} {w : World} (h : PS g w1 xs v w) (hg : w1.heap.size = g) (s : Sp) (ta : Option Addr) (tc : Nat) (la : Option Addr) (lc : Nat) (HL : Hid (Lists w1 s ta la)) (m : Nat) (hm : m < 12) (hfine : s.Fine m) (hn : xs.length ≤ 800000) :
    Calls Try.prog 35 #[.pointer (some ⟨g, 0, none⟩), .agg #[.int .i64 s.op, .int .i64 s.fm, .int .i64 s.fd, .int .i64 s.pl, .int .i64 s.tt, .int .i64 s.a, .int .i64 s.b, .int .i64 s.f.id, .int .i64 s.f.kind, .int .i64 s.f.lo, .int .i64 s.f.hi, .int .i64 s.f.most, .int .i64 s.v.n, .string s.v.s, .slice ta s.t.length tc, .slice la s.l.length lc], .int .i64 (m : Int)] w (Pens g w1 xs (s.memB m) w) := by
  match m, hm with
  | 0, _ => exact pm0 h hg s ta tc la lc HL hfine hn
  | 1, _ => exact pm1 h hg s ta tc la lc HL hfine hn
  | 2, _ => exact pm2 h hg s ta tc la lc HL hfine hn
  | 3, _ => exact pm3 h hg s ta tc la lc HL hfine hn
  | 4, _ => exact pm4 h hg s ta tc la lc HL hfine hn
  | 5, _ => exact pm5 h hg s ta tc la lc HL hfine hn
  | 6, _ => exact pm6 h hg s ta tc la lc HL hfine hn
  | 7, _ => exact pm7 h hg s ta tc la lc HL hfine hn
  | 8, _ => exact pm8 h hg s ta tc la lc HL hfine hn
  | 9, _ => exact pm9 h hg s ta tc la lc HL hfine hn
  | 10, _ => exact pm10 h hg s ta tc la lc HL hfine hn
  | 11, _ => exact pm11 h hg s ta tc la lc HL hfine hn
end Go.Proofs.Ytpdnfiofjkbeiaa.step
