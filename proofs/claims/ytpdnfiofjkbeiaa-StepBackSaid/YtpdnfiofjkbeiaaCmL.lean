/- Contracts and lemmas that the claims of this seat share: StepAll, StepPrint, StepAwake. Each says its own conditions. -/
import Derived.Test.YtpdnfiofjkbeiaaCmI
import Derived.Test.YtpdnfiofjkbeiaaCmK
import Derived.Test.YtpdnfiofjkbeiaaCmF
import Derived.Laws.Strings
/- Lists of steps in memory; contracts of layer 15 (step): allRight; of the reference: Rights, Great. No condition. -/
namespace Go.Proofs.Ytpdnfiofjkbeiaa.step
open Go.RowKit
open Go.Proofs.Ytpdnfiofjkbeiaa.field (Gives newB gives_from)
open Go.Proofs.Ytpdnfiofjkbeiaa.schema (below_out take_succ_at)
set_option linter.unusedVariables false

/-- a list of steps in memory, each with its two lists -/
structure StL (w : World) (a : Option Addr) (L : List St) : Prop where
  row : Sts w a L
  each : ∀ p ∈ L, Lists w p.s p.ta p.la
theorem StL.below {w w' : World} {a : Option Addr} {L : List St} (h : StL w a L) (hb : Below w.heap.size w w') : StL w' a L := ⟨h.row.below hb, fun p hp => (h.each p hp).below hb⟩
theorem StL.nil (w : World) : StL w none [] := ⟨.inl rfl, by simp⟩
def sps (L : List St) : List Sp := L.map St.s
theorem sps_length (L : List St) : (sps L).length = L.length := List.length_map _
theorem sps_at {L : List St} {k : Nat} {p : St} (h : L[k]? = some p) : (sps L)[k]? = some p.s := by simp [sps, h]
/-- the step k in a later world -/
theorem step_at {w w' : World} {a : Option Addr} {L : List St} (h : StL w a L) (hb : Below w.heap.size w w') {k : Nat} (hk : k < L.length) :
    ∃ b off p, a = some ⟨b, off, none⟩ ∧ b < w'.heap.size ∧ L[k]? = some p ∧ Lists w' p.s p.ta p.la ∧ (w'.cell? ⟨b, off + k * 16, none⟩ = some (.int .i64 p.s.op) ∧ w'.cell? ⟨b, off + k * 16 + 1, none⟩ = some (.int .i64 p.s.fm) ∧ w'.cell? ⟨b, off + k * 16 + 2, none⟩ = some (.int .i64 p.s.fd) ∧ w'.cell? ⟨b, off + k * 16 + 3, none⟩ = some (.int .i64 p.s.pl) ∧ w'.cell? ⟨b, off + k * 16 + 4, none⟩ = some (.int .i64 p.s.tt) ∧ w'.cell? ⟨b, off + k * 16 + 5, none⟩ = some (.int .i64 p.s.a) ∧ w'.cell? ⟨b, off + k * 16 + 6, none⟩ = some (.int .i64 p.s.b) ∧ w'.cell? ⟨b, off + k * 16 + 7, none⟩ = some (.int .i64 p.s.f.id) ∧ w'.cell? ⟨b, off + k * 16 + 8, none⟩ = some (.int .i64 p.s.f.kind) ∧ w'.cell? ⟨b, off + k * 16 + 9, none⟩ = some (.int .i64 p.s.f.lo) ∧ w'.cell? ⟨b, off + k * 16 + 10, none⟩ = some (.int .i64 p.s.f.hi) ∧ w'.cell? ⟨b, off + k * 16 + 11, none⟩ = some (.int .i64 p.s.f.most) ∧ w'.cell? ⟨b, off + k * 16 + 12, none⟩ = some (.int .i64 p.s.v.n) ∧ w'.cell? ⟨b, off + k * 16 + 13, none⟩ = some (.string p.s.v.s) ∧ w'.cell? ⟨b, off + k * 16 + 14, none⟩ = some (.slice p.ta p.s.t.length p.tc) ∧ w'.cell? ⟨b, off + k * 16 + 15, none⟩ = some (.slice p.la p.s.l.length p.lc)) := by
  have h' := h.below hb
  rcases h'.row with rfl | ⟨b, off, ha, hlt, hc⟩
  · simp at hk
  · have hp := List.getElem?_eq_getElem hk
    have hx := hc k _ hp
    exact ⟨b, off, _, ha, hlt, hp, h'.each _ (List.mem_of_getElem? hp), hx 0 _ rfl, hx 1 _ rfl, hx 2 _ rfl, hx 3 _ rfl, hx 4 _ rfl, hx 5 _ rfl, hx 6 _ rfl, hx 7 _ rfl, hx 8 _ rfl, hx 9 _ rfl, hx 10 _ rfl, hx 11 _ rfl, hx 12 _ rfl, hx 13 _ rfl, hx 14 _ rfl, hx 15 _ rfl⟩
theorem rights_succ {L : List Sp} {k : Nat} {s : Sp} (h : L[k]? = some s) : Rights (L.take (k + 1)) ↔ Rights (L.take k) ∧ s.Right := by
  rw [take_succ_at h]
  unfold Rights
  constructor
  · intro h; exact ⟨fun q hq => h q (by simp [hq]), h s (by simp)⟩
  · rintro ⟨h1, h2⟩ q hq
    rcases List.mem_append.1 hq with h | h
    · exact h1 q h
    · rw [List.mem_singleton.1 h]; exact h2
theorem rights_no {L : List Sp} {k : Nat} {s : Sp} (h : L[k]? = some s) (hs : ¬ s.Right) : ¬ Rights L := fun e => hs (e s (List.mem_of_getElem? h))
set_option maxRecDepth 20000 in
theorem allRight_any (a : Option Addr) (c : Nat) (L : List St) (w : World) (h : StL w a L) (hL : L.length ≤ maxLen) : Calls Try.prog 32 #[.slice a L.length c] w (Gives (.bool (decide (Rights (sps L)))) w) := by
  have hml : (L.length : Int) ≤ 9223372036854775807 := by unfold maxLen at hL; omega
  obtain ⟨r, hr⟩ : ∃ r : Bool, Hid (decide (Rights (sps L)) = r) := ⟨_, rfl⟩
  rw [hr.out]
  unfold Gives
  have HF := hid h
  have HLN := hid (sps_length L)
  clear h hL
  go_enter Try.func32, Try.ntmps32
  go_wp2
  go_loopw [7] (fun n wr => ∃ k : Nat, k ≤ L.length ∧ n = .int .i64 (k : Int) ∧ Hid (Rights ((sps L).take k)) ∧ Hid (Below w.heap.size w wr)) (fun n _ => L.length - (intOf n).toNat)
  case atStart => exact ⟨0, Nat.zero_le _, rfl, hid (by intro q hq; simp at hq), hid (Below.refl _ _)⟩
  case round =>
    obtain ⟨k, hk, rfl, HOK, HB⟩ := hrel
    by_cases hlt : k < L.length
    · obtain ⟨b, off, p, rfl, hbl, hp, hls, z0, z1, z2, z3, z4, z5, z6, z7, z8, z9, z10, z11, z12, z13, z14, z15⟩ := step_at HF.out HB.out hlt
      have i1 : (k : Int) < L.length := by omega
      have HSUC := hid (rights_succ (sps_at hp))
      have HNO := hid (rights_no (sps_at hp))
      obtain ⟨s, ta, tc, la, lc⟩ := p
      simp only at z0 z1 z2 z3 z4 z5 z6 z7 z8 z9 z10 z11 z12 z13 z14 z15 hls HSUC HNO
      have cR := right_any s ta tc la lc (wr.alloc (.cells #[.int .i64 s.op, .int .i64 s.fm, .int .i64 s.fd, .int .i64 s.pl, .int .i64 s.tt, .int .i64 s.a, .int .i64 s.b, .int .i64 s.f.id, .int .i64 s.f.kind, .int .i64 s.f.lo, .int .i64 s.f.hi, .int .i64 s.f.most, .int .i64 s.v.n, .string s.v.s, .slice ta s.t.length tc, .slice la s.l.length lc] 29)) (hls.below (newB _ _))
      have HX := hid (boxP s ta tc la lc wr)
      unfold Gives at cR
      clear hp hls
      by_cases hs : s.Right
      · rw [decide_eq_true hs] at cR
        have HS := hid hs
        clear hs
        go_wp2_with (go_at_call 8; ((with_reducible refine cR.mono ?_); rintro e w2 ⟨rfl, hb2⟩; have HB2 := hid (below_out hb2)))
        exact ⟨⟨k + 1, by omega, by go_num, hid (HSUC.out.2 ⟨HOK.out, HS.out⟩), hid (HB.out.trans (HB2.out.mono HB.out.size))⟩, by simp [intOf]; omega⟩
      · rw [decide_eq_false hs] at cR
        obtain rfl : false = r := by rw [← hr.out]; exact (decide_eq_false (HNO.out hs)).symm
        clear hs
        go_wp2_with (go_at_call 8; ((with_reducible refine cR.mono ?_); rintro e w2 ⟨rfl, hb2⟩; have HB2 := hid (below_out hb2)))
        go_ret
        exact ⟨rfl, HB.out.trans (HB2.out.mono HB.out.size)⟩
    · obtain rfl : k = L.length := by omega
      obtain rfl : true = r := by rw [← hr.out]; have := HOK.out; rw [List.take_of_length_le (by rw [HLN.out]; exact Nat.le_refl _)] at this; exact (decide_eq_true this).symm
      go_wp2
      go_ret
      exact ⟨rfl, HB.out⟩
set_option maxRecDepth 20000 in
theorem refRights_any (a : Option Addr) (c : Nat) (L : List St) (w : World) (h : StL w a L) (hL : L.length ≤ maxLen) : Calls Try.prog 13 #[.slice a L.length c] w (Gives (.int .i64 (rightsE (sps L) : Int)) w) := by
  have hml : (L.length : Int) ≤ 9223372036854775807 := by unfold maxLen at hL; omega
  obtain ⟨r, hr⟩ : ∃ r : Nat, Hid (rightsE (sps L) = r) := ⟨_, rfl⟩
  rw [hr.out]
  unfold Gives
  have HF := hid h
  have HLN := hid (sps_length L)
  clear h hL
  by_cases h40 : 40 < L.length
  · obtain rfl : 7 = r := by rw [← hr.out]; unfold rightsE; rw [if_pos (by rw [HLN.out]; exact h40)]
    have hd : decide ((L.length : Int) > 40) = true := decide_eq_true (by omega)
    have j1 : (40 : Int) < L.length := by omega
    go_enter Try.func13, Try.ntmps13
    go_wp2
    go_ret
    exact ⟨rfl, Below.refl _ _⟩
  · have hd : decide ((L.length : Int) > 40) = false := decide_eq_false (by omega)
    have j1 : ¬ (40 : Int) < L.length := by omega
    have HRE : Hid (rightsE (sps L) = if Rights (sps L) then 0 else 2) := hid (by unfold rightsE; rw [if_neg (by rw [HLN.out]; exact h40)])
    clear h40
    go_enter Try.func13, Try.ntmps13
    go_wp2
    go_loopw [3] (fun n wr => ∃ k : Nat, k ≤ L.length ∧ n = .int .i64 (k : Int) ∧ Hid (Rights ((sps L).take k)) ∧ Hid (Below w.heap.size w wr)) (fun n _ => L.length - (intOf n).toNat)
    case atStart => exact ⟨0, Nat.zero_le _, rfl, hid (by intro q hq; simp at hq), hid (Below.refl _ _)⟩
    case round =>
      obtain ⟨k, hk, rfl, HOK, HB⟩ := hrel
      by_cases hlt : k < L.length
      · obtain ⟨b, off, p, rfl, hbl, hp, hls, z0, z1, z2, z3, z4, z5, z6, z7, z8, z9, z10, z11, z12, z13, z14, z15⟩ := step_at HF.out HB.out hlt
        have i1 : (k : Int) < L.length := by omega
        have HSUC := hid (rights_succ (sps_at hp))
        have HNO := hid (rights_no (sps_at hp))
        obtain ⟨s, ta, tc, la, lc⟩ := p
        simp only at z0 z1 z2 z3 z4 z5 z6 z7 z8 z9 z10 z11 z12 z13 z14 z15 hls HSUC HNO
        have cR := refRight_any s ta tc la lc wr hls
        unfold Gives at cR
        clear hp hls
        by_cases hs : s.Right
        · rw [decide_eq_true hs] at cR
          have HS := hid hs
          clear hs
          go_wp2_with (go_at_call 9; ((with_reducible refine cR.mono ?_); rintro e w2 ⟨rfl, hb2⟩; have HB2 := hid hb2))
          exact ⟨⟨k + 1, by omega, by go_num, hid (HSUC.out.2 ⟨HOK.out, HS.out⟩), hid (HB.out.trans (HB2.out.mono HB.out.size))⟩, by simp [intOf]; omega⟩
        · rw [decide_eq_false hs] at cR
          obtain rfl : 2 = r := by rw [← hr.out, HRE.out, if_neg (HNO.out hs)]
          clear hs
          go_wp2_with (go_at_call 9; ((with_reducible refine cR.mono ?_); rintro e w2 ⟨rfl, hb2⟩; have HB2 := hid hb2))
          go_ret
          exact ⟨rfl, HB.out.trans (HB2.out.mono HB.out.size)⟩
      · obtain rfl : k = L.length := by omega
        obtain rfl : 0 = r := by rw [← hr.out, HRE.out]; have := HOK.out; rw [List.take_of_length_le (by rw [HLN.out]; exact Nat.le_refl _)] at this; rw [if_pos this]
        go_wp2
        go_ret
        exact ⟨rfl, HB.out⟩
/-- too much to be looked at -/
def Wide (s : Sp) : Prop := 100 < s.t.length ∨ 40 < s.l.length
instance (s : Sp) : Decidable (Wide s) := by unfold Wide; infer_instance
def GreatL (L : List Sp) : Prop := (∃ s ∈ L.take 61, Wide s) ∨ 60 < L.length
instance (L : List Sp) : Decidable (GreatL L) := by unfold GreatL; infer_instance
theorem great_not {L : List Sp} (h : ¬ GreatL L) : L.length ≤ 60 ∧ ∀ s ∈ L, s.t.length ≤ 100 ∧ s.l.length ≤ 40 := by
  have h1 : L.length ≤ 60 := by
    have : ¬ 60 < L.length := fun e => h (.inr e)
    omega
  refine ⟨h1, fun s hs => ?_⟩
  have : ¬ Wide s := fun e => h (.inl ⟨s, by rw [List.take_of_length_le (by omega)]; exact hs, e⟩)
  unfold Wide at this
  omega
theorem wide_succ {L : List Sp} {k : Nat} {s : Sp} (h : L[k]? = some s) (hn : ∀ q ∈ L.take k, ¬ Wide q) (hs : ¬ Wide s) : ∀ q ∈ L.take (k + 1), ¬ Wide q := by
  rw [take_succ_at h]
  intro q hq
  rcases List.mem_append.1 hq with h | h
  · exact hn q h
  · rw [List.mem_singleton.1 h]; exact hs
theorem wide_yes {L : List Sp} {k : Nat} {s : Sp} (h : L[k]? = some s) (hk : k < 61) (hs : Wide s) : GreatL L :=
  .inl ⟨s, List.mem_of_getElem? ((List.getElem?_take_of_lt hk).trans h), hs⟩
set_option maxRecDepth 20000 in
theorem great_any (a : Option Addr) (c : Nat) (L : List St) (w : World) (h : StL w a L) (hL : L.length ≤ maxLen) : Calls Try.prog 6 #[.slice a L.length c] w (Gives (.bool (decide (GreatL (sps L)))) w) := by
  have hml : (L.length : Int) ≤ 9223372036854775807 := by unfold maxLen at hL; omega
  obtain ⟨r, hr⟩ : ∃ r : Bool, Hid (decide (GreatL (sps L)) = r) := ⟨_, rfl⟩
  rw [hr.out]
  unfold Gives
  have HF := hid h
  have HLN := hid (sps_length L)
  clear h hL
  go_enter Try.func6, Try.ntmps6
  go_wp2
  go_loopw [3] (fun n wr => ∃ k : Nat, k ≤ L.length ∧ k ≤ 61 ∧ n = .int .i64 (k : Int) ∧ Hid (∀ q ∈ (sps L).take k, ¬ Wide q) ∧ Hid (Below w.heap.size w wr)) (fun n _ => L.length - (intOf n).toNat)
  case atStart => exact ⟨0, Nat.zero_le _, by omega, rfl, hid (by simp), hid (Below.refl _ _)⟩
  case round =>
    obtain ⟨k, hk, hk61, rfl, HOK, HB⟩ := hrel
    by_cases hlt : k < L.length
    · have i1 : (k : Int) < L.length := by omega
      by_cases h61 : k < 61
      · have i2 : (k : Int) < 61 := by omega
        obtain ⟨b, off, p, rfl, hbl, hp, hls, z0, z1, z2, z3, z4, z5, z6, z7, z8, z9, z10, z11, z12, z13, z14, z15⟩ := step_at HF.out HB.out hlt
        have HSUC := hid (wide_succ (sps_at hp) HOK.out)
        have HYES := hid (wide_yes (sps_at hp) h61)
        obtain ⟨s, ta, tc, la, lc⟩ := p
        simp only at z14 z15 hls HSUC HYES
        have m1 : (s.t.length : Int) ≤ 9223372036854775807 := by have := hls.mt; unfold maxLen at this; omega
        have m2 : (s.l.length : Int) ≤ 9223372036854775807 := by have := hls.ml; unfold maxLen at this; omega
        clear hp hls z0 z1 z2 z3 z4 z5 z6 z7 z8 z9 z10 z11 z12 z13
        by_cases h1 : 100 < s.t.length
        · have hd : decide ((s.t.length : Int) > 100) = true := decide_eq_true (by omega)
          obtain rfl : true = r := by rw [← hr.out]; exact (decide_eq_true (HYES.out (.inl h1))).symm
          clear h1
          go_wp2
          go_ret
          exact ⟨rfl, HB.out⟩
        · have hd : decide ((s.t.length : Int) > 100) = false := decide_eq_false (by omega)
          by_cases h2 : 40 < s.l.length
          · have hd2 : decide ((s.l.length : Int) > 40) = true := decide_eq_true (by omega)
            obtain rfl : true = r := by rw [← hr.out]; exact (decide_eq_true (HYES.out (.inr h2))).symm
            clear h1 h2
            go_wp2
            go_ret
            exact ⟨rfl, HB.out⟩
          · have hd2 : decide ((s.l.length : Int) > 40) = false := decide_eq_false (by omega)
            have HW : Hid (¬ Wide s) := hid (by unfold Wide; omega)
            clear h1 h2
            go_wp2
            exact ⟨⟨k + 1, by omega, by omega, by go_num, hid (HSUC.out HW.out), HB⟩, by simp [intOf]; omega⟩
      · obtain rfl : k = 61 := by omega
        obtain rfl : true = r := by rw [← hr.out]; exact (decide_eq_true (.inr (by rw [HLN.out]; omega))).symm
        have hd : decide ((L.length : Int) > 60) = true := decide_eq_true (by omega)
        have j1 : (60 : Int) < L.length := by omega
        go_wp2
        go_ret
        exact ⟨rfl, HB.out⟩
    · obtain rfl : k = L.length := by omega
      have HQ : Hid (GreatL (sps L) ↔ 60 < L.length) := hid ⟨fun h => by
          rcases h with ⟨s, hs, hw⟩ | h
          · exfalso
            have := HOK.out
            rw [List.take_of_length_le (by rw [HLN.out]; exact Nat.le_refl _)] at this
            exact this s (List.mem_of_mem_take hs) hw
          · rw [HLN.out] at h; exact h, fun h => .inr (by rw [HLN.out]; exact h)⟩
      by_cases h60 : 60 < L.length
      · obtain rfl : true = r := by rw [← hr.out]; exact (decide_eq_true (HQ.out.2 h60)).symm
        have hd : decide ((L.length : Int) > 60) = true := decide_eq_true (by omega)
        have j1 : (60 : Int) < L.length := by omega
        clear h60
        go_wp2
        go_ret
        exact ⟨rfl, HB.out⟩
      · obtain rfl : false = r := by rw [← hr.out]; exact (decide_eq_false (fun e => h60 (HQ.out.1 e))).symm
        have hd : decide ((L.length : Int) > 60) = false := decide_eq_false (by omega)
        have j1 : ¬ (60 : Int) < L.length := by omega
        clear h60
        go_wp2
        go_ret
        exact ⟨rfl, HB.out⟩
end Go.Proofs.Ytpdnfiofjkbeiaa.step
/- Contract of layer 15 (step): Print. No condition. -/
namespace Go.Proofs.Ytpdnfiofjkbeiaa.step
open Go.RowKit Go.Proofs.Ytpdnfiofjkbeiaa.pen
open Go.Proofs.Ytpdnfiofjkbeiaa.field (newB bytesOf bytesOf_length)
open Go.Proofs.Ytpdnfiofjkbeiaa.schema (PS below_out take_succ_at own_low)
set_option linter.unusedVariables false

theorem letB_len {s : Sp} {c : UInt8} (hc : Letter c) (h : s.Ok c) : (s.letB c).length ≤ 660 := by
  rcases hc with rfl | rfl | rfl | rfl | rfl | rfl | rfl | rfl | rfl | rfl
  · have hq : 0 ≤ s.fm ∧ s.fm ≤ 200 := h
    have := vb_ten s.fm.toNat (by omega)
    show (vb s.fm.toNat).length ≤ 660
    omega
  · have hq : 0 ≤ s.fd ∧ s.fd ≤ 255 := h
    have := vb_ten s.fd.toNat (by omega)
    show (vb s.fd.toNat).length ≤ 660
    omega
  · have hq : 0 ≤ s.pl ∧ s.pl ≤ 8 := h
    have := vb_ten s.pl.toNat (by omega)
    show (vb s.pl.toNat).length ≤ 660
    omega
  · have hq : 0 ≤ s.tt ∧ s.tt ≤ 255 := h
    have := vb_ten s.tt.toNat (by omega)
    show (vb s.tt.toNat).length ≤ 660
    omega
  · have hq : 0 ≤ s.a ∧ s.a ≤ 1048576 := h
    have := vb_ten s.a.toNat (by omega)
    show (vb s.a.toNat).length ≤ 660
    omega
  · have hq : InOk s.a ∧ InOk s.b := h
    have h1 := vb_ten (zig s.a) (zig_lt _ hq.1.1 hq.1.2)
    have h2 := vb_ten (zig s.b) (zig_lt _ hq.2.1 hq.2.2)
    show (vb (zig s.a) ++ vb (zig s.b)).length ≤ 660
    rw [List.length_append]
    omega
  · have hq : FieldOk s.f := h
    have := fieldA_len hq
    show (fieldA s.f).length ≤ 660
    omega
  · have hq : InOk s.v.n ∧ s.v.s.size ≤ 32 := h
    have h1 := vb_ten (zig s.v.n) (zig_lt _ hq.1.1 hq.1.2)
    have h2 := vb_ten s.v.s.size (by omega)
    show (vb (zig s.v.n) ++ (vb s.v.s.size ++ bytesOf s.v.s)).length ≤ 660
    rw [List.length_append, List.length_append, bytesOf_length]
    omega
  · have hq : s.t.length ≤ 64 ∧ ∀ n ∈ s.t, 0 ≤ n ∧ n ≤ 1000 := h
    have h1 := vb_ten s.t.length (by omega)
    have h2 := numsA_len hq.2
    show (vb s.t.length ++ numsA s.t).length ≤ 660
    rw [List.length_append]
    omega
  · have hq : s.l.length ≤ 8 ∧ ∀ f ∈ s.l, FieldOk f := h
    have h1 := vb_ten s.l.length (by omega)
    have h2 := fieldsA_len hq.2
    show (vb s.l.length ++ fieldsA s.l).length ≤ 660
    rw [List.length_append]
    omega
theorem flat_len {α : Type} (f : α → List Nat) (B : Nat) : ∀ (L : List α), (∀ x ∈ L, (f x).length ≤ B) → ((L.map f).flatten).length ≤ B * L.length
  | [], _ => by simp
  | x :: L, h => by
    have h1 := h x (by simp)
    have h2 := flat_len f B L (fun y hy => h y (by simp [hy]))
    simp only [List.map_cons, List.flatten_cons, List.length_append, List.length_cons]
    have : B * (L.length + 1) = B * L.length + B := Nat.mul_succ _ _
    omega
theorem memB_len {s : Sp} {m : Nat} (hm : m < 12) (h : s.Fine m) : (s.memB m).length ≤ 1320 := by
  have h1 := flat_len s.letB 660 (lets m) (fun c hc => letB_len (by
    have : ∀ m, m < 12 → ∀ c ∈ lets m, Letter c := by decide
    exact this m hm c hc) (fine_ok hm h c hc))
  have h2 : ∀ m, m < 12 → (lets m).length ≤ 2 := by decide
  have h3 := h2 m hm
  unfold Sp.memB
  omega
theorem memsB_len {s : Sp} (h : ∀ m ∈ mem s.op, s.Fine m) (j : Nat) : ((((mem s.op).take j).map s.memB).flatten).length ≤ 6600 := by
  have h1 := flat_len s.memB 1320 ((mem s.op).take j) (fun m hm => memB_len (mem_lt _ m (List.mem_of_mem_take hm)) (h m (List.mem_of_mem_take hm)))
  have h2 := mem_len s.op
  have h3 : ((mem s.op).take j).length ≤ (mem s.op).length := by simp; omega
  omega
theorem stepB_len {s : Sp} (h : s.Right) : s.stepB.length ≤ 6610 := by
  have h1 := memsB_len h.1 (mem s.op).length
  rw [List.take_of_length_le (Nat.le_refl _)] at h1
  have h2 := mem_span h.2.1
  have h3 := vb_ten s.op.toNat (by omega)
  rw [stepB_mem, List.length_append]
  omega
def stepsB (L : List Sp) : List Nat := (L.map Sp.stepB).flatten
theorem stepsB_succ {L : List Sp} {k : Nat} {x : Sp} (h : L[k]? = some x) : stepsB (L.take (k + 1)) = stepsB (L.take k) ++ x.stepB := by
  rw [take_succ_at h]; simp [stepsB]
theorem memsB_succ {s : Sp} {k m : Nat} (h : (mem s.op)[k]? = some m) : (((mem s.op).take (k + 1)).map s.memB).flatten = (((mem s.op).take k).map s.memB).flatten ++ s.memB m := by
  rw [take_succ_at h]; simp
theorem stepsB_len {L : List Sp} (h : Rights L) (hl : L.length ≤ 40) (k : Nat) : (stepsB (L.take k)).length ≤ 264400 := by
  have h1 := flat_len Sp.stepB 6610 (L.take k) (fun s hs => stepB_len (h s (List.mem_of_mem_take hs)))
  have h3 : (L.take k).length ≤ L.length := by simp; omega
  unfold stepsB
  omega
theorem MRow.stays {w w' : World} {a : Option Addr} {op : Int} {g : Nat} (h : MRow w a op) (hs : Stays g w w') (hg : ∀ x, a = some x → x.block ≠ g) : MRow w' a op := by
  rcases h with h | ⟨q, rfl, hB⟩
  · exact .inl h
  · exact .inr ⟨q, rfl, hs _ _ _ hB mem_ty (hg _ rfl)⟩
def PrintPost (L : List Sp) (w : World) (e : Ending) (w' : World) : Prop :=
  if rightsE L = 0 then pen.Gives (listB L) 0 w e w' else e = .returned (.tuple #[.slice none 0 0, .int .i64 (rightsE L : Int)]) ∧ Below w.heap.size w w'
theorem print_many (a : Option Addr) (c : Nat) (L : List St) (w : World) (h40 : 40 < L.length) (hL : L.length ≤ maxLen) :
    Calls Try.prog 12 #[.slice a L.length c] w fun e w' => e = .returned (.tuple #[.slice none 0 0, .int .i64 7]) ∧ Below w.heap.size w w' := by
  have hml : (L.length : Int) ≤ 9223372036854775807 := by unfold maxLen at hL; omega
  have hd : decide ((L.length : Int) > 40) = true := decide_eq_true (by omega)
  have j1 : (40 : Int) < L.length := by omega
  go_enter Try.func12, Try.ntmps12
  go_wp2
  go_ret2
  exact ⟨rfl, Below.refl _ _⟩
theorem print_no (a : Option Addr) (c : Nat) (L : List St) (w : World) (h : StL w a L) (h40 : L.length ≤ 40) (hr : ¬ Rights (sps L)) :
    Calls Try.prog 12 #[.slice a L.length c] w fun e w' => e = .returned (.tuple #[.slice none 0 0, .int .i64 2]) ∧ Below w.heap.size w w' := by
  have hd : decide ((L.length : Int) > 40) = false := decide_eq_false (by omega)
  have j1 : ¬ (40 : Int) < L.length := by omega
  have cR := allRight_any a c L w h (by unfold maxLen; omega)
  rw [decide_eq_false hr] at cR
  unfold field.Gives at cR
  clear hr h
  go_enter Try.func12, Try.ntmps12
  go_wp2_with (go_at_call 32; ((with_reducible refine cR.mono ?_); rintro e w1 ⟨rfl, hb1⟩))
  go_ret2
  exact ⟨rfl, hb1⟩
set_option maxRecDepth 20000 in
set_option maxHeartbeats 3200000 in
theorem print_yes (a : Option Addr) (c : Nat) (L : List St) (w : World) (h : StL w a L) (h40 : L.length ≤ 40) (hr : Rights (sps L)) :
    Calls Try.prog 12 #[.slice a L.length c] w (pen.Gives (listB (sps L)) 0 w) := by
  have hd : decide ((L.length : Int) > 40) = false := decide_eq_false (by omega)
  have j1 : ¬ (40 : Int) < L.length := by omega
  have cR := allRight_any a c L w h (by unfold maxLen; omega)
  rw [decide_eq_true hr] at cR
  unfold field.Gives at cR
  have HF := hid h
  have HR := hid hr
  have HLN := hid (sps_length L)
  have HSB : Hid (listB (sps L) = [] ++ vb (L.length : Int).toNat ++ stepsB (sps L)) := hid (by unfold listB stepsB; rw [sps_length]; simp)
  have ln := vb_ten (L.length : Int).toNat (by omega)
  obtain ⟨X, hX⟩ : ∃ X : List Nat, Hid ([] ++ vb (L.length : Int).toNat = X) := ⟨_, hid rfl⟩
  have HXL : Hid (X.length ≤ 10) := hid (by rw [← hX.out]; simp only [List.length_append, List.length_nil]; omega)
  rw [hX.out] at HSB
  rw [HSB.out]
  clear h hr
  go_enter Try.func12, Try.ntmps12
  go_wp2_with (first
    | (go_at_call 32; ((with_reducible refine cR.mono ?_); rintro e w1 ⟨rfl, hb1⟩; have hF1 := hid (HF.out.below hb1)))
    | (go_at_call 33; ((with_reducible refine (new_any w1).mono ?_); rintro e w2 ⟨rfl, hp2, hb2⟩; have hS2 : PS w1.heap.size w1 [] (.slice none 0 0) w2 := ⟨hp2, hb2, hb2.size⟩))
    | (go_at_call 34; ((with_reducible refine (count_pen hS2 (L.length : Int) (by omega) (by omega) (by simp)).mono ?_); rintro e w3 ⟨rfl, v3, hS3, _⟩)))
  have HB1 := hid hb1
  have HSZ := hid hb1.size
  clear cR hb1 hS2 hp2 hb2
  obtain ⟨g, hg⟩ : ∃ g, Hid (w1.heap.size = g) := ⟨_, hid rfl⟩
  rw [hg.out] at hS3 HSZ ⊢
  rw [hX.out] at hS3
  have HS3 := hid hS3
  clear hS3
  go_loopw [24] (fun n wr => ∃ k : Nat, k ≤ L.length ∧ n = .int .i64 (k : Int) ∧ Hid (∃ vP, PS g w1 (X ++ stepsB ((sps L).take k)) vP wr)) (fun n _ => L.length - (intOf n).toNat)
  case atStart => exact ⟨0, Nat.zero_le _, rfl, hid ⟨v3, by simpa [stepsB] using HS3.out⟩⟩
  case round =>
    obtain ⟨k, hk, rfl, HS⟩ := hrel
    obtain ⟨vP, hS⟩ := HS.out
    by_cases hlt : k < L.length
    · obtain ⟨b, off, p, rfl, hbl, hp, hls, z0, z1, z2, z3, z4, z5, z6, z7, z8, z9, z10, z11, z12, z13, z14, z15⟩ := step_at hF1.out (show Below w1.heap.size w1 _ by rw [hg.out]; exact hS.2.1) hlt
      have i1 : (k : Int) < L.length := by omega
      have HTK := hid (stepsB_succ (sps_at hp))
      have hpr : p.s.Right := HR.out _ (List.mem_of_getElem? (sps_at hp))
      have hgd := hF1.out.each p (List.mem_of_getElem? hp)
      obtain ⟨s, ta, tc, la, lc⟩ := p
      simp only at z0 z1 z2 z3 z4 z5 z6 z7 z8 z9 z10 z11 z12 z13 z14 z15 hls HTK hpr hgd
      have HGD := hid hgd
      have HPR := hid hpr
      have hop := mem_span hpr.2.1
      have lo := vb_ten s.op.toNat (by omega)
      have lX := HXL.out
      have lS := stepsB_len HR.out (by rw [HLN.out]; exact h40) k
      have hXl2 : (X ++ stepsB ((sps L).take k)).length ≤ 264410 := by simp only [List.length_append]; omega
      have hS0 := hS.later (newB wr (.cells #[.int .i64 s.op, .int .i64 s.fm, .int .i64 s.fd, .int .i64 s.pl, .int .i64 s.tt, .int .i64 s.a, .int .i64 s.b, .int .i64 s.f.id, .int .i64 s.f.kind, .int .i64 s.f.lo, .int .i64 s.f.hi, .int .i64 s.f.most, .int .i64 s.v.n, .string s.v.s, .slice ta s.t.length tc, .slice la s.l.length lc] 29))
      have HBK := hid (Block.new wr 29 [.int .i64 s.op, .int .i64 s.fm, .int .i64 s.fd, .int .i64 s.pl, .int .i64 s.tt, .int .i64 s.a, .int .i64 s.b, .int .i64 s.f.id, .int .i64 s.f.kind, .int .i64 s.f.lo, .int .i64 s.f.hi, .int .i64 s.f.most, .int .i64 s.v.n, .string s.v.s, .slice ta s.t.length tc, .slice la s.l.length lc])
      have hne : wr.heap.size ≠ g := by have := hS.1.1.lt; omega
      obtain ⟨Y, hY⟩ : ∃ Y : List Nat, Hid (X ++ stepsB ((sps L).take k) = Y) := ⟨_, hid rfl⟩
      rw [hY.out] at hS0 hXl2
      have c5 := count_pen hS0 s.op (by omega) (by omega) (by omega)
      have HYL := hid hXl2
      have HOP := hid hop
      clear hp hls hpr hgd hS HS lo lX lS hXl2 hop
      have cM := fun w' => members_any s.op w'
      unfold Members at cM
      unfold Pens at c5
      go_wp2_with (first
        | (go_at_call 34; ((with_reducible refine c5.mono ?_); clear c5; rintro e w5 ⟨rfl, v5, hS5, hK5⟩; have hB5 := hK5 _ _ _ HBK.out st_ty hne; have y0 := hB5.cell 0; have HS5 := hid hS5; have HB5 := hid hB5; clear hS5 hB5))
        | (go_at_call 18; ((with_reducible refine (cM _).mono ?_); rintro e w6 ⟨aM, cMx, rfl, hM, hb6⟩; have HM := hid hM; have HS6 := hid (HS5.out.later hb6); have HB6 := hid (HB5.out.later hb6); clear hb6 hM)))
      clear z0 z1 z2 z3 z4 z5 z6 z7 z8 z9 z10 z11 z12 z13 z14 z15 y0 hK5
      obtain ⟨T, hT⟩ : ∃ T, Hid (wr.heap.size = T) := ⟨_, hid rfl⟩
      rw [hT.out] at HB6 hne ⊢
      obtain ⟨N, hN⟩ : ∃ N : Nat, Hid ((mem s.op).length = N) := ⟨_, rfl⟩
      have hN5 : N ≤ 5 := by rw [← hN.out]; exact mem_len _
      rw [hN.out]
      have HMG : Hid (∀ x, aM = some x → mem s.op ≠ [] → x.block ≠ g) := hid (by
        rintro x rfl hne2
        rcases HM.out with h | ⟨q, he, hB⟩
        · exact absurd h hne2
        · injection he with he
          subst he
          intro e
          have h1 := HS6.out.1.1
          have e' : q = g := e
          subst e'
          unfold Block at h1 hB
          rw [h1] at hB
          exact absurd (Obj.cells.inj (Option.some.inj hB)).2.1 (by decide))
      go_loopw [36] (fun m wq => ∃ j : Nat, j ≤ N ∧ m = .int .i64 (j : Int) ∧ Hid (∃ vP, PS g w1 (Y ++ vb s.op.toNat ++ (((mem s.op).take j).map s.memB).flatten) vP wq) ∧ Hid (Block wq T 29 [.int .i64 s.op, .int .i64 s.fm, .int .i64 s.fd, .int .i64 s.pl, .int .i64 s.tt, .int .i64 s.a, .int .i64 s.b, .int .i64 s.f.id, .int .i64 s.f.kind, .int .i64 s.f.lo, .int .i64 s.f.hi, .int .i64 s.f.most, .int .i64 s.v.n, .string s.v.s, .slice ta s.t.length tc, .slice la s.l.length lc]) ∧ Hid (MRow wq aM s.op)) (fun m _ => N - (intOf m).toNat)
      case atStart => exact ⟨0, Nat.zero_le _, rfl, hid ⟨v5, by simpa using HS6.out⟩, HB6, HM⟩
      case round =>
        obtain ⟨j, hj, rfl, HQ, HBQ, HMQ⟩ := hrel
        obtain ⟨vQ, hQ⟩ := HQ.out
        by_cases hjt : j < N
        · obtain ⟨b2, off2, m, rfl, hbl2, hm, hm12, e0⟩ := memI_cell HMQ.out.ins (Below.refl _ _) (k := j) (by rw [hN.out]; exact hjt)
          have i2 : (j : Int) < N := by omega
          have HXX := hid (memsB_succ hm)
          have hmm := List.mem_of_getElem? hm
          have lg := memsB_len HPR.out.1 j
          have lo := vb_ten s.op.toNat (by have := HOP.out; omega)
          have lY := HYL.out
          have cP := printMember_any hQ hg.out s ta tc la lc HGD m hm12 (HPR.out.1 m hmm) (by simp only [List.length_append]; omega)
          have x0 := HBQ.out.cell 0
          have x1 := HBQ.out.cell 1
          have x2 := HBQ.out.cell 2
          have x3 := HBQ.out.cell 3
          have x4 := HBQ.out.cell 4
          have x5 := HBQ.out.cell 5
          have x6 := HBQ.out.cell 6
          have x7 := HBQ.out.cell 7
          have x8 := HBQ.out.cell 8
          have x9 := HBQ.out.cell 9
          have x10 := HBQ.out.cell 10
          have x11 := HBQ.out.cell 11
          have x12 := HBQ.out.cell 12
          have x13 := HBQ.out.cell 13
          have x14 := HBQ.out.cell 14
          have x15 := HBQ.out.cell 15
          have HMN := hid (show mem s.op ≠ [] from fun e => by rw [e] at hmm; simp at hmm)
          unfold Pens at cP
          clear hm hmm lg lo lY hQ HQ
          go_wp2_with (go_at_call 35; ((with_reducible refine cP.mono ?_); clear cP; rintro e w7 ⟨rfl, v7, hS7, hK7⟩; have HS7 := hid hS7; clear hS7))
          exact ⟨⟨j + 1, by omega, by go_num, hid ⟨v7, by rw [HXX.out]; simpa only [List.append_assoc] using HS7.out⟩, hid (hK7 _ _ _ HBQ.out st_ty hne), hid (HMQ.out.stays hK7 (fun x hx => HMG.out x hx HMN.out))⟩, by simp [intOf]; omega⟩
        · obtain rfl : j = N := by omega
          rw [← hN.out, List.take_of_length_le (Nat.le_refl _)] at hQ
          have HEND : Hid (∃ vP, PS g w1 (X ++ stepsB ((sps L).take (k + 1))) vP wr) := hid (by
            rw [HTK.out, stepB_mem]
            have h1 := hQ
            rw [← hY.out] at h1
            exact ⟨_, by simpa only [List.append_assoc] using h1⟩)
          clear hQ HQ
          go_wp2
          exact ⟨⟨k + 1, by omega, by go_num, HEND⟩, by simp [intOf]; omega⟩
    · obtain rfl : k = L.length := by omega
      rw [List.take_of_length_le (by rw [HLN.out]; exact Nat.le_refl _)] at hS
      have cD := done_any g g vP (X ++ stepsB (sps L)) wr hS.1 (by have h1 := stepsB_len HR.out (by rw [HLN.out]; exact h40) L.length; rw [List.take_of_length_le (by rw [HLN.out]; exact Nat.le_refl _)] at h1; have := HXL.out; simp only [List.length_append]; omega)
      unfold pen.Gives at cD
      have HSE := hid hS
      clear hS HS
      go_wp2_with (go_at_call 36; ((with_reducible refine cD.mono ?_); rintro e w5 ⟨u, rfl, ho, hb5⟩; have HO5 := hid ho; have HB5 := hid hb5; clear ho hb5))
      go_ret2
      have hS := HSE.out
      have hbw : Below g w1 w5 := hS.2.1.trans (HB5.out.mono hS.2.2)
      have hlow : w.heap.size ≤ wr.heap.size := Nat.le_trans HSZ.out hS.2.2
      exact ⟨u, rfl, own_low HO5.out hlow, HB1.out.trans ((show Below w1.heap.size w1 w5 by rw [hg.out]; exact hbw).mono HB1.out.size)⟩
theorem print_any (a : Option Addr) (c : Nat) (L : List St) (w : World) (h : StL w a L) (hL : L.length ≤ maxLen) : Calls Try.prog 12 #[.slice a L.length c] w (PrintPost (sps L) w) := by
  unfold PrintPost rightsE
  by_cases h40 : 40 < L.length
  · have h1 : 40 < (sps L).length := by rw [sps_length]; exact h40
    simp only [if_pos h1]
    exact print_many a c L w h40 hL
  · have h1 : ¬ 40 < (sps L).length := by rw [sps_length]; exact h40
    simp only [if_neg h1]
    by_cases hr : Rights (sps L)
    · simp only [if_pos hr]
      exact print_yes a c L w h (by omega) hr
    · simp only [if_neg hr]
      exact print_no a c L w h (by omega) hr
end Go.Proofs.Ytpdnfiofjkbeiaa.step
/- Contract of the law file's awake of layer 15. No condition. -/
namespace Go.Proofs.Ytpdnfiofjkbeiaa.step
open Go.RowKit Go.Proofs.Ytpdnfiofjkbeiaa.pen
open Go.Proofs.Ytpdnfiofjkbeiaa.field (newB)
set_option linter.unusedVariables false

def s1 : Sp := ⟨10, 7, 0, 0, 0, 0, 0, fd0, va0, [], []⟩
def s0 : Sp := ⟨10, 0, 0, 0, 0, 0, 0, fd0, va0, [], []⟩
theorem right1 : s1.Right := by refine ⟨?_, by decide, rfl⟩; intro m hm; obtain rfl := List.mem_singleton.1 hm; exact ⟨by decide, by decide⟩
theorem right0 : s0.Right := by refine ⟨?_, by decide, rfl⟩; intro m hm; obtain rfl := List.mem_singleton.1 hm; exact ⟨by decide, by decide⟩
theorem rightZ : ¬ Sp.zero.Right := fun h => h.2.1 (by decide)
theorem bytes1 : listB [s1] = [1, 10, 7] := by
  show vb 1 ++ ((vb (10 : Int).toNat ++ ((uses 10).map s1.letB).flatten) ++ []) = _
  show vb 1 ++ ((vb 10 ++ (vb 7 ++ [])) ++ []) = _
  rw [vb_small (by omega), vb_small (by omega), vb_small (by omega)]
  rfl
set_option maxRecDepth 20000 in
theorem awake_any (w : World) : Calls Try.prog 7 #[] w (Yes w) := by
  have b1 := newB w (.cells #[.int .i64 10, .int .i64 7, .int .i64 0, .int .i64 0, .int .i64 0, .int .i64 0, .int .i64 0, .int .i64 0, .int .i64 0, .int .i64 0, .int .i64 0, .int .i64 0, .int .i64 0, .string ⟨#[]⟩, .slice none 0 0, .slice none 0 0] 29)
  have hB := Block.new w 29 [.int .i64 10, .int .i64 7, .int .i64 0, .int .i64 0, .int .i64 0, .int .i64 0, .int .i64 0, .int .i64 0, .int .i64 0, .int .i64 0, .int .i64 0, .int .i64 0, .int .i64 0, .string ⟨#[]⟩, .slice none 0 0, .slice none 0 0]
  obtain ⟨W1, hW1⟩ : ∃ x, w.alloc (.cells #[.int .i64 10, .int .i64 7, .int .i64 0, .int .i64 0, .int .i64 0, .int .i64 0, .int .i64 0, .int .i64 0, .int .i64 0, .int .i64 0, .int .i64 0, .int .i64 0, .int .i64 0, .string ⟨#[]⟩, .slice none 0 0, .slice none 0 0] 29) = x := ⟨_, rfl⟩
  have HW1 := hid hW1
  rw [show (w.alloc (.cells [.int .i64 10, .int .i64 7, .int .i64 0, .int .i64 0, .int .i64 0, .int .i64 0, .int .i64 0, .int .i64 0, .int .i64 0, .int .i64 0, .int .i64 0, .int .i64 0, .int .i64 0, .string ⟨#[]⟩, .slice none 0 0, .slice none 0 0].toArray 29)) = W1 from hW1] at hB
  rw [hW1] at b1
  have hL : StL W1 (some ⟨w.heap.size, 0, none⟩) [⟨s1, none, 0, none, 0⟩] := by
    refine ⟨.inr ⟨w.heap.size, 0, rfl, hB.lt, fun i p hp j v hv => ?_⟩, fun p hp => ?_⟩
    · cases i with
      | zero =>
        simp only [List.getElem?_cons_zero, Option.some.injEq] at hp
        subst hp
        rw [show 0 + 0 * 16 + j = j by omega, hB.cell]
        exact hv
      | succ i => simp at hp
    · rw [List.mem_singleton.1 hp]; exact ⟨.inl rfl, .inl rfl, Nat.zero_le _, Nat.zero_le _⟩
  have cP := print_yes (some ⟨w.heap.size, 0, none⟩) 1 [⟨s1, none, 0, none, 0⟩] W1 hL (by simp) (fun q hq => by rw [List.mem_singleton.1 hq]; exact right1)
  rw [show sps [⟨s1, none, 0, none, 0⟩] = [s1] from rfl, bytes1] at cP
  replace cP : Calls Try.prog 12 #[.slice (some ⟨w.heap.size, 0, none⟩) 1 1] W1 (pen.Gives [1, 10, 7] 0 W1) := cP
  have cR : ∀ w', Calls Try.prog 8 #[.agg #[.int .i64 10, .int .i64 0, .int .i64 0, .int .i64 0, .int .i64 0, .int .i64 0, .int .i64 0, .int .i64 0, .int .i64 0, .int .i64 0, .int .i64 0, .int .i64 0, .int .i64 0, .string ⟨#[]⟩, .slice none 0 0, .slice none 0 0]] w' (field.Gives (.bool true) w') := fun w' => by
    have := right_any s0 none 0 none 0 w' ⟨.inl rfl, .inl rfl, Nat.zero_le _, Nat.zero_le _⟩
    rw [decide_eq_true right0] at this
    exact this
  have cZ : ∀ w', Calls Try.prog 8 #[.agg #[.int .i64 0, .int .i64 0, .int .i64 0, .int .i64 0, .int .i64 0, .int .i64 0, .int .i64 0, .int .i64 0, .int .i64 0, .int .i64 0, .int .i64 0, .int .i64 0, .int .i64 0, .string ⟨#[]⟩, .slice none 0 0, .slice none 0 0]] w' (field.Gives (.bool false) w') := fun w' => by
    have := right_any Sp.zero none 0 none 0 w' ⟨.inl rfl, .inl rfl, Nat.zero_le _, Nat.zero_le _⟩
    rw [decide_eq_false rightZ] at this
    exact this
  have HS : Hid (strOf [1, 10, 7] = ⟨#[1, 10, 7]⟩) := by show _ = _; decide
  have HB1 := hid b1
  unfold field.Gives at cR cZ
  clear hL hB b1 hW1
  rw [← HW1.out] at cP
  go_enter Try.func7, Try.ntmps7
  go_wp2_with (first
    | (go_at_call 12; ((with_reducible refine cP.mono ?_); clear cP; rintro e w4 ⟨u, rfl, ho, hb4⟩; rw [HW1.out] at hb4; obtain ⟨a4, c4, rfl, _⟩ := ownsRow_slice ho; have hcv := Reads.str (P := Try.prog) (show Reads .u8 w4 a4 3 [1, 10, 7] from Reads.own ho) 35 5 Try.underlying35 Try.underlying5 c4 9 Try.underlying9; rw [HS.out] at hcv; clear ho))
    | (go_at_call 8; ((with_reducible refine (cR _).mono ?_); rintro e w5 ⟨rfl, hb5⟩))
    | (go_at_call 8; ((with_reducible refine (cZ _).mono ?_); rintro e w6 ⟨rfl, hb6⟩)))
  go_ret
  exact ⟨rfl, HB1.out.trans ((hb4.trans ((hb5.trans (hb6.mono hb5.size)).mono hb4.size)).mono HB1.out.size)⟩
end Go.Proofs.Ytpdnfiofjkbeiaa.step
