/- Contracts and lemmas that the claims of this seat share: StepRight, TypingForward. Each says its own conditions. -/
import Derived.Test.YtiajpjkkopdmgaaCmO
import Derived.Test.YtiajpjkkopdmgaaCmP
import Derived.Test.YtiajpjkkopdmgaaCmN
import Derived.Test.YtiajpjkkopdmgaaCmE

namespace Go.Proofs.Ytiajpjkkopdmgaa.step
open Go.RowKit
open Go.Proofs.Ytiajpjkkopdmgaa.field (Gives newB gives_from)
open Go.Proofs.Ytiajpjkkopdmgaa.schema (below_out take_succ_at)
set_option linter.unusedVariables false

def Sp.bareK (s : Sp) (k : Nat) : Sp := ((mem s.op).take k).foldl Sp.clear { s with op := 0 }
theorem bareK_succ {s : Sp} {k m : Nat} (h : (mem s.op)[k]? = some m) : s.bareK (k + 1) = (s.bareK k).clear m := by
  unfold Sp.bareK
  rw [take_succ_at h, List.foldl_append]
  rfl
theorem bareK_all (s : Sp) : s.bareK (mem s.op).length = (mem s.op).foldl Sp.clear { s with op := 0 } := by
  unfold Sp.bareK
  rw [List.take_of_length_le (Nat.le_refl _)]
theorem memI_cell {w w' : World} {a : Option Addr} {op : Int} (h : Ins w a (memI op)) (hb : Below w.heap.size w w') {k : Nat} (hk : k < (mem op).length) :
    ∃ b off m, a = some ⟨b, off, none⟩ ∧ b < w'.heap.size ∧ (mem op)[k]? = some m ∧ m < 12 ∧ w'.cell? ⟨b, off + k, none⟩ = some (.int .i64 (m : Int)) := by
  obtain ⟨b, off, p, h1, h2, h3, h4⟩ := int_at h hb (k := k) (by rw [memI_len]; exact hk)
  have hm := List.getElem?_eq_getElem hk
  have h5 := memI_at hm
  rw [h3] at h5
  obtain rfl := Option.some.inj h5
  exact ⟨b, off, _, h1, h2, hm, mem_lt op _ (List.mem_of_getElem? hm), h4⟩
set_option maxRecDepth 20000 in
set_option maxHeartbeats 3200000 in
theorem right_any (s : Sp) (ta : Option Addr) (tc : Nat) (la : Option Addr) (lc : Nat) (w : World) (h : Lists w s ta la) : Calls Try.prog 39 #[.agg #[.int .i64 s.op, .int .i64 s.fm, .int .i64 s.fd, .int .i64 s.pl, .int .i64 s.tt, .int .i64 s.a, .int .i64 s.b, .int .i64 s.f.id, .int .i64 s.f.kind, .int .i64 s.f.lo, .int .i64 s.f.hi, .int .i64 s.f.most, .int .i64 s.v.n, .string s.v.s, .slice ta s.t.length tc, .slice la s.l.length lc]] w (Gives (.bool (decide s.Right)) w) := by
  have HX := hid (boxP s ta tc la lc w)
  have HL := hid (h.below (newB w (.cells #[.int .i64 s.op, .int .i64 s.fm, .int .i64 s.fd, .int .i64 s.pl, .int .i64 s.tt, .int .i64 s.a, .int .i64 s.b, .int .i64 s.f.id, .int .i64 s.f.kind, .int .i64 s.f.lo, .int .i64 s.f.hi, .int .i64 s.f.most, .int .i64 s.v.n, .string s.v.s, .slice ta s.t.length tc, .slice la s.l.length lc] 32)))
  have cM := members_any s.op (w.alloc (.cells #[.int .i64 s.op, .int .i64 s.fm, .int .i64 s.fd, .int .i64 s.pl, .int .i64 s.tt, .int .i64 s.a, .int .i64 s.b, .int .i64 s.f.id, .int .i64 s.f.kind, .int .i64 s.f.lo, .int .i64 s.f.hi, .int .i64 s.f.most, .int .i64 s.v.n, .string s.v.s, .slice ta s.t.length tc, .slice la s.l.length lc] 32))
  obtain ⟨r, hr⟩ : ∃ r : Bool, Hid (decide s.Right = r) := ⟨_, rfl⟩
  rw [hr.out]
  unfold Gives
  unfold Members at cM
  clear h
  go_enter Try.func39, Try.ntmps39
  go_wp2_with (go_at_call 69; ((with_reducible refine cM.mono ?_); rintro e w1 ⟨aM, cMx, rfl, hI, hb1⟩; obtain ⟨⟨z0, z1, z2, z3, z4, z5, z6, z7, z8, z9, z10, z11, z12, z13, z14, z15⟩, hbo⟩ := HX.out _ hb1; have HB1 := hid hb1; have HBO := hid hbo; have HI := hid hI.ins; clear hb1 hbo hI))
  clear z0 z1 z2 z3 z4 z5 z6 z7 z8 z9 z10 z11 z12 z13 z14 z15 cM
  have HL1 := hid (HL.out.below HB1.out)
  have HX1 := hid (fun w' (hb : Below w1.heap.size w1 w') => HX.out w' (HB1.out.trans (hb.mono HB1.out.size)))
  have HBX : Hid (BoxAt w1 w1.heap.size (s.bareK 0) ta tc la lc (w1.alloc (.cells #[.int .i64 0, .int .i64 s.fm, .int .i64 s.fd, .int .i64 s.pl, .int .i64 s.tt, .int .i64 s.a, .int .i64 s.b, .int .i64 s.f.id, .int .i64 s.f.kind, .int .i64 s.f.lo, .int .i64 s.f.hi, .int .i64 s.f.most, .int .i64 s.v.n, .string s.v.s, .slice ta s.t.length tc, .slice la s.l.length lc] 32))) :=
    hid ⟨Block.new w1 32 [.int .i64 0, .int .i64 s.fm, .int .i64 s.fd, .int .i64 s.pl, .int .i64 s.tt, .int .i64 s.a, .int .i64 s.b, .int .i64 s.f.id, .int .i64 s.f.kind, .int .i64 s.f.lo, .int .i64 s.f.hi, .int .i64 s.f.most, .int .i64 s.v.n, .string s.v.s, .slice ta s.t.length tc, .slice la s.l.length lc], ⟨HL1.out.t, HL1.out.l, HL1.out.mt, HL1.out.ml⟩, Nat.le_refl _, newB _ _⟩
  generalize w1.alloc (.cells #[.int .i64 0, .int .i64 s.fm, .int .i64 s.fd, .int .i64 s.pl, .int .i64 s.tt, .int .i64 s.a, .int .i64 s.b, .int .i64 s.f.id, .int .i64 s.f.kind, .int .i64 s.f.lo, .int .i64 s.f.hi, .int .i64 s.f.most, .int .i64 s.v.n, .string s.v.s, .slice ta s.t.length tc, .slice la s.l.length lc] 32) = w2 at *
  obtain ⟨U, hU⟩ : ∃ U : Nat, Hid (w1.heap.size = U) := ⟨_, rfl⟩
  rw [hU.out] at HBX ⊢
  obtain ⟨N, hN⟩ : ∃ N : Nat, Hid ((mem s.op).length = N) := ⟨_, rfl⟩
  have hN5 : N ≤ 5 := by rw [← hN.out]; exact mem_len _
  rw [hN.out]
  go_loopw [14] (fun n wr => ∃ k : Nat, k ≤ N ∧ n = .int .i64 (k : Int) ∧ Hid (∀ m ∈ (mem s.op).take k, s.Fine m) ∧ Hid (∃ ta' tc' la' lc', BoxAt w1 U (s.bareK k) ta' tc' la' lc' wr)) (fun n _ => N - (intOf n).toNat)
  case atStart => exact ⟨0, Nat.zero_le _, rfl, hid (by simp), hid ⟨_, _, _, _, HBX.out⟩⟩
  case round =>
    obtain ⟨k, hk, rfl, HOK, HBW⟩ := hrel
    obtain ⟨ta', tc', la', lc', hbox⟩ := HBW.out
    have HB := hid hbox.below
    obtain ⟨⟨z0, z1, z2, z3, z4, z5, z6, z7, z8, z9, z10, z11, z12, z13, z14, z15⟩, hbo⟩ := HX1.out _ HB.out
    have HBOX := hid hbox
    by_cases hlt : k < N
    · obtain ⟨b, off, m, rfl, hbl, hm, hm12, c0⟩ := memI_cell HI.out HB.out (k := k) (by rw [hN.out]; exact hlt)
      have i1 : (k : Int) < N := by omega
      have HM := hid hm
      have HTK := hid (take_succ_at hm)
      have HSUC := hid (bareK_succ hm)
      have HMEM := hid (List.mem_of_getElem? hm)
      have cF := fine_any s ta tc la lc m hm12 _ (HL1.out.below HB.out)
      have cC := fun w' hb => clear_any U (s.bareK k) ta' tc' la' lc' m hm12 w' (HBOX.out.later hb)
      clear hm hbox hbo
      unfold Gives at cF
      unfold Cleared at cC
      by_cases hf : s.Fine m
      · rw [decide_eq_true hf] at cF
        have HFM := hid hf
        clear hf
        go_wp2_with (first
          | (go_at_call 70; ((with_reducible refine cF.mono ?_); rintro e w3 ⟨rfl, hb3⟩; have HB3 := hid hb3))
          | (go_at_call 71; ((with_reducible refine (cC _ hb3).mono ?_); rintro e w4 ⟨rfl, hbx4⟩; have HB4 := hid hbx4)))
        refine ⟨⟨k + 1, by omega, by go_num, hid ?_, hid ?_⟩, by simp [intOf]; omega⟩
        · rw [HTK.out]
          intro q hq
          rcases List.mem_append.1 hq with h | h
          · exact HOK.out q h
          · rw [List.mem_singleton.1 h]; exact HFM.out
        · rw [HSUC.out]; exact HB4.out
      · rw [decide_eq_false hf] at cF
        obtain rfl : false = r := by rw [← hr.out]; exact (decide_eq_false (fun h => hf (h.1 m HMEM.out))).symm
        clear hf cC
        go_wp2_with (go_at_call 70; ((with_reducible refine cF.mono ?_); rintro e w3 ⟨rfl, hb3⟩))
        go_ret
        exact ⟨rfl, HBO.out.trans ((HB.out.trans (hb3.mono HB.out.size)).mono HBO.out.size)⟩
    · obtain rfl : k = N := by omega
      have HALL : Hid (∀ m ∈ mem s.op, s.Fine m) := hid (by have := HOK.out; rw [← hN.out, List.take_of_length_le (Nat.le_refl _)] at this; exact this)
      have HRI : Hid (s.Right ↔ mem s.op ≠ [] ∧ s.bareK k = Sp.zero) := hid (by rw [← hN.out, bareK_all]; exact ⟨fun h => h.2, fun h => ⟨HALL.out, h⟩⟩)
      clear hbox hbo z0 z1 z2 z3 z4 z5 z6 z7 z8 z9 z10 z11 z12 z13 z14 z15
      by_cases hz : k = 0
      · have hme : mem s.op = [] := List.eq_nil_of_length_eq_zero (by rw [hN.out]; exact hz)
        obtain rfl : false = r := by rw [← hr.out]; exact (decide_eq_false (fun h => (HRI.out.1 h).1 hme)).symm
        have hd : decide ((k : Int) > 0) = false := decide_eq_false (by omega)
        have j1 : ¬ 0 < k := by omega
        have j2 : ¬ (0 : Int) < (k : Int) := by omega
        clear hme hlt
        go_wp2
        go_ret
        exact ⟨rfl, HBO.out.trans (HB.out.mono HBO.out.size)⟩
      · have hme : mem s.op ≠ [] := fun e => hz (by rw [← hN.out, e]; rfl)
        have hd : decide ((k : Int) > 0) = true := decide_eq_true (by omega)
        have j1 : 0 < k := by omega
        have j2 : (0 : Int) < (k : Int) := by omega
        have HRB : Hid (decide (s.bareK k = Sp.zero) = r) := hid (by rw [← hr.out]; exact decide_eq_decide.2 ⟨fun h => HRI.out.2 ⟨hme, h⟩, fun h => (HRI.out.1 h).2⟩)
        obtain ⟨u, hu⟩ : ∃ u, Hid (s.bareK k = u) := ⟨_, rfl⟩
        have HBU := HBOX
        rw [hu.out] at HBU HRB
        have hf := HBU.out.f
        have y0 := hf.cell 0
        have y1 := hf.cell 1
        have y2 := hf.cell 2
        have y3 := hf.cell 3
        have y4 := hf.cell 4
        have y5 := hf.cell 5
        have y6 := hf.cell 6
        have y7 := hf.cell 7
        have y8 := hf.cell 8
        have y9 := hf.cell 9
        have y10 := hf.cell 10
        have y11 := hf.cell 11
        have y12 := hf.cell 12
        have y13 := hf.cell 13
        have y14 := hf.cell 14
        have y15 := hf.cell 15
        have cS := fun w' (hb : Below w1.heap.size w1 w') => same_any u ta' tc' la' lc' Sp.zero none 0 none 0 w' ((HBU.out.lists).below hb) ⟨.inl rfl, .inl rfl, Nat.zero_le _, Nat.zero_le _⟩
        rw [HRB.out] at cS
        unfold Gives at cS
        replace cS : ∀ w', Below w1.heap.size w1 w' → Calls Try.prog 72 #[.agg #[.int .i64 u.op, .int .i64 u.fm, .int .i64 u.fd, .int .i64 u.pl, .int .i64 u.tt, .int .i64 u.a, .int .i64 u.b, .int .i64 u.f.id, .int .i64 u.f.kind, .int .i64 u.f.lo, .int .i64 u.f.hi, .int .i64 u.f.most, .int .i64 u.v.n, .string u.v.s, .slice ta' u.t.length tc', .slice la' u.l.length lc'], .agg #[.int .i64 0, .int .i64 0, .int .i64 0, .int .i64 0, .int .i64 0, .int .i64 0, .int .i64 0, .int .i64 0, .int .i64 0, .int .i64 0, .int .i64 0, .int .i64 0, .int .i64 0, .string ⟨#[]⟩, .slice none 0 0, .slice none 0 0]] w' fun e w2 => e = .returned (.bool r) ∧ Below w'.heap.size w' w2 := cS
        clear hf hme hlt hz
        go_wp2_with (go_at_call 72; ((with_reducible refine (cS _ (by first | exact HB.out | exact below_drewN HB.out _)).mono ?_); rintro e w3 ⟨rfl, hb3⟩))
        go_ret
        exact ⟨rfl, HBO.out.trans ((HB.out.trans (hb3.mono HB.out.size)).mono HBO.out.size)⟩
end Go.Proofs.Ytiajpjkkopdmgaa.step

namespace Go.Proofs.Ytiajpjkkopdmgaa.typing
open Go.RowKit Go.Proofs.Ytiajpjkkopdmgaa.schema
open Go.Proofs.Ytiajpjkkopdmgaa.field (Gives newB gives_from)
open Go.Proofs.Ytiajpjkkopdmgaa.step (Lists boxP)
set_option linter.unusedVariables false

theorem twithin_any (n lo hi : Int) (w : World) : Calls Try.prog 38 #[.int .i64 n, .int .i64 lo, .int .i64 hi] w (Gives (.bool (decide (lo ≤ n ∧ n ≤ hi))) w) := by
  obtain ⟨v, hv⟩ : ∃ v : Bool, Hid (decide (lo ≤ n ∧ n ≤ hi) = v) := ⟨_, rfl⟩
  rw [hv.out]
  unfold Gives
  by_cases h1 : lo ≤ n
  · by_cases h2 : n ≤ hi
    · obtain rfl : true = v := by rw [← hv.out]; simp [h1, h2]
      go_enter Try.func38, Try.ntmps38
      go_wp2
      go_ret
      exact ⟨rfl, Below.refl _ _⟩
    · obtain rfl : false = v := by rw [← hv.out]; simp [h1, h2]
      have hd : decide (n ≤ hi) = false := decide_eq_false h2
      go_enter Try.func38, Try.ntmps38
      go_wp2
      go_ret
      exact ⟨rfl, Below.refl _ _⟩
  · obtain rfl : false = v := by rw [← hv.out]; simp [h1]
    have hd : decide (lo ≤ n) = false := decide_eq_false h1
    go_enter Try.func38, Try.ntmps38
    go_wp2
    go_ret
    exact ⟨rfl, Below.refl _ _⟩

set_option maxRecDepth 20000 in
theorem forward_any (s : step.Sp) (ta : Option Addr) (tc : Nat) (la : Option Addr) (lc : Nat) (w : World) (hl : Lists w s ta la) : Calls Try.prog 19 #[.agg #[.int .i64 s.op, .int .i64 s.fm, .int .i64 s.fd, .int .i64 s.pl, .int .i64 s.tt, .int .i64 s.a, .int .i64 s.b, .int .i64 s.f.id, .int .i64 s.f.kind, .int .i64 s.f.lo, .int .i64 s.f.hi, .int .i64 s.f.most, .int .i64 s.v.n, .string s.v.s, .slice ta s.t.length tc, .slice la s.l.length lc]] w (Gives (.bool (decide ((1 ≤ s.op ∧ s.op ≤ 10) ∧ s.Right))) w) := by
  have HX := hid (boxP s ta tc la lc w)
  have hN := newB w (.cells #[.int .i64 s.op, .int .i64 s.fm, .int .i64 s.fd, .int .i64 s.pl, .int .i64 s.tt, .int .i64 s.a, .int .i64 s.b, .int .i64 s.f.id, .int .i64 s.f.kind, .int .i64 s.f.lo, .int .i64 s.f.hi, .int .i64 s.f.most, .int .i64 s.v.n, .string s.v.s, .slice ta s.t.length tc, .slice la s.l.length lc] 32)
  have cW := twithin_any s.op 1 10 ((w.alloc (.cells #[.int .i64 s.op, .int .i64 s.fm, .int .i64 s.fd, .int .i64 s.pl, .int .i64 s.tt, .int .i64 s.a, .int .i64 s.b, .int .i64 s.f.id, .int .i64 s.f.kind, .int .i64 s.f.lo, .int .i64 s.f.hi, .int .i64 s.f.most, .int .i64 s.v.n, .string s.v.s, .slice ta s.t.length tc, .slice la s.l.length lc] 32)))
  have cR := fun (w' : World) (hb : Below ((w.alloc (.cells #[.int .i64 s.op, .int .i64 s.fm, .int .i64 s.fd, .int .i64 s.pl, .int .i64 s.tt, .int .i64 s.a, .int .i64 s.b, .int .i64 s.f.id, .int .i64 s.f.kind, .int .i64 s.f.lo, .int .i64 s.f.hi, .int .i64 s.f.most, .int .i64 s.v.n, .string s.v.s, .slice ta s.t.length tc, .slice la s.l.length lc] 32))).heap.size ((w.alloc (.cells #[.int .i64 s.op, .int .i64 s.fm, .int .i64 s.fd, .int .i64 s.pl, .int .i64 s.tt, .int .i64 s.a, .int .i64 s.b, .int .i64 s.f.id, .int .i64 s.f.kind, .int .i64 s.f.lo, .int .i64 s.f.hi, .int .i64 s.f.most, .int .i64 s.v.n, .string s.v.s, .slice ta s.t.length tc, .slice la s.l.length lc] 32))) w') => step.right_any s ta tc la lc w' ((hl.below hN).below hb)
  obtain ⟨r, hr⟩ : ∃ r : Bool, Hid (decide ((1 ≤ s.op ∧ s.op ≤ 10) ∧ s.Right) = r) := ⟨_, rfl⟩
  rw [hr.out]
  unfold Gives at cW cR ⊢
  clear hN hl
  by_cases hw : 1 ≤ s.op ∧ s.op ≤ 10
  · rw [decide_eq_true hw] at cW
    have HR : Hid (decide s.Right = r) := hid (by rw [← hr.out]; simp [hw])
    rw [HR.out] at cR
    clear hw
    go_enter Try.func19, Try.ntmps19
    go_wp2_with (first
      | (go_at_call 38; ((with_reducible refine cW.mono ?_); rintro e w1 ⟨rfl, hb1⟩; obtain ⟨⟨z0, z1, z2, z3, z4, z5, z6, z7, z8, z9, z10, z11, z12, z13, z14, z15⟩, hbo⟩ := HX.out _ hb1))
      | (go_at_call 39; ((with_reducible refine (cR _ hb1).mono ?_); rintro e w2 ⟨rfl, hb2⟩)))
    go_ret
    exact ⟨rfl, hbo.trans (hb2.mono hbo.size)⟩
  · rw [decide_eq_false hw] at cW
    obtain rfl : false = r := by rw [← hr.out]; simp [hw]
    clear hw
    go_enter Try.func19, Try.ntmps19
    go_wp2_with (go_at_call 38; ((with_reducible refine cW.mono ?_); rintro e w1 ⟨rfl, hb1⟩; have hbo := (HX.out _ hb1).2))
    go_ret
    exact ⟨rfl, hbo⟩
/-- the rows of a schema lie behind n -/
def Far (n : Nat) (x : Option Addr) (G : List Fm) : Prop := (∀ y, x = some y → n ≤ y.block) ∧ ∀ p ∈ G, ∀ y, p.f = some y → n ≤ y.block
theorem far_row {w : World} {B n m sz c : Nat} {e : TypeId} {x : Option Addr} {xs : List Value} (h : w.ownsRow B e sz (.slice x n c) m xs) : ∀ y, x = some y → B ≤ y.block := by
  intro y hy
  subst hy
  rcases h.2 with ⟨hv, _⟩ | ⟨g, cap, cur, hv, hb, _⟩
  · cases hv
  · cases hv; exact hb
theorem far_nil (n : Nat) : Far n none [] := ⟨fun y hy => (by cases hy), fun p hp => (by cases hp)⟩
/-- the call returns a schema and an error as r says; the schema's rows are the call's own -/
def OnAs (r : Int × List schema.Form × Nat) (w : World) (e : Ending) (w' : World) : Prop :=
  ∃ x xc G, e = .returned (.tuple #[.agg #[.int .i64 r.1, .slice x (List.length (α := Fm) G) xc], .int .i64 (r.2.2 : Nat)]) ∧ FmL w' x G ∧ forms G = r.2.1 ∧ Far w.heap.size x G ∧ Below w.heap.size w w'
theorem fit_iff (v : Int) (F : List schema.Form) (s : step.Sp) : Fit v F s ↔ Right v F ∧ (1 ≤ s.op ∧ s.op ≤ 10) ∧ s.Right := by
  unfold Fit
  constructor
  · rintro ⟨h1, h2, h3⟩
    exact ⟨h1, ⟨(step.mem_span h2.2.1).1, h3⟩, h2⟩
  · rintro ⟨h1, h2, h3⟩
    exact ⟨h1, h3, h2.2⟩
set_option maxRecDepth 20000 in
set_option maxHeartbeats 3200000 in
theorem on_no (v : Int) (a : Option Addr) (cc : Nat) (F : List Fm) (c : Ch) (hc : c = begin_ (forms F) c.s) (ta : Option Addr) (tc : Nat) (la : Option Addr) (lc : Nat) (w : World) (h : FmL w a F) (hF : Small w F) (hl : Lists w c.s ta la) (hL : c.s.l.length ≤ 40) (hf : ¬ Fit v (forms F) c.s) :
    Calls Try.prog 8 #[.agg #[.int .i64 v, .slice a F.length cc], .agg #[.int .i64 c.s.op, .int .i64 c.s.fm, .int .i64 c.s.fd, .int .i64 c.s.pl, .int .i64 c.s.tt, .int .i64 c.s.a, .int .i64 c.s.b, .int .i64 c.s.f.id, .int .i64 c.s.f.kind, .int .i64 c.s.f.lo, .int .i64 c.s.f.hi, .int .i64 c.s.f.most, .int .i64 c.s.v.n, .string c.s.v.s, .slice ta c.s.t.length tc, .slice la c.s.l.length lc]] w (OnAs (0, [], 2) w) := by
  have hbw : Below w.heap.size w ((((w.alloc (.cells #[.int .i64 v, .slice a F.length cc] 24))).alloc (.cells #[.int .i64 c.s.op, .int .i64 c.s.fm, .int .i64 c.s.fd, .int .i64 c.s.pl, .int .i64 c.s.tt, .int .i64 c.s.a, .int .i64 c.s.b, .int .i64 c.s.f.id, .int .i64 c.s.f.kind, .int .i64 c.s.f.lo, .int .i64 c.s.f.hi, .int .i64 c.s.f.most, .int .i64 c.s.v.n, .string c.s.v.s, .slice ta c.s.t.length tc, .slice la c.s.l.length lc] 32)).alloc (.cells #[.int .i64 0, .slice none 0 0] 24)) := by
    have h1 := newB w (.cells #[.int .i64 v, .slice a F.length cc] 24)
    have h2 := h1.alloc h1.size (.cells #[.int .i64 c.s.op, .int .i64 c.s.fm, .int .i64 c.s.fd, .int .i64 c.s.pl, .int .i64 c.s.tt, .int .i64 c.s.a, .int .i64 c.s.b, .int .i64 c.s.f.id, .int .i64 c.s.f.kind, .int .i64 c.s.f.lo, .int .i64 c.s.f.hi, .int .i64 c.s.f.most, .int .i64 c.s.v.n, .string c.s.v.s, .slice ta c.s.t.length tc, .slice la c.s.l.length lc] 32)
    exact h2.alloc h2.size _
  have HX : Hid (∀ w', Below (((((w.alloc (.cells #[.int .i64 v, .slice a F.length cc] 24))).alloc (.cells #[.int .i64 c.s.op, .int .i64 c.s.fm, .int .i64 c.s.fd, .int .i64 c.s.pl, .int .i64 c.s.tt, .int .i64 c.s.a, .int .i64 c.s.b, .int .i64 c.s.f.id, .int .i64 c.s.f.kind, .int .i64 c.s.f.lo, .int .i64 c.s.f.hi, .int .i64 c.s.f.most, .int .i64 c.s.v.n, .string c.s.v.s, .slice ta c.s.t.length tc, .slice la c.s.l.length lc] 32)).alloc (.cells #[.int .i64 0, .slice none 0 0] 24))).heap.size ((((w.alloc (.cells #[.int .i64 v, .slice a F.length cc] 24))).alloc (.cells #[.int .i64 c.s.op, .int .i64 c.s.fm, .int .i64 c.s.fd, .int .i64 c.s.pl, .int .i64 c.s.tt, .int .i64 c.s.a, .int .i64 c.s.b, .int .i64 c.s.f.id, .int .i64 c.s.f.kind, .int .i64 c.s.f.lo, .int .i64 c.s.f.hi, .int .i64 c.s.f.most, .int .i64 c.s.v.n, .string c.s.v.s, .slice ta c.s.t.length tc, .slice la c.s.l.length lc] 32)).alloc (.cells #[.int .i64 0, .slice none 0 0] 24)) w' → Block w' w.heap.size 24 [.int .i64 v, .slice a F.length cc] ∧ Block w' (w.heap.size + 1) 32 [.int .i64 c.s.op, .int .i64 c.s.fm, .int .i64 c.s.fd, .int .i64 c.s.pl, .int .i64 c.s.tt, .int .i64 c.s.a, .int .i64 c.s.b, .int .i64 c.s.f.id, .int .i64 c.s.f.kind, .int .i64 c.s.f.lo, .int .i64 c.s.f.hi, .int .i64 c.s.f.most, .int .i64 c.s.v.n, .string c.s.v.s, .slice ta c.s.t.length tc, .slice la c.s.l.length lc] ∧ Block w' (w.heap.size + 1 + 1) 24 [.int .i64 0, .slice none 0 0] ∧ Below w.heap.size w w') := hid (fun w' hb => by
    refine ⟨(((Block.new w _ _).alloc _).alloc _).later hb, Block.later (w := ((((w.alloc (.cells #[.int .i64 v, .slice a F.length cc] 24))).alloc (.cells #[.int .i64 c.s.op, .int .i64 c.s.fm, .int .i64 c.s.fd, .int .i64 c.s.pl, .int .i64 c.s.tt, .int .i64 c.s.a, .int .i64 c.s.b, .int .i64 c.s.f.id, .int .i64 c.s.f.kind, .int .i64 c.s.f.lo, .int .i64 c.s.f.hi, .int .i64 c.s.f.most, .int .i64 c.s.v.n, .string c.s.v.s, .slice ta c.s.t.length tc, .slice la c.s.l.length lc] 32)).alloc (.cells #[.int .i64 0, .slice none 0 0] 24))) ?_ hb, Block.later (w := ((((w.alloc (.cells #[.int .i64 v, .slice a F.length cc] 24))).alloc (.cells #[.int .i64 c.s.op, .int .i64 c.s.fm, .int .i64 c.s.fd, .int .i64 c.s.pl, .int .i64 c.s.tt, .int .i64 c.s.a, .int .i64 c.s.b, .int .i64 c.s.f.id, .int .i64 c.s.f.kind, .int .i64 c.s.f.lo, .int .i64 c.s.f.hi, .int .i64 c.s.f.most, .int .i64 c.s.v.n, .string c.s.v.s, .slice ta c.s.t.length tc, .slice la c.s.l.length lc] 32)).alloc (.cells #[.int .i64 0, .slice none 0 0] 24))) ?_ hb, hbw.trans (hb.mono (by simp; omega))⟩
    · have := (Block.new ((w.alloc (.cells #[.int .i64 v, .slice a F.length cc] 24))) 32 [.int .i64 c.s.op, .int .i64 c.s.fm, .int .i64 c.s.fd, .int .i64 c.s.pl, .int .i64 c.s.tt, .int .i64 c.s.a, .int .i64 c.s.b, .int .i64 c.s.f.id, .int .i64 c.s.f.kind, .int .i64 c.s.f.lo, .int .i64 c.s.f.hi, .int .i64 c.s.f.most, .int .i64 c.s.v.n, .string c.s.v.s, .slice ta c.s.t.length tc, .slice la c.s.l.length lc]).alloc (.cells #[.int .i64 0, .slice none 0 0] 24)
      simpa using this
    · have := Block.new (((w.alloc (.cells #[.int .i64 v, .slice a F.length cc] 24))).alloc (.cells #[.int .i64 c.s.op, .int .i64 c.s.fm, .int .i64 c.s.fd, .int .i64 c.s.pl, .int .i64 c.s.tt, .int .i64 c.s.a, .int .i64 c.s.b, .int .i64 c.s.f.id, .int .i64 c.s.f.kind, .int .i64 c.s.f.lo, .int .i64 c.s.f.hi, .int .i64 c.s.f.most, .int .i64 c.s.v.n, .string c.s.v.s, .slice ta c.s.t.length tc, .slice la c.s.l.length lc] 32)) 24 [.int .i64 0, .slice none 0 0]
      simpa using this)
  have hmx : F.length ≤ maxLen := by have := hF.1; unfold maxLen; omega
  have cR := right_any v a cc F ((((w.alloc (.cells #[.int .i64 v, .slice a F.length cc] 24))).alloc (.cells #[.int .i64 c.s.op, .int .i64 c.s.fm, .int .i64 c.s.fd, .int .i64 c.s.pl, .int .i64 c.s.tt, .int .i64 c.s.a, .int .i64 c.s.b, .int .i64 c.s.f.id, .int .i64 c.s.f.kind, .int .i64 c.s.f.lo, .int .i64 c.s.f.hi, .int .i64 c.s.f.most, .int .i64 c.s.v.n, .string c.s.v.s, .slice ta c.s.t.length tc, .slice la c.s.l.length lc] 32)).alloc (.cells #[.int .i64 0, .slice none 0 0] 24)) (h.below hbw) hmx
  unfold Gives at cR
  have n1 : w.heap.size ≠ w.heap.size + 1 + 1 := by omega
  have n2 : w.heap.size + 1 ≠ w.heap.size + 1 + 1 := by omega
  have cF := fun (w' : World) (hb : Below (((((w.alloc (.cells #[.int .i64 v, .slice a F.length cc] 24))).alloc (.cells #[.int .i64 c.s.op, .int .i64 c.s.fm, .int .i64 c.s.fd, .int .i64 c.s.pl, .int .i64 c.s.tt, .int .i64 c.s.a, .int .i64 c.s.b, .int .i64 c.s.f.id, .int .i64 c.s.f.kind, .int .i64 c.s.f.lo, .int .i64 c.s.f.hi, .int .i64 c.s.f.most, .int .i64 c.s.v.n, .string c.s.v.s, .slice ta c.s.t.length tc, .slice la c.s.l.length lc] 32)).alloc (.cells #[.int .i64 0, .slice none 0 0] 24))).heap.size ((((w.alloc (.cells #[.int .i64 v, .slice a F.length cc] 24))).alloc (.cells #[.int .i64 c.s.op, .int .i64 c.s.fm, .int .i64 c.s.fd, .int .i64 c.s.pl, .int .i64 c.s.tt, .int .i64 c.s.a, .int .i64 c.s.b, .int .i64 c.s.f.id, .int .i64 c.s.f.kind, .int .i64 c.s.f.lo, .int .i64 c.s.f.hi, .int .i64 c.s.f.most, .int .i64 c.s.v.n, .string c.s.v.s, .slice ta c.s.t.length tc, .slice la c.s.l.length lc] 32)).alloc (.cells #[.int .i64 0, .slice none 0 0] 24)) w') => forward_any c.s ta tc la lc w' ((hl.below hbw).below hb)
  unfold Gives at cF
  rw [fit_iff] at hf
  unfold OnAs
  clear h hF hl hL hmx hbw hc
  by_cases hr : Right v (forms F)
  · rw [decide_eq_true hr] at cR
    rw [decide_eq_false (show ¬ ((1 ≤ c.s.op ∧ c.s.op ≤ 10) ∧ c.s.Right) from fun e => hf ⟨hr, e⟩)] at cF
    clear hf hr
    go_enter Try.func8, Try.ntmps8
    go_wp2_with (first
      | (go_at_call 18; ((with_reducible refine cR.mono ?_); rintro e w1 ⟨rfl, hb1⟩; obtain ⟨k0, k1, k2, kb⟩ := HX.out _ hb1; have z0 := k0.cell 0; have z1 := k0.cell 1; have y0 := k1.cell 0; have y1 := k1.cell 1; have y2 := k1.cell 2; have y3 := k1.cell 3; have y4 := k1.cell 4; have y5 := k1.cell 5; have y6 := k1.cell 6; have y7 := k1.cell 7; have y8 := k1.cell 8; have y9 := k1.cell 9; have y10 := k1.cell 10; have y11 := k1.cell 11; have y12 := k1.cell 12; have y13 := k1.cell 13; have y14 := k1.cell 14; have y15 := k1.cell 15; have x0 := k2.cell 0; have x1 := k2.cell 1; have f0 := k2.frozen 0; have f1 := k2.frozen 1; have K2 := hid k2; have KB := hid kb; clear k0 k1 k2 kb))
      | (go_at_call 19; ((with_reducible refine (cF _ hb1).mono ?_); rintro e w2 ⟨rfl, hb2⟩; have hb1 := hb1.trans (hb2.mono hb1.size); obtain ⟨k0, k1, k2, kb⟩ := HX.out _ hb1; have z0 := k0.cell 0; have z1 := k0.cell 1; have y0 := k1.cell 0; have y1 := k1.cell 1; have y2 := k1.cell 2; have y3 := k1.cell 3; have y4 := k1.cell 4; have y5 := k1.cell 5; have y6 := k1.cell 6; have y7 := k1.cell 7; have y8 := k1.cell 8; have y9 := k1.cell 9; have y10 := k1.cell 10; have y11 := k1.cell 11; have y12 := k1.cell 12; have y13 := k1.cell 13; have y14 := k1.cell 14; have y15 := k1.cell 15; have x0 := k2.cell 0; have x1 := k2.cell 1; have f0 := k2.frozen 0; have f1 := k2.frozen 1; have K2 := hid k2; have KB := hid kb; clear k0 k1 k2 kb)))
    have hB := (K2.out.setCell 0 (.int .i64 0)).setCell 1 (.slice none 0 0)
    refine bodyPost_ret (results_cell2 (b := w.heap.size + 1 + 1) (o := 0) rfl rfl hB.whole Try.underlying24 rfl (sc_info2 _ _)) rfl ?_
    exact ⟨none, 0, [], rfl, ⟨.inl rfl, by simp⟩, rfl, far_nil _, below_setCells (below_setCells KB.out (by omega) 0 [_]) (by omega) 1 [_]⟩
  · rw [decide_eq_false hr] at cR
    clear hf hr cF
    go_enter Try.func8, Try.ntmps8
    go_wp2_with (go_at_call 18; ((with_reducible refine cR.mono ?_); rintro e w1 ⟨rfl, hb1⟩; obtain ⟨k0, k1, k2, kb⟩ := HX.out _ hb1; have z0 := k0.cell 0; have z1 := k0.cell 1; have y0 := k1.cell 0; have y1 := k1.cell 1; have y2 := k1.cell 2; have y3 := k1.cell 3; have y4 := k1.cell 4; have y5 := k1.cell 5; have y6 := k1.cell 6; have y7 := k1.cell 7; have y8 := k1.cell 8; have y9 := k1.cell 9; have y10 := k1.cell 10; have y11 := k1.cell 11; have y12 := k1.cell 12; have y13 := k1.cell 13; have y14 := k1.cell 14; have y15 := k1.cell 15; have x0 := k2.cell 0; have x1 := k2.cell 1; have f0 := k2.frozen 0; have f1 := k2.frozen 1; have K2 := hid k2; have KB := hid kb; clear k0 k1 k2 kb))
    have hB := (K2.out.setCell 0 (.int .i64 0)).setCell 1 (.slice none 0 0)
    refine bodyPost_ret (results_cell2 (b := w.heap.size + 1 + 1) (o := 0) rfl rfl hB.whole Try.underlying24 rfl (sc_info2 _ _)) rfl ?_
    exact ⟨none, 0, [], rfl, ⟨.inl rfl, by simp⟩, rfl, far_nil _, below_setCells (below_setCells KB.out (by omega) 0 [_]) (by omega) 1 [_]⟩
end Go.Proofs.Ytiajpjkkopdmgaa.typing
