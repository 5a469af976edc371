/- ShaParts: for every list of slices of bytes, however a message is written, part by part, the digest at any time is that of all that were written. No condition. -/
import Derived.Test.YtlpbfkfamanaiaaDoorShaEq
import Derived.Test.YtlpbfkfamanaiaaDoorShaOf
import Derived.Test.YtlpbfkfamanaiaaDoorShaRefOf
namespace Go.Proofs.YtlpbfkfamanaiaaDoor.shaParts
open Go.RowKit Go.Proofs.YtlpbfkfamanaiaaDoor.word Go.Proofs.YtlpbfkfamanaiaaDoor.sha
set_option linter.unusedVariables false

/-- a list of slices of bytes that came in: part i reads as X i -/
def Parts (w : World) (a : Option Addr) (len : Nat) (X : Nat → List Nat) : Prop :=
  len = 0 ∨ ∃ b off, a = some ⟨b, off, none⟩ ∧ b < w.heap.size ∧ ∀ i, i < len → ∃ ai ni ci, w.cell? ⟨b, off + i, none⟩ = some (.slice ai ni ci) ∧ Reads .u8 w ai ni (X i) ∧ ni ≤ ci ∧ ∀ y ∈ X i, y < 256
/-- the first k parts, one behind the other -/
def joined (X : Nat → List Nat) : Nat → List Nat
  | 0 => []
  | k + 1 => joined X k ++ X k
theorem ownsRow_but {w w' : World} {base e size n g B : Nat} {v : Value} {xs : List Value} (h : w.ownsRow base e size v n xs) (hb : But B g w w') (hB : w.heap.size ≤ B) (hg : g < base) : w'.ownsRow base e size v n xs := by
  refine ⟨h.1, ?_⟩
  rcases h.2 with h0 | ⟨q, cap, cur, hv, h1, hq, h2, h3, h4, h5⟩
  · exact .inl h0
  · exact .inr ⟨q, cap, cur, hv, h1, (hb.2.2.2.2 q (Nat.lt_of_lt_of_le (Array.getElem?_eq_some_iff.1 hq).1 hB) (by omega)).trans hq, h2, h3, h4, h5⟩
theorem hash_grown {w w' : World} {b : Nat} {m : List Nat} {row : Option Nat} (h : HashIs w b m) (hg : w.grownBy w' row) (hr : some b ≠ row) : HashIs w' b m := by
  obtain ⟨B, ⟨h1, h2, h3⟩, h4, h5⟩ := h
  exact ⟨B, ⟨h1, h2, (hg.block b h3.lt hr).trans h3⟩, h4, h5⟩
theorem hash_lt {w : World} {b : Nat} {m : List Nat} (h : HashIs w b m) : b < w.heap.size := by
  obtain ⟨B, h1, _⟩ := h; exact h1.2.2.lt
theorem reads_but {k : IntKind} {w w' : World} {a : Option Addr} {len B g : Nat} {xs : List Nat} (h : Reads k w a len xs) (hb : But B g w w') (hB : w.heap.size ≤ B) (hs : Beside g a len) : Reads k w' a len xs := by
  by_cases h0 : len = 0
  · exact ⟨h.1, .inl h0⟩
  · obtain ⟨q, off, rfl, hlt, _⟩ := h.at (i := 0) (by omega)
    rcases hs with hs | ⟨q', off', he, hne⟩
    · exact absurd hs h0
    · cases he
      exact h.but hb (by omega) hne

theorem joined_lt {w : World} {a : Option Addr} {len : Nat} {X : Nat → List Nat} (hp : Parts w a len X) : ∀ q, q ≤ len → ∀ x ∈ joined X q, x < 256 := by
  intro q
  induction q with
  | zero => intro _ x hx; cases hx
  | succ q ih =>
    intro hq x hx
    rcases List.mem_append.1 hx with h | h
    · exact ih (by omega) x h
    · rcases hp with h0 | ⟨pb', po', he, _, hpi'⟩
      · omega
      · obtain ⟨_, _, _, _, _, _, hby'⟩ := hpi' q (by omega)
        exact hby' x h
set_option maxRecDepth 20000 in
set_option maxHeartbeats 3200000 in
theorem walk (a : Option Addr) (len cap : Nat) (X : Nat → List Nat) (w : World) (hp : Parts w a len X) (ht : Tab w) :
    Calls Tryd.prog 4 #[.slice a len cap] w (Yes w) := by
  have HNEW := hid (new_any w)
  have HT := hid ht
  have HP := hid hp
  have h0w := ht.1
  clear ht hp
  go_enter Tryd.func4, Tryd.ntmps4
  go_wp2_with (go_at_call 11; (with_reducible refine HNEW.out.mono ?_))
  rintro e w1 ⟨rfl, hh1, hb1⟩
  have HH1 := hid hh1
  have HB1 := hid hb1
  have HT1 := hid (HT.out.later hb1)
  clear hh1 hb1
  by_cases h20 : 20 < len
  · have h20' : (20 : Int) < len := by omega
    go_wp2_with (go_at_call 6; (with_reducible refine (awake_any _ HT1.out).mono ?_))
    rintro e w2 ⟨rfl, hb2⟩
    go_wp2
    go_ret
    exact ⟨rfl, HB1.out.trans (hb2.mono HB1.out.size)⟩
  · have h20' : ¬ (20 : Int) < len := by omega
    go_wp2
    go_loopw [3, 5] (fun v i wr => ∃ k : Nat, k ≤ len ∧ i = .int .i64 k ∧ (joined X k).length ≤ 300 * k ∧ wr.ownsRow (w.heap.size + 1) 5 1 v (joined X k).length (u8s (joined X k)) ∧ HashIs wr w.heap.size (joined X k) ∧ Below w.heap.size w wr)
      (fun _ i _ => len - (intOf i).toNat)
    case atStart => exact ⟨0, Nat.zero_le _, rfl, Nat.zero_le _, World.ownsRow_nil _ _ _ _, HH1.out, HB1.out⟩
    case round =>
      obtain ⟨k, hk, rfl, hjl, ho, hh, hb⟩ := hrel
      have hTr := HT.out.below hb h0w
      by_cases hlt : k < len
      · rcases HP.out with hp0 | ⟨pb, po, rfl, hpb, hpi⟩
        · omega
        obtain ⟨ai, ni, ci, hcell, hrd, hnc, hby⟩ := hpi k hlt
        have c1 : wr.cell? ⟨pb, po + k, none⟩ = some (.slice ai ni ci) := (hb.cell (p := ⟨pb, po + k, none⟩) hpb).trans hcell
        have j0 : (k : Int) < len := by omega
        have HO := hid ho
        have HH := hid hh
        have HB := hid hb
        have HTR := hid hTr
        clear ho hh hb hTr hpi hcell
        by_cases h300 : 300 < ni
        · have h300' : (300 : Int) < ni := by omega
          go_wp2_with (go_at_call 6; (with_reducible refine (awake_any _ HTR.out).mono ?_))
          rintro e w2 ⟨rfl, hb2⟩
          go_wp2
          go_ret
          exact ⟨rfl, HB.out.trans (hb2.mono HB.out.size)⟩
        · have h300' : ¬ (300 : Int) < ni := by omega
          have hbes : Beside w.heap.size ai ni := by
            by_cases h0 : ni = 0
            · exact .inl h0
            · obtain ⟨q, off, rfl, hq, _⟩ := hrd.at (i := 0) (by omega)
              exact .inr ⟨q, off, rfl, by omega⟩
          have hXl : (X k).length = ni := hrd.1
          have hjs : (joined X (k + 1)).length = (joined X k).length + ni := by rw [joined, List.length_append, hXl]
          have HWR := hid (write_any w.heap.size h0w (joined X k) ai ni ci (X k) wr HTR.out HH.out (hrd.below HB.out) hbes hby hnc (by omega))
          have HRD := hid (hrd.below HB.out)
          have HBY := hid hby
          clear hrd hby
          go_wp2_with (go_at_call 12; (with_reducible refine HWR.out.mono ?_))
          rintro e w2 rfl hh2 hbut
          have ho2 := ownsRow_but HO.out hbut (Nat.le_refl _) (by omega)
          have hr2 := reads_but HRD.out hbut (Nat.le_refl _) hbes
          have hpw : pb < wr.heap.size := Nat.lt_of_lt_of_le hpb HB.out.size
          have c2 : w2.cell? ⟨pb, po + k, none⟩ = some (.slice ai ni ci) := (World.cell?_of_block (w := wr) (hbut.2.2.2.2 pb hpw (by omega))).trans c1
          have hb2 : Below w.heap.size w w2 := HB.out.trans (hbut.below HB.out.size (Nat.le_refl _))
          have hs2 := hb2.size
          have hw2 := hash_lt hh2
          have HO2 := hid ho2
          have HH2 := hid hh2
          have HB2 := hid hb2
          have HNW := hid (show ni = 0 ∨ ∃ ad, ai = some ad ∧ ∀ j u, (u8s (X k))[j]? = some u → w2.cell? (ad.add j) = some u from by
            rcases hr2.2 with h | ⟨q, off, rfl, _, hc⟩
            · exact .inl h
            · refine .inr ⟨_, rfl, fun j u hj => ?_⟩
              have hl := (List.getElem?_eq_some_iff.1 hj).1
              rw [u8s_length, hXl] at hl
              rw [u8s_get (X k) j (by omega)] at hj
              cases hj
              rw [Addr.add_lit]; exact hc j hl)
          have HUL := hid (show (u8s (X k)).length = ni by rw [u8s_length, hXl])
          have HU1 := hid (u8s_one (X k))
          clear ho2 hr2 hh2 hb2 hbut c1 HWR HRD HO HH HB hXl hbes
          obtain ⟨i0, hi, hz0, hz1, hz2⟩ := info_parts Trydinfo5
          go_wp2_with (at_builtin; refine wpList_append_from rfl _ _ 22 rfl (w.heap.size + 1) 5 i0 (.int .u8 0) 1 Tryd.underlying22 hi hz0 hz1 hz2 rfl _ (joined X k).length (u8s (joined X k)) rfl HO2.out ai ni ci (u8s (X k)) rfl HUL.out HNW.out HU1.out (by unfold maxLen; omega) (by omega) (by omega) ?_)
          intro v' w3 ho3 hg3
          have hh3 : HashIs w3 w.heap.size (joined X (k + 1)) := hash_grown HH2.out hg3 (fun e => by have := (HO2.out.lt _ e.symm).1; omega)
          have hb3 : Below w.heap.size w w3 := HB2.out.grown hg3 hs2 (fun q hq => by have := (HO2.out.lt q hq).1; omega)
          have ho3' : w3.ownsRow (w.heap.size + 1) 5 1 v' (joined X (k + 1)).length (u8s (joined X (k + 1))) := by
            rw [hjs, joined, u8s_append]; exact ho3
          obtain ⟨av, cv, rfl, hcv⟩ := ownsRow_slice ho3'
          have hml : (joined X (k + 1)).length ≤ 300 * (k + 1) := by omega
          have hjx := joined_lt HP.out (k + 1) (by omega)
          obtain ⟨m, hm⟩ : ∃ x, Hid (joined X (k + 1) = x) := ⟨_, rfl⟩
          rw [hm.out] at hh3 ho3' hml hjx hcv
          have hT3 := HT.out.below hb3 h0w
          have hdl : (digest m).length = 8 := chain_length _ _
          have hEQ := same_eq (digest m) hdl
          have hgd : Tryd.prog.eqGuardType Tryd.prog.depth 25 = false := by kernel_rfl
          have HSM := hid (sum_any w.heap.size m w3 hT3 hh3 (by omega))
          have hRd : Reads .u8 w3 av m.length m := Reads.own ho3'
          have HRD := hid hRd
          have HB3 := hid hb3
          have HO3 := hid ho3'
          have HH3 := hid hh3
          have HJX := hid hjx
          rw [hm.out]
          clear ho3 hg3 hh3 hb3 ho3' hT3 hRd hjx c2 HO2 HH2 HB2 HNW HUL HU1 hdl
          obtain ⟨D, hD⟩ : ∃ x, Hid (u32s (digest m) = x) := ⟨_, rfl⟩
          rw [hD.out] at hEQ HSM
          go_wp2_with (go_at_call 13; (with_reducible refine HSM.out.mono ?_))
          rintro e w4 ⟨rfl, hb4⟩
          have HOF := hid (refOf_any av m.length cv m w4 (HRD.out.below hb4) HJX.out hcv (by omega))
          rw [hD.out] at HOF
          have hB4 := HB3.out.trans (hb4.mono HB3.out.size)
          have hO4 := ownsRow_later HO3.out hb4
          have hH4 := HH3.out.later hb4
          have HB4 := hid hB4
          have HO4 := hid hO4
          have HH4 := hid hH4
          clear hb4 hB4 hO4 hH4 HSM
          go_wp2_with (go_at_call 7; (with_reducible refine HOF.out.mono ?_))
          rintro e w5 ⟨rfl, hb5⟩
          have hB5 := HB4.out.trans (hb5.mono HB4.out.size)
          have hO5 := ownsRow_later HO4.out hb5
          have hH5 := HH4.out.later hb5
          have HCT := hid (count_any w.heap.size m w5 hH5)
          have HB5 := hid hB5
          have HO5 := hid hO5
          have HH5 := hid hH5
          clear hb5 hB5 hO5 hH5 HOF
          go_wp2_with (go_at_call 14; (with_reducible refine HCT.out.mono ?_); rintro e w6 ⟨rfl, mq, rfl⟩)
          exact ⟨⟨k + 1, by omega, by go_num, by rw [hm.out]; exact hml, by rw [hm.out]; exact HO5.out.drewN mq, by rw [hm.out]; exact HH5.out, below_drewN HB5.out mq⟩, by simp [intOf]; omega⟩
      · obtain rfl : k = len := by omega
        have hjx := joined_lt HP.out k (Nat.le_refl _)
        obtain ⟨av, cv, rfl, hcv⟩ := ownsRow_slice ho
        obtain ⟨m, hm⟩ : ∃ x, Hid (joined X k = x) := ⟨_, rfl⟩
        rw [hm.out] at hh ho hjl hjx hcv
        have hdl : (digest m).length = 8 := chain_length _ _
        have hEQ := same_eq (digest m) hdl
        have hgd : Tryd.prog.eqGuardType Tryd.prog.depth 25 = false := by kernel_rfl
        have HSM := hid (sum_any w.heap.size m wr hTr hh (by omega))
        have hRd : Reads .u8 wr av m.length m := Reads.own ho
        have HRD := hid hRd
        have HTR := hid hTr
        have HB := hid hb
        have HJX := hid hjx
        rw [hm.out]
        clear ho hh hTr hRd hjx hdl hb
        obtain ⟨D, hD⟩ : ∃ x, Hid (u32s (digest m) = x) := ⟨_, rfl⟩
        rw [hD.out] at hEQ HSM
        go_wp2_with (go_at_call 13; (with_reducible refine HSM.out.mono ?_))
        rintro e w4 ⟨rfl, hb4⟩
        have HOF := hid (of_any av m.length cv m w4 (HTR.out.later hb4) (HRD.out.below hb4) HJX.out hcv (by omega))
        rw [hD.out] at HOF
        have HB4 := hid (HB.out.trans (hb4.mono HB.out.size))
        have HT4 := hid (HTR.out.later hb4)
        clear hb4 HSM
        go_wp2_with (go_at_call 8; (with_reducible refine HOF.out.mono ?_))
        rintro e w5 ⟨rfl, hb5⟩
        have HB5 := hid (HB4.out.trans (hb5.mono HB4.out.size))
        have HT5 := hid (HT4.out.later hb5)
        clear hb5 HOF
        go_wp2_with (go_at_call 6; (with_reducible refine (awake_any _ HT5.out).mono ?_))
        rintro e w6 ⟨rfl, hb6⟩
        go_wp2
        go_ret
        exact ⟨rfl, HB5.out.trans (hb6.mono HB5.out.size)⟩
end Go.Proofs.YtlpbfkfamanaiaaDoor.shaParts
