/- Contract of the reference's Lines. No condition beyond the text's length. -/
import Derived.Test.YtdlebjogbhgheaaDoorTextsRefWord
import Derived.Test.YtdlebjogbhgheaaDoorTextsJoins
import Derived.Test.YtdlebjogbhgheaaDoorTextsLines
namespace Go.Proofs.YtdlebjogbhgheaaDoor.texts
open Go.RowKit Go.Lib
set_option linter.unusedVariables false

/-- where the loop over a text's bytes stands: D: the lines so far; a: where the line at hand began; i: the byte at hand -/
def LinesAt (s : List UInt8) (D : List (List UInt8)) (a i : Nat) : Prop :=
  i ≤ s.length ∧ a ≤ i ∧ linesAux [] s = D ++ linesAux ((s.drop a).take (i - a)) (s.drop i) ∧ ∀ b ∈ (s.drop a).take (i - a), b ≠ 10
theorem linesAt_on {s : List UInt8} {D : List (List UInt8)} {a i : Nat} (h : LinesAt s D a i) (hi : i < s.length) (hb : s.getD i 0 ≠ 10) : LinesAt s D a (i + 1) := by
  obtain ⟨h1, h2, h3, h4⟩ := h
  refine ⟨by omega, by omega, ?_, ?_⟩
  · rw [h3, drop_at s i hi, linesAux, if_neg hb, cut_next s a i h2 hi]
  · rw [cut_next s a i h2 hi]
    intro b hb'
    rcases List.mem_append.1 hb' with h | h
    · exact h4 b h
    · rw [List.mem_singleton] at h; rw [h]; exact hb
theorem linesAt_cut {s : List UInt8} {D : List (List UInt8)} {a i : Nat} (h : LinesAt s D a i) (hi : i < s.length) (hb : s.getD i 0 = 10) : LinesAt s (D ++ [(s.drop a).take (i - a) ++ [10]]) (i + 1) (i + 1) := by
  obtain ⟨h1, h2, h3, h4⟩ := h
  refine ⟨by omega, by omega, ?_, ?_⟩
  · rw [h3, drop_at s i hi, linesAux, if_pos hb, Nat.sub_self, List.take_zero, hb]; simp
  · rw [Nat.sub_self, List.take_zero]; intro b hb; cases hb
theorem line_ten (x : List UInt8) : wordsOf (x ++ [10]) = segs 32 [] x ∧ goodLine (x ++ [10]) = !(segs 32 [] x).any noWord := by
  have e : wordsOf (x ++ [10]) = segs 32 [] x := by unfold wordsOf; rw [(trim_ten x).2]
  refine ⟨e, ?_⟩
  unfold goodLine
  rw [e, (trim_ten x).1, Bool.true_and]
theorem line_open {x : List UInt8} (h : ∀ b ∈ x, b ≠ 10) : goodLine x = false := by
  unfold goodLine
  cases e : hasSuffix x [10] with
  | false => rfl
  | true =>
    obtain ⟨t, ht⟩ : [10] <:+ x := List.isSuffixOf_iff_suffix.1 e
    exact absurd rfl (h 10 (by rw [← ht]; simp))
/-- what the rows so far lie in -/
def RefRows (B : Nat) (w : World) (v : Value) (wss : List (List (List UInt8))) : Prop :=
  ∃ vs, w.ownsRow B 51 1 v wss.length vs ∧ ∀ j, j < wss.length → ∃ u, vs[j]? = some u ∧ w.ownsRow B 9 1 u (wss.getD j []).length (cellsOfStrs (wss.getD j []))
/-- how the reference's Lines ends -/
def RefLinesEnd (B : Nat) (s : List UInt8) (e : Ending) (w' : World) : Prop :=
  ((∀ x ∈ linesAux [] s, goodLine x = true) ∧ ∃ v, e = .returned (.tuple #[v, .int .i64 0, .int .i64 0]) ∧ RefRows B w' v ((linesAux [] s).map wordsOf)) ∨
  (∃ D x E, linesAux [] s = D ++ x :: E ∧ (∀ y ∈ D, goodLine y = true) ∧ goodLine x = false ∧ e = .returned (.tuple #[.slice none 0 0, .int .i64 ((D.length : Int) + 1), .int .i64 4]))
theorem lines_bound (s : List UInt8) {D : List (List UInt8)} {a i : Nat} (h : LinesAt s D a i) : D.length ≤ s.length := by
  have h1 := lines_count s []
  rw [h.2.2.1] at h1
  simp at h1
  omega
theorem ownsRow_kept2 {w w' : World} {base base2 : Nat} {v u : Value} {n m : Nat} {vs us : List Value} (h : w.ownsRow base 9 1 v n vs) (ho : w.ownsRow base2 51 1 u m us) (hg : w.grownBy w' u.ownBlock) : w'.ownsRow base 9 1 v n vs := by
  refine ⟨h.1, ?_⟩
  rcases h.2 with h0 | ⟨g, cap, cur, hv, hb, hg1, h2, h3, h4⟩
  · exact .inl h0
  · exact .inr ⟨g, cap, cur, hv, hb, (hg.block g (Array.getElem?_eq_some_iff.1 hg1).1 (own_not ho hg1 (by decide))).trans hg1, h2, h3, h4⟩

theorem ownsRow_base {w : World} {base base' : Nat} {e : TypeId} {size n : Nat} {v : Value} {xs : List Value} (h : w.ownsRow base e size v n xs) (hb : base' ≤ base) : w.ownsRow base' e size v n xs := by
  refine ⟨h.1, ?_⟩
  rcases h.2 with h0 | ⟨g, cap, cur, hv, hb1, h5⟩
  · exact .inl h0
  · exact .inr ⟨g, cap, cur, hv, by omega, h5⟩
theorem ownsRow_later {w w' : World} {base : Nat} {e : TypeId} {size n : Nat} {v : Value} {xs : List Value} (h : w.ownsRow base e size v n xs) (hb : Below w.heap.size w w') : w'.ownsRow base e size v n xs := by
  refine ⟨h.1, ?_⟩
  rcases h.2 with h0 | ⟨g, cap, cur, hv, h1, hg, h5⟩
  · exact .inl h0
  · exact .inr ⟨g, cap, cur, hv, h1, (hb.block g (Array.getElem?_eq_some_iff.1 hg).1).trans hg, h5⟩

set_option maxRecDepth 20000 in
set_option maxHeartbeats 1000000 in
theorem refLines_any (s : List UInt8) (hlen : s.length ≤ 4294967280) (w : World) :
    Calls Tryd.prog 17 #[.string (strL s)] w fun e w' => RefLinesEnd w.heap.size s e w' ∧ Below w.heap.size w w' := by
  have est := strL_toList
  have esz := strL_size
  obtain ⟨i0, hi, hz0, hz1, hz2⟩ := info_parts info_strs
  go_enter Tryd.func17, Tryd.ntmps17
  go_wp2
  go_loopw [5, 6, 7] (fun v va vi wr => ∃ (a i : Nat) (D : List (List UInt8)), i ≤ s.length ∧ a ≤ i ∧ va = .int .i64 a ∧ vi = .int .i64 i ∧ Hid (LinesAt s D a i) ∧ Hid (∀ y ∈ D, goodLine y = true) ∧ RefRows w.heap.size wr v (D.map wordsOf) ∧ Below w.heap.size w wr)
    (fun _ _ vi _ => s.length - (intOf vi).toNat)
  case atStart => exact ⟨0, 0, [], Nat.zero_le _, Nat.le_refl _, rfl, rfl, ⟨Nat.zero_le _, Nat.le_refl _, by simp, by simp⟩, (fun y h => by cases h), ⟨[], World.ownsRow_nil _ _ _ _, fun j h => by simp at h⟩, Below.refl _ _⟩
  case round =>
    obtain ⟨a, i, D, hit, hai, rfl, rfl, hat, hgood, ⟨vs, hown, hrows⟩, hbl⟩ := hrel
    have hDb := lines_bound s hat.out
    have hml : (D.map wordsOf).length = D.length := List.length_map _
    rw [hml] at hown hrows
    obtain ⟨sa, sc, rfl, hsc⟩ := ownsRow_slice hown
    have hws := hbl.size
    have HBL := hid hbl
    have HO := hid hown
    have HROWS := hid hrows
    clear hown hbl hrows
    by_cases hlt : i < s.length
    · have i1 : (i : Int) < s.length := by omega
      have ei := index_at s i hlt
      by_cases hsp : s.getD i 0 = 10
      · have hq2 : (((s.getD i 0).toNat : Int) != 10) = false := by rw [hsp]; rfl
        have es := slice_mid s a i hai (by omega)
        have HL := hid (linesAt_cut hat.out hlt hsp)
        clear hsp
        have hxl : ((s.drop a).take (i - a)).length ≤ 4294967281 := by simp; omega
        have hLT := line_ten ((s.drop a).take (i - a))
        obtain ⟨y, hy⟩ : ∃ y, Hid ((s.getD i 0).toNat = y) := ⟨_, rfl⟩
        rw [hy.out] at ei hq2
        obtain ⟨x, hx⟩ : ∃ x, Hid ((s.drop a).take (i - a) = x) := ⟨_, rfl⟩
        rw [hx.out] at es HL hxl hLT
        have cw := refWords_any x hxl wr
        have HLT := hid hLT
        obtain ⟨X, hX⟩ : ∃ X, Hid (strL x = X) := ⟨_, rfl⟩
        rw [hX.out] at es cw
        clear hat hxl hLT
        go_wp2_with (go_at_call 31; with_reducible refine cw.mono ?_; clear cw)
        rintro e w2 ⟨⟨hbad, rfl⟩ | ⟨hok, u, rfl, hu⟩, hb2⟩
        · have HBAD := hid hbad
          clear hbad
          go_wp2
          go_ret3
          refine ⟨.inr ⟨D, x ++ [10], linesAux ((s.drop (i + 1)).take (i + 1 - (i + 1))) (s.drop (i + 1)), ?_, hgood.out, ?_, rfl⟩, HBL.out.trans (hb2.mono hws)⟩
          · exact HL.out.2.2.1.trans (by rw [List.append_assoc]; rfl)
          · rw [HLT.out.2, HBAD.out]; rfl
        · obtain ⟨ua, uc, rfl, huc⟩ := ownsRow_slice hu
          have hu1 : (Value.slice ua (segs 32 [] x).length uc).oneCell' = true := by simp [Value.oneCell']
          have HOK := hid hok
          have HU := hid hu
          have HB2 := hid hb2
          have HO2 := hid (ownsRow_later HO.out hb2)
          have hw2 := hb2.size
          clear hok hu hb2
          obtain ⟨nw, hnw⟩ : ∃ nw, Hid ((segs 32 [] x).length = nw) := ⟨_, rfl⟩
          rw [hnw.out] at HU hu1 huc ⊢
          go_wp2_with (at_builtin; refine wpList_append_own _ rfl _ _ 36 rfl w.heap.size 51 i0 (.slice none 0 0) 1 24 Tryd.underlying36 hi hz0 hz1 hz2 rfl (by decide) _ _ _ rfl (HO2.out.alloc _) ⟨w2.heap.size, 0, none⟩ 1 1 [_] rfl rfl (one_new _ _ _) (one_cell hu1) (by unfold maxLen; omega) (by omega) (by simp; omega) ?_)
          intro v' w3 ho3 hg3 _
          obtain ⟨a', c', rfl, hc'⟩ := ownsRow_slice ho3
          have HO3 := hid ho3
          have HG3 := hid hg3
          clear ho3 hg3
          go_wp2
          have hb4 : Below w.heap.size w w3 := ((HBL.out.trans (HB2.out.mono hws)).alloc (Nat.le_trans hws hw2) _).grown HG3.out (by simp; omega) (fun q hq => by cases sa with | none => cases hq | some g => exact (HO2.out.lt q hq).1)
          have hvl : vs.length = D.length := by simpa using HO.out.1
          refine ⟨⟨i + 1, i + 1, D ++ [x ++ [10]], by omega, Nat.le_refl _, by go_num, by go_num, HL, ?_, ⟨vs ++ [.slice ua nw uc], ?_, ?_⟩, hb4⟩, by simp [intOf]; omega⟩
          · show ∀ y ∈ _, _
            intro y hy
            rcases List.mem_append.1 hy with h | h
            · exact hgood.out y h
            · rw [List.mem_singleton] at h; rw [h, HLT.out.2, HOK.out]; rfl
          · rw [List.length_map, List.length_append]; exact HO3.out
          · intro j hj
            rw [List.length_map, List.length_append] at hj
            have hj' : j < D.length + 1 := hj
            by_cases e : j < D.length
            · obtain ⟨u, e1, e2⟩ := HROWS.out j e
              refine ⟨u, by rw [List.getElem?_append_left (by omega)]; exact e1, ?_⟩
              have : (List.map wordsOf (D ++ [x ++ [10]])).getD j [] = (D.map wordsOf).getD j [] := by
                rw [List.map_append, List.getD_eq_getElem?_getD, List.getD_eq_getElem?_getD, List.getElem?_append_left (by simpa using e)]
              rw [this]
              exact ownsRow_kept2 ((ownsRow_later e2 HB2.out).alloc _) (HO2.out.alloc _) HG3.out
            · obtain rfl : j = D.length := by omega
              refine ⟨_, by rw [List.getElem?_append_right (by omega), hvl, Nat.sub_self]; rfl, ?_⟩
              have : (List.map wordsOf (D ++ [x ++ [10]])).getD D.length [] = segs 32 [] x := by
                rw [List.map_append, List.getD_eq_getElem?_getD, List.getElem?_append_right (by simp), List.length_map, Nat.sub_self]
                exact HLT.out.1
              rw [this, hnw.out]
              have h5 : w2.ownsRow w.heap.size 9 1 (.slice ua nw uc) nw (cellsOfStrs (segs 32 [] x)) := ownsRow_base HU.out hws
              exact ownsRow_kept2 (h5.alloc _) (HO2.out.alloc _) HG3.out
      · have hq2 : (((s.getD i 0).toNat : Int) != 10) = true := by
          rw [bne_iff_ne]
          intro e
          exact hsp (UInt8.toNat_inj.1 (by show (s.getD i 0).toNat = 10; omega))
        have HL := hid (linesAt_on hat.out hlt hsp)
        clear hsp
        obtain ⟨y, hy⟩ : ∃ y, Hid ((s.getD i 0).toNat = y) := ⟨_, rfl⟩
        rw [hy.out] at ei hq2
        clear hat
        go_wp2
        exact ⟨⟨a, i + 1, D, by omega, by omega, rfl, by go_num, HL, hgood, ⟨vs, by rw [List.length_map]; exact HO.out, by rw [List.length_map]; exact HROWS.out⟩, HBL.out⟩, by simp [intOf]; omega⟩
    · obtain rfl : i = s.length := by omega
      have hE := hat.out.2.2.1
      have hT := hat.out.2.2.2
      rw [List.drop_length] at hE
      have hxl : ((s.drop a).take (s.length - a)).length = s.length - a := by simp
      obtain ⟨x, hx⟩ : ∃ x, Hid ((s.drop a).take (s.length - a) = x) := ⟨_, rfl⟩
      rw [hx.out] at hE hT hxl
      rw [show linesAux x [] = if x = [] then [] else [x] from by rw [linesAux]] at hE
      by_cases ha : a < s.length
      · have i2 : (a : Int) < s.length := by omega
        rw [if_neg (fun e => by rw [e] at hxl; simp at hxl; omega)] at hE
        have HE := hid hE
        have HT := hid (line_open hT)
        clear hE hT hat
        go_wp2
        go_ret3
        exact ⟨.inr ⟨D, x, [], HE.out, hgood.out, HT.out, rfl⟩, HBL.out⟩
      · have i2 : ¬ (a : Int) < s.length := by omega
        rw [if_pos (List.eq_nil_of_length_eq_zero (by omega)), List.append_nil] at hE
        have HE := hid hE
        clear hE hT hat
        go_wp2
        go_ret3
        refine ⟨.inl ⟨by rw [HE.out]; exact hgood.out, _, rfl, ?_⟩, HBL.out⟩
        rw [HE.out]
        exact ⟨vs, by rw [List.length_map]; exact HO.out, by rw [List.length_map]; exact HROWS.out⟩
end Go.Proofs.YtdlebjogbhgheaaDoor.texts
