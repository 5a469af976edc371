/- Contracts of the reference's Word and words. No condition beyond a string's length. -/
import Derived.Test.YtdlebjogbhgheaaDoorTextsSplit
import Derived.Test.YtdlebjogbhgheaaDoorTextsUnhex
import Derived.Maps.AppendAt
namespace Go.Proofs.YtdlebjogbhgheaaDoor.texts
open Go.RowKit Go.Lib
set_option linter.unusedVariables false

theorem any_take_next (l : List UInt8) (p : UInt8 → Bool) (k : Nat) (h : k < l.length) (h1 : (l.take k).any p = false) (h2 : p (l.getD k 0) = false) : (l.take (k + 1)).any p = false := by
  rw [take_next l k h, List.any_append, h1, List.any_cons, h2]; rfl
theorem any_of_at (l : List UInt8) (p : UInt8 → Bool) (k : Nat) (h : k < l.length) (h2 : p (l.getD k 0) = true) : l.any p = true := by
  rw [List.any_eq_true]
  refine ⟨l[k], List.getElem_mem h, ?_⟩
  rw [List.getD_eq_getElem?_getD, List.getElem?_eq_getElem h] at h2
  exact h2

theorem word_any (l : List UInt8) (hl : l.length ≤ 140737488351232) (w : World) :
    Calls Tryd.prog 36 #[.string (strL l)] w fun e w' => e = .returned (.bool (!noWord l)) ∧ w' = w := by
  have est := strL_toList
  have esz := strL_size
  have HOUT : Hid (∀ k, k < l.length → oddByte (l.getD k 0) = true → noWord l = true) := fun k hk ho => by
    unfold noWord; rw [any_of_at l oddByte k hk ho, Bool.or_true]
  have HEND : Hid (l.any oddByte = false → (!noWord l) = decide (0 < l.length)) := fun h => by
    unfold noWord; rw [h]; cases l <;> simp
  obtain ⟨V, hV⟩ : ∃ V, Hid (noWord l = V) := ⟨_, rfl⟩
  rw [hV.out] at HOUT HEND ⊢
  go_enter Tryd.func36, Tryd.ntmps36
  go_wp2
  go_loop [3] (fun i => ∃ k : Nat, i = .int .i64 k ∧ k ≤ l.length ∧ Hid ((l.take k).any oddByte = false)) (fun i => l.length - (intOf i).toNat)
  case atStart => exact ⟨0, rfl, by omega, by show _ = _; simp⟩
  case round =>
    obtain ⟨k, rfl, hk, hp⟩ := hrel
    by_cases hlt : k < l.length
    · have i1 : (k : Int) < l.length := by omega
      have ei := index_at l k hlt
      have HO := hid (HOUT.out k hlt)
      have HN := hid (any_take_next l oddByte k hlt hp.out)
      have hod : oddByte (l.getD k 0) = (decide ((l.getD k 0).toNat < 33) || decide (126 < (l.getD k 0).toNat)) := rfl
      rw [hod] at HO HN
      clear hod
      obtain ⟨x, hx⟩ : ∃ x, Hid ((l.getD k 0).toNat = x) := ⟨_, rfl⟩
      rw [hx.out] at ei HO HN
      by_cases h1 : x < 33
      · have j1 : (x : Int) < 33 := by omega
        have hv := HO.out (by simp [h1])
        subst hv
        clear h1
        go_wp2
        go_ret
        exact ⟨rfl, rfl⟩
      · have j1 : ¬ (x : Int) < 33 := by omega
        by_cases h2 : 126 < x
        · have j2 : (126 : Int) < x := by omega
          have hv := HO.out (by simp [h2])
          subst hv
          clear h1 h2
          go_wp2
          go_ret
          exact ⟨rfl, rfl⟩
        · have j2 : ¬ (126 : Int) < x := by omega
          have HN2 := hid (HN.out (by simp [h1, h2]))
          clear h1 h2
          go_wp2
          exact ⟨⟨k + 1, by go_num, by omega, HN2⟩, by simp [intOf]; omega⟩
    · obtain rfl : k = l.length := by omega
      have h := hp.out
      rw [List.take_length] at h
      have hv := HEND.out h
      have HV := hid hv
      clear hv h
      go_wp2
      go_ret
      rw [HV.out]
      exact ⟨ret_bool (by simp), rfl⟩

theorem cut_next (t : List UInt8) (a i : Nat) (ha : a ≤ i) (hi : i < t.length) : (t.drop a).take (i + 1 - a) = (t.drop a).take (i - a) ++ [t.getD i 0] := by
  rw [show i + 1 - a = (i - a) + 1 from by omega, take_next _ _ (by simp; omega)]
  congr 2
  rw [List.getD_eq_getElem?_getD, List.getD_eq_getElem?_getD, List.getElem?_drop, show a + (i - a) = i from by omega]
theorem drop_at (t : List UInt8) (i : Nat) (hi : i < t.length) : t.drop i = t.getD i 0 :: t.drop (i + 1) := by
  rw [List.drop_eq_getElem_cons hi, List.getD_eq_getElem?_getD, List.getElem?_eq_getElem hi]; rfl
/-- where the loop over the bytes of a line stands: a: where the word at hand began; i: the byte at hand; ws: the words so far -/
def WordsAt (t : List UInt8) (ws : List (List UInt8)) (a i : Nat) : Prop :=
  (i ≤ t.length ∧ a ≤ i ∧ segs 32 [] t = ws ++ segs 32 ((t.drop a).take (i - a)) (t.drop i)) ∨ (i = t.length + 1 ∧ segs 32 [] t = ws)
theorem wordsAt_on {t : List UInt8} {ws : List (List UInt8)} {a i : Nat} (h : WordsAt t ws a i) (hi : i < t.length) (hb : t.getD i 0 ≠ 32) : WordsAt t ws a (i + 1) := by
  rcases h with ⟨h1, h2, h3⟩ | ⟨h1, _⟩
  · refine .inl ⟨by omega, by omega, ?_⟩
    rw [h3, drop_at t i hi, segs, if_neg hb, cut_next t a i h2 hi]
  · omega
theorem wordsAt_cut {t : List UInt8} {ws : List (List UInt8)} {a i : Nat} (h : WordsAt t ws a i) (hi : i < t.length) (hb : t.getD i 0 = 32) : WordsAt t (ws ++ [(t.drop a).take (i - a)]) (i + 1) (i + 1) := by
  rcases h with ⟨h1, h2, h3⟩ | ⟨h1, _⟩
  · refine .inl ⟨by omega, by omega, ?_⟩
    rw [h3, drop_at t i hi, segs, if_pos hb, Nat.sub_self, List.take_zero]; simp
  · omega
theorem wordsAt_last {t : List UInt8} {ws : List (List UInt8)} {a i : Nat} (h : WordsAt t ws a i) (hi : i = t.length) : WordsAt t (ws ++ [(t.drop a).take (i - a)]) (i + 1) (i + 1) := by
  rcases h with ⟨h1, h2, h3⟩ | ⟨h1, _⟩
  · refine .inr ⟨by omega, ?_⟩
    rw [h3, hi, List.drop_length]; rfl
  · omega
theorem wordsAt_mem {t : List UInt8} {ws : List (List UInt8)} {a i : Nat} (h : WordsAt t (ws ++ [(t.drop a).take (i - a)]) (i + 1) (i + 1)) : (t.drop a).take (i - a) ∈ segs 32 [] t := by
  rcases h with ⟨_, _, h3⟩ | ⟨_, h3⟩ <;> rw [h3] <;> simp
theorem any_of_mem {ws : List (List UInt8)} {x : List UInt8} {p : List UInt8 → Bool} (h : x ∈ ws) (hp : p x = true) : ws.any p = true := List.any_eq_true.2 ⟨x, h, hp⟩
theorem cells_snoc (ws : List (List UInt8)) (x : List UInt8) : cellsOfStrs (ws ++ [x]) = cellsOfStrs ws ++ [.string (strL x)] := by simp [cellsOfStrs]
theorem info_str : (Tryd.prog.info? 9).map (fun i => (i.zero, i.size, i.bytes)) = some (some (.string ⟨#[]⟩), 1, 16) := by kernel_rfl

/-- how words ends -/
def WordsEnd (B : Nat) (t : List UInt8) (e : Ending) (w' : World) : Prop :=
  ((segs 32 [] t).any noWord = true ∧ e = .returned (.tuple #[.slice none 0 0, .bool false])) ∨
  ((segs 32 [] t).any noWord = false ∧ ∃ v, e = .returned (.tuple #[v, .bool true]) ∧ w'.ownsRow B 9 1 v (segs 32 [] t).length (cellsOfStrs (segs 32 [] t)))

set_option maxRecDepth 20000 in
set_option maxHeartbeats 1000000 in
theorem refWords_any (t : List UInt8) (hl : t.length ≤ 4294967281) (w : World) :
    Calls Tryd.prog 31 #[.string (strL t)] w fun e w' => WordsEnd w.heap.size t e w' ∧ Below w.heap.size w w' := by
  have est := strL_toList
  have esz := strL_size
  obtain ⟨i0, hi, hz0, hz1, hz2⟩ := info_parts info_str
  go_enter Tryd.func31, Tryd.ntmps31
  go_wp2
  go_loopw [4, 5, 6] (fun v va vi wr => ∃ (a i : Nat) (ws : List (List UInt8)), i ≤ t.length + 1 ∧ a ≤ i ∧ ws.length ≤ i ∧ va = .int .i64 a ∧ vi = .int .i64 i ∧ Hid (WordsAt t ws a i) ∧ Hid (ws.any noWord = false) ∧ wr.ownsRow w.heap.size 9 1 v ws.length (cellsOfStrs ws) ∧ Below w.heap.size w wr)
    (fun _ _ vi _ => t.length + 1 - (intOf vi).toNat)
  case atStart => exact ⟨0, 0, [], Nat.zero_le _, Nat.le_refl _, Nat.zero_le _, rfl, rfl, .inl ⟨Nat.zero_le _, Nat.le_refl _, by simp⟩, rfl, World.ownsRow_nil _ _ _ _, Below.refl _ _⟩
  case round =>
    obtain ⟨a, i, ws, hit, hai, hwi, rfl, rfl, hat, hgood, hown, hbl⟩ := hrel
    obtain ⟨sa, sc, rfl, hsc⟩ := ownsRow_slice hown
    have hws := hbl.size
    have HBL := hid hbl
    have HO := hid hown
    clear hown hbl
    by_cases hlt : i ≤ t.length
    · have i1 : (i : Int) ≤ t.length := by omega
      have es := slice_mid t a i hai hlt
      have cw := word_any ((t.drop a).take (i - a)) (by simp; omega)
      have HWD : Hid (strL ((t.drop a).take (i - a)) = strL ((t.drop a).take (i - a))) := rfl
      have HBAD : Hid ((t.drop a).take (i - a) ∈ segs 32 [] t → noWord ((t.drop a).take (i - a)) = true → (segs 32 [] t).any noWord = true) := any_of_mem
      have HG2 : Hid (noWord ((t.drop a).take (i - a)) = false → (ws ++ [(t.drop a).take (i - a)]).any noWord = false) := fun h => by
        rw [List.any_append, hgood.out]; simp [h]
      by_cases hend : i = t.length
      · have hq : ((i : Int) == (t.length : Int)) = true := by rw [beq_iff_eq]; omega
        have HL := hid (wordsAt_last hat.out hend)
        have HM := hid (wordsAt_mem HL.out)
        obtain ⟨x, hx⟩ : ∃ x, Hid ((t.drop a).take (i - a) = x) := ⟨_, rfl⟩
        rw [hx.out] at es cw HBAD HG2 HL HM
        obtain ⟨b, hb⟩ : ∃ b, Hid (noWord x = b) := ⟨_, rfl⟩
        rw [hb.out] at cw HBAD HG2
        obtain ⟨X, hX⟩ : ∃ X, Hid (strL x = X) := ⟨_, rfl⟩
        rw [hX.out] at es cw
        clear hat hend
        cases b
        · simp only [Bool.not_false] at cw
          go_wp2_with (first
            | (go_at_call 36; with_reducible refine (cw _).mono ?_; clear cw; rintro e w2 ⟨rfl, hw⟩; rw [hw]; clear hw w2)
            | (at_builtin; refine wpList_append_own _ rfl _ _ 51 rfl w.heap.size 9 i0 (.string ⟨#[]⟩) 1 16 Tryd.underlying51 hi hz0 hz1 hz2 rfl (by decide) _ _ _ rfl (HO.out.alloc _) ⟨wr.heap.size, 0, none⟩ 1 1 [_] rfl rfl (one_new _ _ _) (one_cell (by rfl)) (by unfold maxLen; omega) (by omega) (by simp; omega) ?_))
          intro v' w1 ho1 hg1 _
          obtain ⟨a', c', rfl, hc'⟩ := ownsRow_slice ho1
          have HO1 := hid ho1
          have HG1 := hid hg1
          clear ho1 hg1
          go_wp2
          refine ⟨⟨i + 1, i + 1, ws ++ [x], by omega, Nat.le_refl _, by simp; omega, by go_num, by go_num, HL, hid (HG2.out trivial), ?_, ?_⟩, by simp [intOf]; omega⟩
          · rw [cells_snoc, hX.out, List.length_append]; exact HO1.out
          · exact (HBL.out.alloc hws _).grown HG1.out (by simp; omega) (fun q hq => by cases sa with | none => cases hq | some g => exact (HO.out.lt q hq).1)
        · simp only [Bool.not_true] at cw
          go_wp2_with (go_at_call 36; with_reducible refine (cw _).mono ?_; clear cw; rintro e w2 ⟨rfl, hw⟩; rw [hw]; clear hw w2)
          go_ret2
          exact ⟨.inl ⟨HBAD.out HM.out trivial, rfl⟩, HBL.out⟩
      · have hq : ((i : Int) == (t.length : Int)) = false := by rw [beq_eq_false_iff_ne]; omega
        have hlt2 : i < t.length := by omega
        have i2 : (i : Int) < t.length := by omega
        have ei := index_at t i hlt2
        by_cases hsp : t.getD i 0 = 32
        · have hq2 : (((t.getD i 0).toNat : Int) == 32) = true := by rw [hsp]; rfl
          have HL := hid (wordsAt_cut hat.out hlt2 hsp)
          have HM := hid (wordsAt_mem HL.out)
          clear hsp
          obtain ⟨y, hy⟩ : ∃ y, Hid ((t.getD i 0).toNat = y) := ⟨_, rfl⟩
          rw [hy.out] at ei hq2
          obtain ⟨x, hx⟩ : ∃ x, Hid ((t.drop a).take (i - a) = x) := ⟨_, rfl⟩
          rw [hx.out] at es cw HBAD HG2 HL HM
          obtain ⟨b, hb⟩ : ∃ b, Hid (noWord x = b) := ⟨_, rfl⟩
          rw [hb.out] at cw HBAD HG2
          obtain ⟨X, hX⟩ : ∃ X, Hid (strL x = X) := ⟨_, rfl⟩
          rw [hX.out] at es cw
          clear hat hend
          cases b
          · simp only [Bool.not_false] at cw
            go_wp2_with (first
              | (go_at_call 36; with_reducible refine (cw _).mono ?_; clear cw; rintro e w2 ⟨rfl, hw⟩; rw [hw]; clear hw w2)
              | (at_builtin; refine wpList_append_own _ rfl _ _ 51 rfl w.heap.size 9 i0 (.string ⟨#[]⟩) 1 16 Tryd.underlying51 hi hz0 hz1 hz2 rfl (by decide) _ _ _ rfl (HO.out.alloc _) ⟨wr.heap.size, 0, none⟩ 1 1 [_] rfl rfl (one_new _ _ _) (one_cell (by rfl)) (by unfold maxLen; omega) (by omega) (by simp; omega) ?_))
            intro v' w1 ho1 hg1 _
            obtain ⟨a', c', rfl, hc'⟩ := ownsRow_slice ho1
            have HO1 := hid ho1
            have HG1 := hid hg1
            clear ho1 hg1
            go_wp2
            refine ⟨⟨i + 1, i + 1, ws ++ [x], by omega, Nat.le_refl _, by simp; omega, by go_num, by go_num, HL, hid (HG2.out trivial), ?_, ?_⟩, by simp [intOf]; omega⟩
            · rw [cells_snoc, hX.out, List.length_append]; exact HO1.out
            · exact (HBL.out.alloc hws _).grown HG1.out (by simp; omega) (fun q hq => by cases sa with | none => cases hq | some g => exact (HO.out.lt q hq).1)
          · simp only [Bool.not_true] at cw
            go_wp2_with (go_at_call 36; with_reducible refine (cw _).mono ?_; clear cw; rintro e w2 ⟨rfl, hw⟩; rw [hw]; clear hw w2)
            go_ret2
            exact ⟨.inl ⟨HBAD.out HM.out trivial, rfl⟩, HBL.out⟩
        · have hq2 : (((t.getD i 0).toNat : Int) == 32) = false := by
            rw [beq_eq_false_iff_ne]
            intro e
            exact hsp (UInt8.toNat_inj.1 (by show (t.getD i 0).toNat = 32; omega))
          have HL := hid (wordsAt_on hat.out hlt2 hsp)
          clear hsp
          obtain ⟨y, hy⟩ : ∃ y, Hid ((t.getD i 0).toNat = y) := ⟨_, rfl⟩
          rw [hy.out] at ei hq2
          clear hat hend cw es HBAD HG2
          go_wp2
          exact ⟨⟨a, i + 1, ws, by omega, by omega, by omega, rfl, by go_num, HL, hgood, HO.out, HBL.out⟩, by simp [intOf]; omega⟩
    · obtain rfl : i = t.length + 1 := by omega
      have HE : Hid (segs 32 [] t = ws) := by
        rcases hat.out with ⟨h, _⟩ | ⟨_, h⟩
        · omega
        · exact h
      have i1 : ¬ (((t.length + 1 : Nat) : Int) ≤ t.length) := by omega
      clear hat
      go_wp2
      go_ret2
      exact ⟨.inr ⟨by rw [HE.out]; exact hgood.out, _, rfl, by rw [HE.out]; exact HO.out⟩, HBL.out⟩
end Go.Proofs.YtdlebjogbhgheaaDoor.texts
