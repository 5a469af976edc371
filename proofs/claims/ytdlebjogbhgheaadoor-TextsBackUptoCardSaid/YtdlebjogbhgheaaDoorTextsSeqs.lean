/- The library's iterators over the lines and over the pieces of a string: contracts. No condition. -/
import Derived.Test.YtdlebjogbhgheaaDoorTextsValues
namespace Go.Proofs.YtdlebjogbhgheaaDoor.texts
open Go.RowKit Go.Lib Go.Shelf
set_option linter.unusedVariables false
attribute [local go_sem] Oper.semAt_some

/-- how long the string in a box is -/
def boxLen (b : Nat) (w : World) : Nat := match w.cell? ⟨b, 0, none⟩ with | some (.string s) => s.size | _ => 0
theorem boxLen_of {w : World} {b t : Nat} {l : List UInt8} (h : Boxed w b t (.string (strL l))) : boxLen b w = l.length := by
  unfold boxLen; rw [h.cell]; exact strL_size l
theorem Boxed.turned' {Z : Nat → Prop} {w w' : World} {b t : Nat} {v : Value} (h : Boxed w b t v) (ht : Turned Z w w') (hz : ¬ Z b) : Boxed w' b t v := ht.at h hz
theorem toNat_nl : ((10 : Int).toNat.toUInt8) = 10 := by decide

set_option maxRecDepth 100000 in
set_option maxHeartbeats 2000000 in
theorem lines_iter (n : Nat) (b : Nat) (s : List UInt8) (hlen : s.length ≤ 9223372036854775000) (W : World) (hb : Boxed W b 9 (.string (strL s))) :
    Iter Tryd.prog n 59 #[.pointer (some ⟨b, 0, none⟩)] (fun k => k = b) (fun k => k = b) (isStr (linesAux [] s)) (linesAux [] s).length W := by
  intro l J Jx hJ hJx hY h0
  refine callsIn_of_wp Tryd.func59 rfl trivial ?_ rfl
  simp only [Tryd.ntmps59, List.size_toArray, List.length_cons, List.length_nil, Nat.reduceAdd, Nat.reduceSub, Array.replicate_succ, Array.replicate_zero, List.push_toArray, List.append_toArray, List.nil_append, List.cons_append]
  have HY := hid hY
  have HJ := hid hJ
  have esz := strL_size
  obtain ⟨L, hL⟩ : ∃ L, Hid (linesAux [] s = L) := ⟨_, rfl⟩
  rw [hL.out] at HY ⊢
  clear hY hJ hJx
  gi_wp2
  gi_loopw [] (fun wr => ∃ (k : Nat) (r : List UInt8), Hid (linesAux [] r = L.drop k) ∧ k ≤ L.length ∧ r.length ≤ s.length ∧ J k wr ∧ Boxed wr b 9 (.string (strL r)))
    (fun wr => boxLen b wr)
  case atStart => exact ⟨0, s, hL, Nat.zero_le _, Nat.le_refl _, h0, hb⟩
  case round =>
    obtain ⟨k, r, hr, hk, hrl, hJs, hbx⟩ := hrel
    have HJs := hid hJs
    have HBX := hid hbx
    have hc := hbx.cell
    have hfz := hbx.frozen
    clear hJs
    by_cases h0 : r = []
    · subst h0
      have hkL : k = L.length := by
        have h1 := hr.out
        simp [linesAux] at h1
        omega
      clear hbx
      gi_wp2
      go_end0
      exact ⟨⟨_, rfl⟩, .inl (by rw [← hkL]; exact HJs.out)⟩
    · have hpos : 0 < (r.length : Int) := by cases r with | nil => exact absurd rfl h0 | cons _ _ => simp
      have cidx := Tryd.strings_IndexByte (strL r) 10 wr
      rw [strL_data, toNat_nl] at cidx
      clear hbx h0
      have est2 : (strL ([] : List UInt8)) = ⟨#[]⟩ := rfl
      by_cases hi : indexByte r 10 = -1
      · rw [hi] at cidx
        have hdk : L.drop k = [r] := by
          rw [← hr.out, lines_none r [] hi, if_neg (by cases r with | nil => simp at hpos | cons _ _ => simp)]; simp
        have hkN : k < L.length := by
          have := congrArg List.length hdk
          simp at this; omega
        have hget : L.getD k [] = r := by
          rw [List.getD_eq_getElem?_getD, ← List.head?_drop, hdk]; rfl
        have hbx2 : Boxed (wr.setCell ⟨b, 0, none⟩ (.string ⟨#[]⟩)) b 9 (.string (strL [])) := HBX.out.set _
        obtain ⟨fn, tmps, assign, body, hy, hR⟩ := HY.out k (.string (strL r)) (wr.setCell ⟨b, 0, none⟩ (.string ⟨#[]⟩)) hkN (HJ.out k _ _ HJs.out (Turned.setCell _ _ _ rfl)) (by show _ = Value.string (strL (L.getD k [])); rw [hget])
        have HDK := hid hdk
        clear hdk hget hi
        gi_wp2_with (refine ⟨trivial, fun h => (by cases h), ?_⟩; gi_at_call 25; refine (callsIn_wide.2 cidx).mono ?_; clear cidx; rintro e w1 ⟨rfl, hw⟩; rw [hw]; clear hw w1)
        refine ⟨fun h => (by cases h), hR.mono ?_⟩
        rintro e W3 (⟨rfl, hJ3, hk3⟩ | ⟨rfl, hJx3, _⟩)
        · have hbx3 : Boxed W3 b 9 (.string (strL [])) := hk3.at hbx2 (fun h => h rfl)
          gi_wp2
          go_roundw
          case rel =>
            refine ⟨k + 1, [], ?_, by omega, by simp, hJ3, hbx3⟩
            show linesAux [] [] = L.drop (k + 1)
            have := congrArg (List.drop 1) HDK.out
            rw [List.drop_drop] at this
            rw [this]; rfl
          case measure => rw [boxLen_of hbx3, boxLen_of HBX.out]; simp; omega
        · gi_wp2
          refine bodyPost_ret (results_none rfl _ _ _) rfl ?_
          exact ⟨⟨_, rfl⟩, .inr ⟨k, hkN, hJx3⟩⟩
      · obtain ⟨i, hii⟩ : ∃ i : Nat, indexByte r 10 = i := ⟨(indexByte r 10).toNat, by have := indexByte_ge r 10; omega⟩
        have hil := index_lt r 10 i hii
        rw [hii] at cidx
        have hdk : L.drop k = r.take (i + 1) :: linesAux [] (r.drop (i + 1)) := by
          rw [← hr.out, lines_some r [] i hii]; simp
        have hkN : k < L.length := by
          have := congrArg List.length hdk
          simp at this; omega
        have hget : L.getD k [] = r.take (i + 1) := by
          rw [List.getD_eq_getElem?_getD, ← List.head?_drop, hdk]; rfl
        have hbx2 : Boxed (wr.setCell ⟨b, 0, none⟩ (.string (strL (r.drop (i + 1))))).drew b 9 (.string (strL (r.drop (i + 1)))) := HBX.out.set _
        obtain ⟨fn, tmps, assign, body, hy, hR⟩ := HY.out k (.string (strL (r.take (i + 1)))) (wr.setCell ⟨b, 0, none⟩ (.string (strL (r.drop (i + 1))))).drew hkN (HJ.out k _ _ HJs.out ((Turned.setCell (Z := fun q => q = b) wr ⟨b, 0, none⟩ _ rfl).trans (Turned.drew _))) (by show _ = Value.string (strL (L.getD k [])); rw [hget])
        have sto := slice_to r (i + 1) (by omega)
        have sfr := slice_from r (i + 1) (by omega)
        rw [Int.natCast_succ] at sto sfr
        have HDK := hid hdk
        have i1 : (i : Int) < r.length := by omega
        have i3 : (r.length : Int) ≤ 9223372036854775000 := by omega
        clear hdk hget hi hii
        obtain ⟨S1, hS1⟩ : ∃ S1, Hid (strL (r.take (i + 1)) = S1) := ⟨_, rfl⟩
        obtain ⟨S2, hS2⟩ : ∃ S2, Hid (strL (r.drop (i + 1)) = S2) := ⟨_, rfl⟩
        rw [hS1.out] at sto hy
        rw [hS2.out] at sfr hy hR hbx2
        gi_wp2_with (refine ⟨trivial, fun h => (by cases h), ?_⟩; gi_at_call 25; refine (callsIn_wide.2 cidx).mono ?_; clear cidx; rintro e w1 ⟨rfl, hw⟩; rw [hw]; clear hw w1)
        gi_region
        gi_wp2
        refine ⟨fun h => (by cases h), hR.mono ?_⟩
        rintro e W3 (⟨rfl, hJ3, hk3⟩ | ⟨rfl, hJx3, _⟩)
        · have hbx3 : Boxed W3 b 9 (.string S2) := hk3.at hbx2 (fun h => h rfl)
          rw [← hS2.out] at hbx3
          gi_wp2
          go_roundw
          case rel =>
            refine ⟨k + 1, r.drop (i + 1), ?_, by omega, by simp; omega, hJ3, hbx3⟩
            show linesAux [] (r.drop (i + 1)) = L.drop (k + 1)
            have := congrArg (List.drop 1) HDK.out
            rw [List.drop_drop] at this
            rw [this]; rfl
          case measure => rw [boxLen_of hbx3, boxLen_of HBX.out]; simp; omega
        · gi_wp2
          refine bodyPost_ret (results_none rfl _ _ _) rfl ?_
          exact ⟨⟨_, rfl⟩, .inr ⟨k, hkN, hJx3⟩⟩

set_option maxRecDepth 100000 in
set_option maxHeartbeats 2000000 in
theorem pieces_iter (n : Nat) (b bs bk : Nat) (s : List UInt8) (hlen : s.length ≤ 9223372036854775000) (W : World) (hb : Boxed W b 9 (.string (strL s)))
    (hbs : Boxed W bs 9 (.string ⟨#[32]⟩)) (hbk : Boxed W bk 3 (.int .i64 0)) (hn1 : bs ≠ b) (hn2 : bk ≠ b) :
    Iter Tryd.prog n 82 #[.pointer (some ⟨bs, 0, none⟩), .pointer (some ⟨b, 0, none⟩), .pointer (some ⟨bk, 0, none⟩)] (fun k => k = b) (fun k => k = b ∨ k = bs ∨ k = bk) (isStr (segs 32 [] s)) (segs 32 [] s).length W := by
  intro l J Jx hJ hJx hY h0
  refine callsIn_of_wp Tryd.func82 rfl trivial ?_ rfl
  simp only [Tryd.ntmps82, List.size_toArray, List.length_cons, List.length_nil, Nat.reduceAdd, Nat.reduceSub, Array.replicate_succ, Array.replicate_zero, List.push_toArray, List.append_toArray, List.nil_append, List.cons_append]
  have HY := hid hY
  have HJ := hid hJ
  have esz := strL_size
  have esp : (ByteArray.mk #[32]).size = 1 := rfl
  obtain ⟨L, hL⟩ : ∃ L, Hid (segs 32 [] s = L) := ⟨_, rfl⟩
  rw [hL.out] at HY ⊢
  have HBS := hid hbs
  have HBK := hid hbk
  have HN1 := hid hn1
  have HN2 := hid hn2
  have hcs := hbs.cell
  clear hY hJ hJx hbs hbk hn1 hn2
  gi_wp2
  gi_loopw [] (fun wr => ∃ (k : Nat) (r : List UInt8), Hid (segs 32 [] r = L.drop k) ∧ k < L.length ∧ r.length ≤ s.length ∧ J k wr ∧ Boxed wr b 9 (.string (strL r)) ∧ Boxed wr bs 9 (.string ⟨#[32]⟩) ∧ Boxed wr bk 3 (.int .i64 0))
    (fun wr => boxLen b wr)
  case atStart =>
    refine ⟨0, s, hL, ?_, Nat.le_refl _, h0, hb, HBS.out, HBK.out⟩
    rw [← hL.out]
    by_cases hi : indexByte s 32 = -1
    · rw [segs_none 32 s [] hi]; simp
    · rw [segs_some 32 s [] (indexByte s 32).toNat (by have := indexByte_ge s 32; omega)]; simp
  case round =>
    obtain ⟨k, r, hr, hk, hrl, hJs, hbx, hbs, hbk⟩ := hrel
    have HJs := hid hJs
    have HBX := hid hbx
    have HBS2 := hid hbs
    have HBK2 := hid hbk
    have hc := hbx.cell
    have hfz := hbx.frozen
    have hc2 := hbs.cell
    have hc3 := hbk.cell
    have cidx := Tryd.strings_Index_one (strL r) 32 wr
    rw [strL_data] at cidx
    clear hJs hbx hbs hbk hcs
    by_cases hi : indexByte r 32 = -1
    · rw [hi] at cidx
      have hdk : L.drop k = [r] := by rw [← hr.out, segs_none 32 r [] hi]; simp
      have hkN : k + 1 = L.length := by
        have := congrArg List.length hdk
        simp at this; omega
      have hget : L.getD k [] = r := by
        rw [List.getD_eq_getElem?_getD, ← List.head?_drop, hdk]; rfl
      obtain ⟨fn, tmps, assign, body, hy, hR⟩ := HY.out k (.string (strL r)) wr hk HJs.out (by show _ = Value.string (strL (L.getD k [])); rw [hget])
      have HK := hid hkN
      clear hdk hget hi hkN
      gi_wp2_with (refine ⟨trivial, fun h => (by cases h), ?_⟩; gi_at_call 84; refine (callsIn_wide.2 cidx).mono ?_; clear cidx; rintro e w1 ⟨rfl, hw⟩; rw [hw]; clear hw w1)
      refine ⟨fun h => (by cases h), hR.mono ?_⟩
      rintro e W3 (⟨rfl, hJ3, hk3⟩ | ⟨rfl, hJx3, _⟩)
      · gi_wp2
        go_end0
        exact ⟨⟨_, rfl⟩, .inl (by rw [← HK.out]; exact hJ3)⟩
      · gi_wp2
        go_end0
        exact ⟨⟨_, rfl⟩, .inr ⟨k, hk, hJx3⟩⟩
    · obtain ⟨i, hii⟩ : ∃ i : Nat, indexByte r 32 = i := ⟨(indexByte r 32).toNat, by have := indexByte_ge r 32; omega⟩
      have hil := index_lt r 32 i hii
      rw [hii] at cidx
      have hdk : L.drop k = r.take i :: segs 32 [] (r.drop (i + 1)) := by
        rw [← hr.out, segs_some 32 r [] i hii]; simp
      have hne : segs 32 [] (r.drop (i + 1)) ≠ [] := by
        by_cases h : indexByte (r.drop (i + 1)) 32 = -1
        · rw [segs_none 32 _ [] h]; simp
        · rw [segs_some 32 _ [] (indexByte (r.drop (i + 1)) 32).toNat (by have := indexByte_ge (r.drop (i + 1)) 32; omega)]; simp
      have hdk1 : L.drop (k + 1) = segs 32 [] (r.drop (i + 1)) := by
        have := congrArg (List.drop 1) hdk
        rw [List.drop_drop] at this
        rw [this]; rfl
      have hk1 : k + 1 < L.length := by
        have := congrArg List.length hdk1
        have h2 := List.length_pos_iff.2 hne
        simp at this; omega
      have hget : L.getD k [] = r.take i := by
        rw [List.getD_eq_getElem?_getD, ← List.head?_drop, hdk]; rfl
      obtain ⟨fn, tmps, assign, body, hy, hR⟩ := HY.out k (.string (strL (r.take i))) wr hk HJs.out (by show _ = Value.string (strL (L.getD k [])); rw [hget])
      have sto := slice_to r i (by omega)
      have sfr := slice_from r (i + 1) (by omega)
      rw [Int.natCast_succ] at sfr
      have HDK := hid hdk1
      have i1 : (i : Int) < r.length := by omega
      have i3 : (r.length : Int) ≤ 9223372036854775000 := by omega
      clear hdk hdk1 hne hget hi hii
      obtain ⟨S1, hS1⟩ : ∃ S1, Hid (strL (r.take i) = S1) := ⟨_, rfl⟩
      obtain ⟨S2, hS2⟩ : ∃ S2, Hid (strL (r.drop (i + 1)) = S2) := ⟨_, rfl⟩
      rw [hS1.out] at sto hy
      rw [hS2.out] at sfr
      gi_wp2_with (refine ⟨trivial, fun h => (by cases h), ?_⟩; gi_at_call 84; refine (callsIn_wide.2 cidx).mono ?_; clear cidx; rintro e w1 ⟨rfl, hw⟩; rw [hw]; clear hw w1)
      refine ⟨fun h => (by cases h), hR.mono ?_⟩
      rintro e W3 (⟨rfl, hJ3, hk3⟩ | ⟨rfl, hJx3, _⟩)
      · have b3 : Boxed W3 b 9 (.string (strL r)) := hk3.at HBX.out (fun h => h (.inl rfl))
        have bs3 : Boxed W3 bs 9 (.string ⟨#[32]⟩) := hk3.at HBS2.out (fun h => h (.inr (.inl rfl)))
        have bk3 : Boxed W3 bk 3 (.int .i64 0) := hk3.at HBK2.out (fun h => h (.inr (.inr rfl)))
        have c3 := b3.cell
        have f3 := b3.frozen
        have c4 := bs3.cell
        have B3 := hid b3
        have BS3 := hid bs3
        have BK3 := hid bk3
        clear b3 bs3 bk3 hc hc2 hc3 hfz
        gi_wp2
        have ht : Turned (fun q => q = b) W3 (W3.setCell ⟨b, 0, none⟩ (.string S2)) := Turned.setCell (Z := fun q => q = b) W3 ⟨b, 0, none⟩ _ rfl
        have b4 : Boxed (W3.setCell ⟨b, 0, none⟩ (.string S2)) b 9 (.string S2) := B3.out.set _
        rw [← hS2.out] at b4 ht
        rw [← hS2.out]
        go_roundw
        case rel => exact ⟨k + 1, r.drop (i + 1), hid HDK.out.symm, hk1, by simp; omega, HJ.out _ _ _ hJ3 ht, b4, ht.at BS3.out HN1.out, ht.at BK3.out HN2.out⟩
        case measure => rw [boxLen_of b4, boxLen_of HBX.out]; simp; omega
      · gi_wp2
        refine bodyPost_ret (results_none rfl _ _ _) rfl ?_
        exact ⟨⟨_, rfl⟩, .inr ⟨k, hk, hJx3⟩⟩
end Go.Proofs.YtdlebjogbhgheaaDoor.texts
