/- Contracts of layer 13 (schema): within, fineFields. No condition. -/
import Derived.Test.YtacigmnnekphmaaSchemaLong
import Derived.Test.YtacigmnnekphmaaArr
namespace Go.Proofs.Ytacigmnnekphmaa.schema
open Go.RowKit
open Go.Proofs.Ytacigmnnekphmaa.field (Gives newB gives_from right_any)
set_option linter.unusedVariables false

theorem within_any (n lo hi : Int) (w : World) : Calls Try.prog 28 #[.int .i64 n, .int .i64 lo, .int .i64 hi] w (Gives (.bool (decide (lo ≤ n ∧ n ≤ hi))) w) := by
  obtain ⟨v, hv⟩ : ∃ v : Bool, Hid (decide (lo ≤ n ∧ n ≤ hi) = v) := ⟨_, rfl⟩
  rw [hv.out]
  unfold Gives
  by_cases h1 : lo ≤ n
  · by_cases h2 : n ≤ hi
    · obtain rfl : true = v := by rw [← hv.out]; simp [h1, h2]
      go_enter Try.func28, Try.ntmps28
      go_wp2
      go_ret
      exact ⟨rfl, Below.refl _ _⟩
    · obtain rfl : false = v := by rw [← hv.out]; simp [h1, h2]
      have hd : decide (n ≤ hi) = false := decide_eq_false h2
      go_enter Try.func28, Try.ntmps28
      go_wp2
      go_ret
      exact ⟨rfl, Below.refl _ _⟩
  · obtain rfl : false = v := by rw [← hv.out]; simp [h1]
    have hd : decide (lo ≤ n) = false := decide_eq_false h1
    go_enter Try.func28, Try.ntmps28
    go_wp2
    go_ret
    exact ⟨rfl, Below.refl _ _⟩

/-- the IDs seen so far, as an array -/
def seenV (l : List Int) : List Value := (List.range 256).map fun j : Nat => Value.bool (decide ((j : Int) ∈ l))
theorem seenV_at (l : List Int) (n : Nat) (h : n < 256) : (seenV l)[n]? = some (.bool (decide ((n : Int) ∈ l))) := by simp [seenV, h]
theorem seenV_set (l : List Int) (n : Nat) (h : n < 256) : (seenV l).set n (.bool true) = seenV (l ++ [(n : Int)]) := by
  apply List.ext_getElem?
  intro i
  rw [List.getElem?_set]
  by_cases hi : i < 256
  · rw [seenV_at _ i hi, seenV_at _ i hi]
    by_cases hn : n = i
    · subst hn; simp [seenV, h]
    · rw [if_neg hn]
      simp; omega
  · simp [seenV]
    simp [hi]
    omega
theorem seenV_zero : Try.zeroCells77 = (seenV []).toArray := by kernel_rfl
theorem fineFields_any (a : Option Addr) (cap : Nat) (L : List field.Fd) (w : World) (h : field.Fds w a L) (hL : L.length ≤ maxLen) :
    Calls Try.prog 29 #[.slice a L.length cap] w (Gives (.bool (decide (FineF L))) w) := by
  have hml : (L.length : Int) ≤ 9223372036854775807 := by unfold maxLen at hL; omega
  obtain ⟨v, hv⟩ : ∃ v : Bool, Hid (decide (FineF L) = v) := ⟨_, rfl⟩
  rw [hv.out]
  unfold Gives
  have HF := hid h
  have HZ : Hid (Block (w.alloc (.cells Try.zeroCells77 77)) w.heap.size 77 (seenV [])) := by rw [seenV_zero]; exact hid (Block.new w 77 (seenV []))
  have HN := hid (newB w (.cells Try.zeroCells77 77))
  clear h hL
  go_enter Try.func29, Try.ntmps29
  go_wp2
  generalize w.alloc (.cells Try.zeroCells77 77) = w1 at *
  obtain ⟨B, hB⟩ : ∃ B : Nat, Hid (w.heap.size = B) := ⟨_, rfl⟩
  rw [hB.out] at HZ ⊢
  go_loopw [8] (fun n wr => ∃ k : Nat, k ≤ L.length ∧ n = .int .i64 (k : Int) ∧ Hid (FineF (L.take k)) ∧ Hid (Block wr B 77 (seenV (ids (L.take k)))) ∧ Hid (Below w.heap.size w wr)) (fun n _ => L.length - (intOf n).toNat)
  case atStart => exact ⟨0, Nat.zero_le _, rfl, hid FineF.nil, HZ, HN⟩
  case round =>
    obtain ⟨k, hk, rfl, HOK, HBl, HB⟩ := hrel
    by_cases hlt : k < L.length
    · obtain ⟨b, off, p, rfl, hbl, hp, c0, c1, c2, c3, c4⟩ := field_at HF.out HB.out hlt
      have i1 : (k : Int) < L.length := by omega
      have HP := hid hp
      have HNO := hid (fineF_no hp)
      have HSUC := hid (fineF_succ hp)
      have HIDS : Hid (ids (L.take (k + 1)) = ids (L.take k) ++ [p.id]) := hid (by rw [take_succ_at hp]; simp [ids])
      have cs := fun w' => right_any p w'
      clear hp
      generalize hI : ids (L.take k) = I at *
      clear hI
      by_cases hr : p.Right
      · obtain ⟨n, hn⟩ := Int.eq_ofNat_of_zero_le hr.1.1
        have hn2 : n ≤ 255 := by have := hr.1.2; omega
        rw [decide_eq_true hr] at cs
        have HR := hid hr
        clear hr
        obtain ⟨q, qk, ql, qh, qm⟩ := p
        simp only at hn HNO HSUC HIDS HR c0 c1 c2 c3 c4 cs
        subst hn
        have hsd := seenV_at I n (by omega)
        by_cases hm : (n : Int) ∈ I
        · rw [decide_eq_true hm] at hsd
          obtain rfl : false = v := by rw [← hv.out]; exact (decide_eq_false (HNO.out (fun h => h.2 hm))).symm
          clear hm
          have H5 := hid (field.five ⟨n, qk, ql, qh, qm⟩ wr)
          go_wp2_with (go_at_call 50; ((with_reducible refine (cs _).mono ?_); rintro e w2 ⟨rfl, hb2⟩; have hc := ((HBl.out.alloc _).later hb2).cell n; rw [hsd] at hc; have z0 := (H5.out w2 hb2).1))
          go_ret
          exact ⟨rfl, HB.out.trans ((below_out hb2).mono HB.out.size)⟩
        · rw [decide_eq_false hm] at hsd
          have HM := hid hm
          clear hm
          have H5 := hid (field.five ⟨n, qk, ql, qh, qm⟩ wr)
          have HLT := hid (show w.heap.size ≤ B by rw [hB.out]; exact Nat.le_refl _)
          go_wp2_with (go_at_call 50; ((with_reducible refine (cs _).mono ?_); rintro e w2 ⟨rfl, hb2⟩; have hblk := (HBl.out.alloc _).later hb2; have hc := hblk.cell n; rw [hsd] at hc; have z0 := (H5.out w2 hb2).1; have hfz := hblk.frozen n; have HBK := hid hblk; clear hblk))
          refine ⟨⟨k + 1, by omega, by go_num, hid (HSUC.out.2 ⟨HOK.out, HR.out, HM.out⟩), hid ?_, hid ?_⟩, by simp [intOf]; omega⟩
          · have := HBK.out.setCell n (.bool true)
            rw [seenV_set _ _ (by omega)] at this
            rw [HIDS.out]; exact this
          · exact below_setCells (HB.out.trans ((below_out hb2).mono HB.out.size)) HLT.out n [.bool true]
      · obtain rfl : false = v := by rw [← hv.out]; exact (decide_eq_false (HNO.out (fun h => hr h.1))).symm
        rw [decide_eq_false hr] at cs
        clear hr
        go_wp2_with (go_at_call 50; ((with_reducible refine (cs _).mono ?_); rintro e w2 ⟨rfl, hb2⟩))
        go_ret
        exact ⟨rfl, HB.out.trans ((below_out hb2).mono HB.out.size)⟩
    · obtain rfl : k = L.length := by omega
      obtain rfl : true = v := by rw [← hv.out]; have := HOK.out; rw [List.take_of_length_le (Nat.le_refl _)] at this; exact (decide_eq_true this).symm
      go_wp2
      go_ret
      exact ⟨rfl, HB.out⟩
end Go.Proofs.Ytacigmnnekphmaa.schema
