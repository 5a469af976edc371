/- Contract of the reference's filled of layer 3, for every slice of less than 2^40 bytes. -/
import Derived.Test.YtlpbfkfamanaiaaDoorShaPad
import Derived.Test.YtlpbfkfamanaiaaDoorShaHash
import Derived.Test.YtlpbfkfamanaiaaDoorAppend
namespace Go.Proofs.YtlpbfkfamanaiaaDoor.sha
open Go.RowKit Go.Proofs.YtlpbfkfamanaiaaDoor.word
set_option linter.unusedVariables false

theorem lenBytes_get (n k : Nat) (hk : k < 8) : (lenBytes n).getD k 0 = 8 * n / 2 ^ (8 * (7 - k)) % 256 := by
  simp only [lenBytes, List.getD_eq_getElem?_getD, List.getElem?_map, List.getElem?_range hk, Option.map_some, Option.getD_some]
  rw [show 256 = 2 ^ 8 from rfl, ← Nat.pow_mul]
theorem lenBytes_take (n k : Nat) (hk : k < 8) : (lenBytes n).take (k + 1) = (lenBytes n).take k ++ [8 * n / 2 ^ (8 * (7 - k)) % 256] := by
  rw [← lenBytes_get n k hk, List.take_succ_eq_append_getElem (by rw [lenBytes_length]; exact hk), List.getD_eq_getElem?_getD, List.getElem?_eq_getElem (by rw [lenBytes_length]; exact hk)]; rfl
theorem u8s_append (a b : List Nat) : u8s (a ++ b) = u8s a ++ u8s b := by simp [u8s]
theorem replicate_snoc (x : Nat) (k : Nat) : List.replicate (k + 1) x = List.replicate k x ++ [x] := List.replicate_succ'

def sliceLen : Value → Nat
  | .slice _ n _ => n
  | _ => 0
theorem sliceLen_own {w : World} {base e size n : Nat} {v : Value} {xs : List Value} (h : w.ownsRow base e size v n xs) : sliceLen v = n := by
  obtain ⟨a, cap, rfl, _⟩ := ownsRow_slice h
  rfl
set_option maxHeartbeats 1600000 in
theorem refFilled_any (a : Option Addr) (len cap : Nat) (xs : List Nat) (w : World) (hr : Reads .u8 w a len xs) (hlc : len ≤ cap) (hn : len < 1099511627776) :
    Calls Tryd.prog 15 #[.slice a len cap] w fun e w' => ∃ v, e = .returned v ∧ w'.ownsRow w.heap.size 5 1 v (xs ++ pad len).length (u8s (xs ++ pad len)) ∧ Below w.heap.size w w' := by
  obtain ⟨i0, hi, hz0, hz1, hz2⟩ := info_parts Trydinfo5
  have hlen := hr.1
  have hzn : ∃ z : Nat, (119 - len % 64) % 64 = z := ⟨_, rfl⟩
  obtain ⟨z, hz⟩ := hzn
  have HP := hid (show pad len = 128 :: (List.replicate z 0 ++ lenBytes len) by rw [pad, hz])
  have HZ := hid hz
  have hzlt : z < 64 := by omega
  have HNW := hid (show len = 0 ∨ ∃ ad, a = some ad ∧ ∀ j u, (u8s xs)[j]? = some u → w.cell? (ad.add j) = some u from by
    rcases hr.2 with h | ⟨g, off, rfl, _, hc⟩
    · exact .inl h
    · refine .inr ⟨_, rfl, fun j u hj => ?_⟩
      have hl := (List.getElem?_eq_some_iff.1 hj).1
      rw [u8s_length, hlen] at hl
      rw [u8s_get xs j (by omega)] at hj
      cases hj
      rw [Addr.add_lit]; exact hc j hl)
  have HUL := hid (show (u8s xs).length = len by rw [u8s_length, hlen])
  have HU1 := hid (u8s_one xs)
  clear hz hr
  generalize hU : u8s xs = U at *
  have HU := hid hU
  clear hU
  go_enter Tryd.func15, Tryd.ntmps15
  go_wp2_with (at_builtin; refine wpList_append_from rfl _ _ 22 rfl w.heap.size 5 i0 (.int .u8 0) 1 Tryd.underlying22 hi hz0 hz1 hz2 rfl _ 0 [] rfl (World.ownsRow_nil _ _ _ _) a len cap U rfl HUL.out HNW.out HU1.out (by unfold maxLen; omega) (by omega) (Nat.le_refl _) ?_)
  intro v1 w1 ho1 hg1
  have hb1 : Below w.heap.size w w1 := (Below.refl _ _).grown hg1 (Nat.le_refl _) (fun k h => by cases h)
  have hs1 := hb1.size
  go_wp2_with (at_builtin; refine wpList_append_from rfl _ _ 22 rfl w.heap.size 5 i0 (.int .u8 0) 1 Tryd.underlying22 hi hz0 hz1 hz2 rfl _ len U rfl (ho1.alloc _) (some ⟨w1.heap.size, 0, none⟩) 1 1 [.int .u8 128] rfl rfl (.inr ⟨_, rfl, one_new _ _ _⟩) (one_cell rfl) (by unfold maxLen; omega) (by omega) (by simp; omega) ?_)
  intro v2 w2 ho2 hg2
  have hb2 : Below w.heap.size w w2 := (hb1.alloc hs1 _).grown hg2 (by simp; omega) (fun k hk => (ho1.lt k hk).1)
  have HO2 : Hid (w2.ownsRow w.heap.size 5 1 v2 (len + 1 + 0) (u8s (xs ++ 128 :: List.replicate 0 0))) := by
    show w2.ownsRow _ _ _ _ _ _
    rw [u8s_append, HU.out]; exact ho2
  clear ho1 hg1 hb1 hs1 ho2 hg2
  go_wp2
  go_loopw [3] (fun v wr => ∃ k : Nat, k ≤ z ∧ wr.ownsRow w.heap.size 5 1 v (len + 1 + k) (u8s (xs ++ 128 :: List.replicate k 0)) ∧ Below w.heap.size w wr)
    (fun v _ => len + 1 + z - sliceLen v)
  case atStart => exact ⟨0, Nat.zero_le _, HO2.out, hb2⟩
  case round =>
    obtain ⟨k, hk, ho, hb⟩ := hrel
    obtain ⟨g, c, rfl, hg1, hg2, hgc, hcm⟩ := ownsRow_form ho (by omega)
    have hbs := hb.size
    have HO := hid ho
    have HB := hid hb
    clear ho hb hb2 HO2
    by_cases hlt : k < z
    · have ht1 : (((len : Int) + 1 + k) % 64 == 56) = false := by have := HZ.out; rw [beq_eq_false_iff_ne]; omega
      go_wp2_with (at_builtin; refine wpList_append_from rfl _ _ 22 rfl w.heap.size 5 i0 (.int .u8 0) 1 Tryd.underlying22 hi hz0 hz1 hz2 rfl _ (len + 1 + k) _ rfl (HO.out.alloc _) (some ⟨wr.heap.size, 0, none⟩) 1 1 [.int .u8 0] rfl rfl (.inr ⟨_, rfl, one_new _ _ _⟩) (one_cell rfl) (by unfold maxLen; omega) (by omega) (by simp; omega) ?_)
      intro v3 w3 ho3 hg3
      have hb3 : Below w.heap.size w w3 := (HB.out.alloc hbs _).grown hg3 (by simp; omega) (fun k hk => by cases hk; exact hg1)
      have hl3 := sliceLen_own ho3
      have ho3' : w3.ownsRow w.heap.size 5 1 v3 (len + 1 + (k + 1)) (u8s (xs ++ 128 :: List.replicate (k + 1) 0)) := by
        rw [replicate_snoc, ← List.cons_append, ← List.append_assoc, u8s_append]; exact ho3
      clear ho3 hg3
      go_wp2
      exact ⟨⟨k + 1, by omega, ho3', hb3⟩, by rw [hl3]; simp [sliceLen]; omega⟩
    · obtain rfl : k = z := by omega
      have ht1 : ((len : Int) + 1 + k) % 64 = 56 := by have := HZ.out; omega
      go_wp2
      clear ht1
      go_loopw [3, 5] (fun v i wr => ∃ (j : Nat) (i' : Int), i = .int .i64 i' ∧ i' + j = 7 ∧ j ≤ 8 ∧ wr.ownsRow w.heap.size 5 1 v (len + 1 + k + j) (u8s (xs ++ 128 :: (List.replicate k 0 ++ (lenBytes len).take j))) ∧ Below w.heap.size w wr)
        (fun _ i _ => (intOf i + 1).toNat)
      case atStart => exact ⟨0, 7, rfl, by decide, by decide, by simpa using HO.out, HB.out⟩
      case round =>
        obtain ⟨j, i', rfl, hij, hj, ho, hb⟩ := hrel
        obtain ⟨g', c', rfl, hg1', hg2', hgc', hcm'⟩ := ownsRow_form ho (by omega)
        have hbs' := hb.size
        have HO' := hid ho
        have HB' := hid hb
        clear ho hb
        by_cases hlt8 : j < 8
        · obtain ⟨q, rfl⟩ := Int.eq_ofNat_of_zero_le (by omega : 0 ≤ i')
          have hqj : q = 7 - j := by omega
          have HQ := hid hqj
          have hq8 : q < 8 := by omega
          clear hqj hij
          have hL : (len : Int) * 8 < 18446744073709551616 := by omega
          go_wp2_with (at_builtin; refine wpList_append_from rfl _ _ 22 rfl w.heap.size 5 i0 (.int .u8 0) 1 Tryd.underlying22 hi hz0 hz1 hz2 rfl _ (len + 1 + k + j) _ rfl (HO'.out.alloc _) (some ⟨wr.heap.size, 0, none⟩) 1 1 [_] rfl rfl (.inr ⟨_, rfl, one_new _ _ _⟩) (one_cell (by rfl)) (by unfold maxLen; omega) (by omega) (by simp; omega) ?_)
          intro v5 w5 ho5 hg5
          have hb5 : Below w.heap.size w w5 := (HB'.out.alloc hbs' _).grown hg5 (by simp; omega) (fun k hk => by cases hk; exact hg1')
          have hbyte : (len : Int) * 8 / 2 ^ (8 * q) % 256 = ((8 * len / 2 ^ (8 * (7 - j)) % 256 : Nat) : Int) := by
            rw [← HQ.out, Nat.mul_comm 8 len]
            simp
          have ho5' : w5.ownsRow w.heap.size 5 1 v5 (len + 1 + k + (j + 1)) (u8s (xs ++ 128 :: (List.replicate k 0 ++ (lenBytes len).take (j + 1)))) := by
            rw [lenBytes_take len j hlt8, ← List.append_assoc (List.replicate k 0), ← List.cons_append, ← List.append_assoc xs, u8s_append]
            rw [hbyte] at ho5
            exact ho5
          clear ho5 hg5 hbyte
          go_wp2
          exact ⟨⟨j + 1, (q : Int) - 1, rfl, by have := HQ.out; omega, by omega, ho5', hb5⟩, by simp [intOf]⟩
        · obtain rfl : j = 8 := by omega
          obtain rfl : i' = -1 := by omega
          rw [List.take_of_length_le (by rw [lenBytes_length]; exact Nat.le_refl _)] at HO'
          go_wp2
          go_ret
          refine ⟨_, rfl, ?_, HB'.out⟩
          have hll : (xs ++ 128 :: (List.replicate k 0 ++ lenBytes len)).length = len + 1 + k + 8 := by simp [hlen, lenBytes_length]; omega
          rw [HP.out, hll]
          exact HO'.out
end Go.Proofs.YtlpbfkfamanaiaaDoor.sha
