/- Contract of Write of layer 3: for a hash that the call can reach, and every slice of bytes that lies beside it, of less than 2^59 bytes in all, where the constants' table holds what its text lays. -/
import Derived.Test.YtlpbfkfamanaiaaDoorShaHash
namespace Go.Proofs.YtlpbfkfamanaiaaDoor.sha
open Go.RowKit Go.Proofs.YtlpbfkfamanaiaaDoor.word
set_option linter.unusedVariables false

def lenIn : Value → Nat
  | .slice _ n _ => n
  | _ => 0
/-- the slice does not lie in block b -/
def Beside (b : Nat) (a : Option Addr) (len : Nat) : Prop := len = 0 ∨ ∃ g off, a = some ⟨g, off, none⟩ ∧ g ≠ b
theorem info5n : (Tryd.prog.info? 5).map (·.size) = some 1 := by kernel_rfl
theorem slice_from (b q : Nat) (hq : q < 64) (w : World) : (Instr.sliceAt 42 (.pointer (some ⟨b, 8, none⟩)) (some (.int .i64 q)) none none).run Tryd.prog w = .ok (.slice (some ⟨b, 8 + q, none⟩) (64 - q) (64 - q)) w := by
  have h1 : (0 : Int) ≤ q := by omega
  have h2 : (q : Int) ≤ 64 := by omega
  simp [go_sem, h1, h2]
  omega
theorem slice_rest (b : Nat) (a : Option Addr) (r c n : Nat) (hn : n ≤ r) (hc : r ≤ c) : ∃ a', (∀ w, (Instr.sliceAt 22 (.slice a r c) (some (.int .i64 n)) none none).run Tryd.prog w = .ok (.slice a' (r - n) (c - n)) w) ∧
    (∀ w xs, Reads .u8 w a r xs → Reads .u8 w a' (r - n) (xs.drop n)) ∧ (Beside b a r → Beside b a' (r - n)) := by
  have h1 : (0 : Int) ≤ n := by omega
  have h2 : (n : Int) ≤ r := by omega
  refine ⟨if c = n then a else a.map (·.add n), fun w => ?_, fun w xs h => ?_, fun h => ?_⟩
  · have h3 : (n : Int) ≤ c := by omega
    simp [go_sem, h1, h2]
  · refine ⟨by rw [List.length_drop, h.1], ?_⟩
    by_cases h0 : r - n = 0
    · exact .inl h0
    · rw [if_neg (by omega)]
      obtain ⟨g, off, rfl, hlt, hcell⟩ := h.at (i := 0) (by omega)
      refine .inr ⟨g, off + n, by simp [Addr.add_lit], hlt, fun i hi => ?_⟩
      rw [show off + n + i = off + (n + i) by omega, hcell (n + i) (by omega)]
      simp [List.getD]
  · by_cases h0 : r - n = 0
    · exact .inl h0
    · rw [if_neg (by omega)]
      rcases h with h | ⟨g, off, rfl, hg⟩
      · omega
      · exact .inr ⟨g, off + n, by simp [Addr.add_lit], hg⟩

set_option maxHeartbeats 1600000 in
theorem write_any (b : Nat) (hb0 : 0 < b) (m : List Nat) (a : Option Addr) (len cap : Nat) (xs : List Nat) (w : World) (ht : Tab w) (hh : HashIs w b m) (hr : Reads .u8 w a len xs) (hs : Beside b a len) (hx : ∀ x ∈ xs, x < 256) (hlc : len ≤ cap)
    (hn : m.length + len < 576460752303423488) :
    Calls Tryd.prog 12 #[.pointer (some ⟨b, 0, none⟩), .slice a len cap] w fun e w' => e = .returned (.tuple #[]) ∧ HashIs w' b (m ++ xs) ∧ But w.heap.size b w w' := by
  have hlen := hr.1
  go_enter Tryd.func12, Tryd.ntmps12
  go_wp2
  go_loopw [1] (fun v wr => ∃ (p ys : List Nat) (a' : Option Addr) (c' : Nat), v = .slice a' ys.length c' ∧ ys.length ≤ c' ∧ (∀ x ∈ ys, x < 256) ∧ p ++ ys = m ++ xs ∧ HashIs wr b p ∧ But w.heap.size b w wr ∧ Reads .u8 wr a' ys.length ys ∧ Beside b a' ys.length)
    (fun v _ => lenIn v)
  case atStart => exact ⟨m, xs, a, cap, by rw [hlen], by omega, hx, rfl, hh, But.refl _ _ _, by rw [hlen]; exact hr, by rw [hlen]; exact hs⟩
  case round =>
    obtain ⟨p, ys, a', c', rfl, hyc, hyx, hpy, ⟨B, hB, hBx, hBt⟩, hbut, hr', hs'⟩ := hrel
    by_cases h0 : 0 < ys.length
    · obtain ⟨n, hnn⟩ : ∃ n, n = Nat.min ys.length (64 - p.length % 64) := ⟨_, rfl⟩
      obtain ⟨q, hq⟩ : ∃ q, q = p.length % 64 := ⟨_, rfl⟩
      have hqlt : q < 64 := by omega
      have hn1 : 0 < n ∧ n ≤ ys.length ∧ q + n ≤ 64 ∧ (n < ys.length → q + n = 64) := by
        have e : n = if ys.length ≤ 64 - p.length % 64 then ys.length else 64 - p.length % 64 := by rw [hnn]; exact Nat.min_def
        split at e <;> omega
      have hyl : (ys.take n).length = n := by rw [List.length_take]; omega
      have hpl : (p ++ ys).length = (m ++ xs).length := by rw [hpy]
      have hpb : p.length + ys.length < 576460752303423488 := by simp at hpl; omega
      obtain ⟨g, off, rfl, hlt, hcell⟩ := hr'.at h0
      obtain ⟨a2, hsl, hrest, hbes⟩ := slice_rest b (some ⟨g, off, none⟩) ys.length c' n hn1.2.1 hyc
      have hcnt := hB.count
      have hq1 : (p.length : Int) % 64 = q := by omega
      have hsf := fun w' => slice_from b q hqlt w'
      have hgb : g ≠ b := by
        rcases hs' with h | ⟨g', off', he, hne⟩
        · omega
        · cases he; exact hne
      have HTH := hid (show (wr.drew).there b (8 + q) (u8s (ys.take n)).length by rw [u8s_length, hyl]; exact hB.there (8 + q) n (by omega))
      have HN := hid (show (u8s (ys.take n)).length = Nat.min ys.length (64 - q) by rw [u8s_length, hyl, hq]; exact hnn)
      have H1 := hid (u8s_one (ys.take n))
      have HCS := hid (show ∀ j v, (u8s (ys.take n))[j]? = some v → (wr.drew).cell? ((⟨g, off, none⟩ : Addr).add j) = some v from fun j v hj => by
        have hl := (List.getElem?_eq_some_iff.1 hj).1
        rw [u8s_length, hyl] at hl
        have h2 := u8s_get (ys.take n) j (by omega)
        rw [h2] at hj
        cases hj
        rw [Addr.add_lit]
        refine (hcell j (by omega)).trans ?_
        rw [word.getD_take, if_pos hl])
      have hgl : ((u8s (ys.take n)).length : Int) = n := by rw [u8s_length, hyl]
      have hi0 : (0 : Int) < ys.length := by omega
      have HNN := hid hnn
      have HQ := hid hq
      have HPY := hid hpy
      have HBT := hid hBt
      have HBX := hid hBx
      have HYX := hid hyx
      clear hnn hq hpy hpl hBt hBx hyx hx hcell hr hlen
      go_wp2
      refine perm.region [0, 1, 2, 3, 4, 5, 9] [6, 7, 8, 10, 11] (by kernel_rfl) (by kernel_rfl) ?_
      simp only [perm.pickOps, perm.nth, List.cons_append, List.nil_append]
      repeat (go_big_quiet_step (fail))
      refine wpQuiet_nil ?_
      go_wp2_with (with_reducible refine wpList_copy_block rfl (.tmp 18) (.tmp 19) 22 22 rfl 5 Tryd.underlying22 info5n b (8 + q) (64 - q) (64 - q) ⟨g, off, none⟩ ys.length c' rfl rfl (u8s (ys.take n)) HN.out HCS.out HTH.out H1.out ?_)
      refine NoPanic.normal ?_
      have hB1 := (hB.drewN 1).copy q (ys.take n) (by rw [hyl]; omega)
      have hb1 : But wr.heap.size b wr ((wr.drew).setCells b (8 + q) (u8s (ys.take n))) := ((But.refl _ _ _).drewN 1).setCells _ _
      obtain ⟨W1, hW1⟩ : ∃ x, Hid ((wr.drew).setCells b (8 + q) (u8s (ys.take n)) = x) := ⟨_, rfl⟩
      have hB1' : HB W1 b (chain p (p.length / 64)) (B.take q ++ ys.take n ++ B.drop (q + (ys.take n).length)) p.length := by rw [← hW1.out]; exact hB1
      have hb1' : But wr.heap.size b wr W1 := by rw [← hW1.out]; exact hb1
      rw [hW1.out]
      rw [hyl] at hB1'
      have hnt := hB1'.count
      have hfz := hB1'.frozen 72
      have hB2 := hB1'.setCount (p.length + n)
      have hb2 : But wr.heap.size b wr (W1.setCell ⟨b, 72, none⟩ (.int .i64 (p.length + n : Nat))) := hb1'.setCell _ _
      obtain ⟨W2, hW2⟩ : ∃ x, Hid (W1.setCell ⟨b, 72, none⟩ (.int .i64 ((p.length : Int) + n)) = x) := ⟨_, rfl⟩
      rw [Int.natCast_add, hW2.out] at hB2 hb2
      have hr2 : Reads .u8 W2 (some ⟨g, off, none⟩) ys.length ys := hr'.but hb2 hlt hgb
      have hbw : But w.heap.size b w W2 := hbut.trans (hb2.mono hbut.2.2.2.1)
      have HBW := hid hbw
      have HR2 := hid (hrest W2 ys hr2)
      have HBS := hid (hbes hs')
      have HSZ := hid hbut.2.2.2.1
      have hlen2 : (ys.drop n).length = ys.length - n := List.length_drop
      have hBl := hB.2.1
      have HTB := hid (ht.but hbw ht.1 hb0)
      clear hB1 hb1 hB hbut hr' hs' hB1' hb1' hrest hbes hr2 hbw hb2 HTH HCS HN H1 hcnt hsf hh
      by_cases hfull : q + n = 64
      · have ht1 : ((p.length : Int) + n) % 64 = 0 := by have := HQ.out; omega
        obtain ⟨t1, t2, t3⟩ := take_full B p (ys.take n) hBl HBT.out (by rw [hyl, ← HQ.out]; exact hfull)
        rw [hyl, ← HQ.out] at t3
        obtain ⟨B2, hB2d⟩ : ∃ x, Hid (B.take q ++ ys.take n ++ B.drop (q + n) = x) := ⟨_, rfl⟩
        rw [hB2d.out] at hB2 t3
        have hB2x : ∀ x ∈ B2, x < 256 := by
          intro x hx
          rw [← hB2d.out] at hx
          rcases List.mem_append.1 hx with h | h
          · rcases List.mem_append.1 h with h | h
            · exact HBX.out x (List.mem_of_mem_take h)
            · exact HYX.out x (List.mem_of_mem_take h)
          · exact HBX.out x (List.mem_of_mem_drop h)
        obtain ⟨S1, hS1⟩ : ∃ x, Hid (chain p (p.length / 64) = x) := ⟨_, rfl⟩
        have hSl : S1.length = 8 := by rw [← hS1.out]; exact chain_length _ _
        have hSx : ∀ x ∈ S1, x < 4294967296 := by rw [← hS1.out]; exact chain_lt _ _
        rw [hS1.out] at hB2 t3
        have hm : Calls Tryd.prog 21 #[.agg (u32s S1).toArray, .slice (some ⟨b, 8, none⟩) 64 64] W2.drew fun e w' => e = .returned (.agg (u32s (mix S1 B2)).toArray) ∧ Below W2.drew.heap.size W2.drew w' :=
          mixed_any S1 hSl hSx (some ⟨b, 8, none⟩) 64 B2 W2.drew (HTB.out.drewN 1) ((hB2.drewN 1).bytes) hB2x
        have HR := hid (show W2.drew.rangeAt b 0 (u32s S1) from (hB2.drewN 1).state)
        have HL := hid (show (Tryd.prog.info? 25).map (·.size) = some (u32s S1).length by rw [u32s_length, hSl]; exact (zero_of_info info8).2)
        have T1 := hid t1
        have T2 := hid t2
        have T3 := hid t3
        have HB2 := hid hB2
        have HSX := hid hSx
        have HB2X := hid hB2x
        clear t1 t2 t3 hB2 hSx hB2x
        go_wp2
        rw [hW2.out]
        refine perm.region [0, 1, 2, 3, 5, 6, 7, 8] [4, 9, 10, 11, 12] (by kernel_rfl) (by kernel_rfl) ?_
        simp only [perm.pickOps, perm.nth, List.cons_append, List.nil_append]
        repeat (go_big_quiet_step (fail))
        refine wpQuiet_nil ?_
        go_wp2_with (first
          | (with_reducible refine wpList_load_mid rfl 25 (.tmp 41) rfl b 0 rfl (u32s S1) _ HR.out Tryd.underlying25 rfl HL.out ?_)
          | (go_at_call 21; (with_reducible refine hm.mono ?_)))
        rintro e W3 ⟨rfl, hb3⟩
        have hB3 := (show HB W2.drew b S1 B2 (p.length + n) from HB2.out.drewN 1).later hb3
        have hbw3 : But w.heap.size b w W3 := (HBW.out.drewN 1).step hb3 HBW.out.2.2.2.1
        have hr3 : Reads .u8 W3 a2 (ys.length - n) (ys.drop n) := (HR2.out.drewN 1).below hb3
        have hmS : (mix S1 B2).length = 8 := addTo_length _ _
        have hms : (u32s (mix S1 B2)).toArray.size = 8 := by rw [List.size_toArray, u32s_length, hmS]
        have HTH := hid (show W3.there b 0 (u32s (mix S1 B2)).toArray.size by rw [hms]; exact hB3.there 0 8 (by omega))
        have HL2 := hid (show (Tryd.prog.info? 25).map (·.size) = some (u32s (mix S1 B2)).toArray.size by rw [hms]; exact (zero_of_info info8).2)
        have H1 := hid (show (u32s (mix S1 B2)).toArray.all (·.oneCell') = true from all_oneCell_toArray (u32s_one _))
        have hB4 := hB3.setState (mix S1 B2) hmS
        have hbw4 := hbw3.setCells 0 (u32s (mix S1 B2))
        have hr4 : Reads .u8 (W3.setCells b 0 (u32s (mix S1 B2))) a2 (ys.length - n) (ys.drop n) := by
          rcases HBS.out with h | ⟨g2, off2, rfl, hg2⟩
          · exact ⟨hr3.1, .inl h⟩
          · by_cases h0 : ys.length - n = 0
            · exact ⟨hr3.1, .inl h0⟩
            · obtain ⟨g3, off3, he, hlt3, _⟩ := hr3.at (i := 0) (by omega)
              cases he
              exact hr3.but ((But.refl W3.heap.size b W3).setCells 0 (u32s (mix S1 B2))) hlt3 hg2
        have HB4 := hid hB4
        have HBW4 := hid hbw4
        have HR4 := hid hr4
        clear hB3 hbw3 hr3 hB4 hbw4 hr4 hms hmS
        go_wp2_with (with_reducible refine wpList_store_mid rfl 25 (.tmp 49) (.tmp 47) rfl b 0 (u32s (mix S1 B2)).toArray rfl rfl HTH.out HL2.out H1.out ?_)
        refine NoPanic.normal ?_
        go_wp2
        exact ⟨⟨p ++ ys.take n, ys.drop n, a2, c' - n, by rw [hlen2], by rw [hlen2]; omega, fun x hx => HYX.out x (List.mem_of_mem_drop hx), by rw [List.append_assoc, List.take_append_drop]; exact HPY.out,
          ⟨B2, by rw [T3.out, show (p ++ ys.take n).length = p.length + n by rw [List.length_append, hyl]]; exact HB4.out, HB2X.out, by rw [T2.out, T1.out, List.take_zero, List.drop_of_length_le (by have := T1.out; have := T2.out; omega)]⟩,
          HBW4.out, by rw [hlen2]; exact HR4.out, by rw [hlen2]; exact HBS.out⟩, by simp [lenIn]; omega⟩
      · have ht1 : (((p.length : Int) + n) % 64 == 0) = false := by have := HQ.out; rw [beq_eq_false_iff_ne]; omega
        obtain ⟨t1, t2, t3⟩ := take_more B p (ys.take n) hBl HBT.out (by rw [hyl, ← HQ.out]; omega)
        have T1 := hid t1
        have T2 := hid t2
        have T3 := hid t3
        clear t1 t2 t3
        go_wp2
        rw [hW2.out]
        refine ⟨⟨p ++ ys.take n, ys.drop n, a2, c' - n, by rw [hlen2], by rw [hlen2]; omega, fun x hx => HYX.out x (List.mem_of_mem_drop hx), by rw [List.append_assoc, List.take_append_drop]; exact HPY.out,
          ⟨B.take q ++ ys.take n ++ B.drop (q + n), ?_, ?_, ?_⟩, HBW.out, by rw [hlen2]; exact HR2.out, by rw [hlen2]; exact HBS.out⟩, by simp [lenIn]; omega⟩
        · rw [T1.out, chain_append _ _ _ (by omega), show (p ++ ys.take n).length = p.length + n by rw [List.length_append, hyl]]
          exact hB2
        · intro x hx
          rcases List.mem_append.1 hx with h | h
          · rcases List.mem_append.1 h with h | h
            · exact HBX.out x (List.mem_of_mem_take h)
            · exact HYX.out x (List.mem_of_mem_take h)
          · exact HBX.out x (List.mem_of_mem_drop h)
        · have := T3.out
          rw [T2.out, T1.out]
          rw [hyl, ← HQ.out] at this ⊢
          exact this
    · have hys : ys = [] := List.eq_nil_of_length_eq_zero (by omega)
      subst hys
      rw [List.append_nil] at hpy
      have hfin : HashIs wr b (m ++ xs) := by rw [← hpy]; exact ⟨B, hB, hBx, hBt⟩
      clear hB hBx hBt hpy hr' hs' hyx hh hr hs hx
      go_wp2
      go_end0
      exact ⟨rfl, hfin, hbut⟩
end Go.Proofs.YtlpbfkfamanaiaaDoor.sha
