/- The law ItemLists, walked. No condition but lists of at most 4294967296 items. -/
import Derived.Test.YtccaibdklgkgeaaItemAwake
import Derived.Test.YtccaibdklgkgeaaItemRight
import Derived.Test.YtccaibdklgkgeaaItemRefRight
import Derived.Test.YtccaibdklgkgeaaItemRefSame
import Derived.Test.YtccaibdklgkgeaaItemRefFind
import Derived.Test.YtccaibdklgkgeaaItemCut
import Derived.Test.YtccaibdklgkgeaaItemRefCut
import Derived.Test.YtccaibdklgkgeaaItemMains
import Derived.Test.YtccaibdklgkgeaaItemRefMains
import Derived.Test.YtccaibdklgkgeaaItemRefPut
import Derived.Test.YtccaibdklgkgeaaPlanMore
import Derived.Conc.WalkWords
namespace Go.Proofs.Ytccaibdklgkgeaa.itemLists
open Go.RowKit Go.Proofs.Ytccaibdklgkgeaa.item
set_option linter.unusedVariables false

theorem exec_eql_bool {o : Oper} {a : Act} {w : World} {x y : Operand} {t' : TypeId} {r : Bool} (ho : o.op = .binOp .eql 4 x y t') (hx : a.eval x = .bool r) (hy : a.eval y = .bool r) : (execOp a.eval o).run Try.prog w = .ok (.value (.bool true)) w :=
  plan.exec_eql (vx := .bool r) (vy := .bool r) ho hx hy (by simp [go_sem]) (by simp [go_sem])
theorem same_self (a : Option Addr) (c : Nat) (b : Option Addr) (d : Nat) (P : List It) (w : World) (h : Its w a P) (h' : Its w b P) (hL : P.length ≤ maxLen) :
    Calls Try.prog 18 #[.slice a P.length c, .slice b P.length d] w fun e w' => e = .returned (.bool true) ∧ Below w.heap.size w w' := by
  have := refSame_any a c P b d P w h h' hL hL
  rw [decide_eq_true rfl] at this
  exact this
theorem boxes (x : It) (w : World) : ∃ W0, Hid ((w.alloc (.cells #[.int .u32 (x.key : Nat), .string x.data] 37)) = W0) ∧ Below w.heap.size w W0 ∧ Hid (∀ w', Below W0.heap.size W0 w' → Block w' w.heap.size 37 [.int .u32 (x.key : Nat), .string x.data] ∧ Below w.heap.size w w') := by
  have hw := newB w (.cells #[.int .u32 (x.key : Nat), .string x.data] 37)
  exact ⟨_, hid rfl, hw, hid (fun w' hb => ⟨(Block.new w _ _).later hb, hw.trans (hb.mono hw.size)⟩)⟩
set_option maxRecDepth 20000 in
set_option maxHeartbeats 3200000 in
theorem walk0 (la : Option Addr) (lc : Nat) (L : List It) (ma : Option Addr) (mc : Nat) (M : List It) (x : It) (w : World) (hl : Its w la L) (hm : Its w ma M) (hL : L.length ≤ 4294967296) (hM : M.length ≤ 4294967296) (hx : x.key < 4294967296) (hg : ∀ p ∈ L, p.key < 4294967296) :
    Calls Try.prog 4 #[.slice la L.length lc, .slice ma M.length mc, .agg #[.int .u32 (x.key : Nat), .string x.data]] w (Yes w) := by
  obtain ⟨W0, HW0, hw, HX⟩ := boxes x w
  have hl0 := hl.below hw
  have hm0 := hm.below hw
  have hml : L.length ≤ maxLen := by unfold maxLen; omega
  have hmm : M.length ≤ maxLen := by unfold maxLen; omega
  have HLL := info_it2
  have cF := find_any la lc L x.key W0 hl0 hml
  have cF2 := fun w' (hb : Below W0.heap.size W0 w') => refFind_any la lc L x.key w' (hl0.below hb) hml
  have cC := fun w' (hb : Below W0.heap.size W0 w') => cut_any la lc L x.key w' (hl0.below hb) hL
  have cC2 := fun w' (hb : Below W0.heap.size W0 w') => refCut_any la lc L x.key w' (hl0.below hb) hL
  have cR := fun w' (hb : Below W0.heap.size W0 w') => right_any la lc L w' (hl0.below hb) hml
  have cR2 := fun w' (hb : Below W0.heap.size W0 w') => refRight_any la lc L w' (hl0.below hb) hml
  have cS := fun w' (hb : Below W0.heap.size W0 w') => same_any la lc L ma mc M w' (hl0.below hb) (hm0.below hb) hml hmm
  have cS2 := fun w' (hb : Below W0.heap.size W0 w') => refSame_any la lc L ma mc M w' (hl0.below hb) (hm0.below hb) hml hmm
  have cP := fun w' (hb : Below W0.heap.size W0 w') => put_any la lc L x w' (hl0.below hb) hL
  have cP2 := fun w' (hb : Below W0.heap.size W0 w') => refPut_any la lc L x w' (hl0.below hb) hL hx hg
  have cM := fun w' (hb : Below W0.heap.size W0 w') => mains_any la lc L w' (hl0.below hb) hL
  have cM2 := fun w' (hb : Below W0.heap.size W0 w') => refMains_any la lc L w' (hl0.below hb) hL
  have cB := fun w' (hb : Below W0.heap.size W0 w') => sides_any la lc L w' (hl0.below hb) hL
  have cB2 := fun w' (hb : Below W0.heap.size W0 w') => refSides_any la lc L w' (hl0.below hb) hL hg
  have cA := fun w' => awake_any w'
  have HLP : Hid ((item.put L x).length ≤ maxLen) := by show _ ≤ _; rw [put_length]; have := cut_le L x.key; unfold maxLen; omega
  have HLA : Hid ((mains L).length ≤ maxLen) := by show _ ≤ _; have := List.length_filter_le (fun p : It => decide (p.key < 16777216)) L; unfold mains maxLen; omega
  have HLB : Hid ((sides L).length ≤ maxLen) := by show _ ≤ _; have := List.length_filter_le (fun p : It => !(decide (p.key < 16777216))) L; unfold sides maxLen; omega
  have HLC : Hid ((cut L x.key).length ≤ maxLen) := by show _ ≤ _; have := cut_le L x.key; unfold maxLen; omega
  unfold Yes at cA ⊢
  unfold Lists2 at cC cC2
  generalize item.put L x = P at *
  generalize mains L = A at *
  generalize sides L = B at *
  generalize cut L x.key = C at *
  generalize find x.key L = o at *
  generalize decide (Right L) = r at *
  generalize decide (L = M) = s at *
  generalize decide (C.length < L.length) = t at *
  unfold Finds at cF cF2
  generalize data o = D at *
  generalize o.isSome = u at *
  unfold Gives at cR cR2 cS cS2
  rw [← HW0.out] at cF
  clear hl hm hw hl0 hm0 hL hM hx hg
  go_enter Try.func4, Try.ntmps4
  go_wp2_with (first
    | (go_at_call 14; ((with_reducible refine cF.mono ?_); clear cF; rintro e w1 ⟨rfl, hb1⟩; rw [HW0.out] at hb1; obtain ⟨k0, kb⟩ := HX.out _ hb1; have z0 := k0.cell 0; have z1 := k0.cell 1; clear k0 kb))
    | (go_at_call 15; ((with_reducible refine (cF2 _ hb1).mono ?_); rintro e w2 ⟨rfl, hb2⟩; have hB2 := hb1.trans (hb2.mono hb1.size); clear z0 z1; obtain ⟨k0, kb⟩ := HX.out _ hB2; have z0 := k0.cell 0; have z1 := k0.cell 1; clear k0 kb))
    | (go_at_call 16; ((with_reducible refine (cC _ hB2).mono ?_); rintro e w3 ⟨ca, cc, rfl, ho, hb3⟩; have hB3 := hB2.trans (hb3.mono hB2.size); have HP := hid (own_its ho).1; clear ho z0 z1; obtain ⟨k0, kb⟩ := HX.out _ hB3; have z0 := k0.cell 0; have z1 := k0.cell 1; clear k0 kb))
    | (go_at_call 17; ((with_reducible refine (cC2 _ hB3).mono ?_); rintro e w4 ⟨da, dc, rfl, ho, hb4⟩; have hB4 := hB3.trans (hb4.mono hB3.size); have HP4 := hid (HP.out.below hb4); have HQ := hid (own_its ho).1; clear ho z0 z1))
    | (go_at_call 18; ((with_reducible refine (same_self ca cc da dc C _ HP4.out HQ.out HLC.out).mono ?_); rintro e w6 ⟨rfl, hb6⟩; have hb := hB4.trans (hb6.mono hB4.size))))
  have hblk := (HX.out _ hb).1.drewN 1
  have hb := below_drewN hb 1
  refine plan.region (by kernel_rfl) ?_
  refine plan.Rest.first 0 _ (.slice la L.length lc) rfl (by kernel_rfl) (by kernel_rfl) (by kernel_rfl) (by kernel_rfl) (fun w' hb' => (by kernel_rfl)) ?_
  refine plan.Rest.first 2 _ (.slice la L.length lc) rfl (by kernel_rfl) (by kernel_rfl) (by kernel_rfl) (by kernel_rfl) (fun w' hb' => (by kernel_rfl)) ?_
  refine plan.Rest.call 1 _ 19 #[.slice la L.length lc] rfl (by kernel_rfl) (by kernel_rfl) (by kernel_rfl) ((cR w6.drew hb).mono ?_)
  rintro e W1 ⟨rfl, hn⟩
  have hb := hb.trans (hn.mono hb.size)
  have hblk := hblk.later hn
  refine ⟨_, rfl, hn, ?_⟩
  refine plan.Rest.call 3 _ 20 #[.slice la L.length lc] rfl (by kernel_rfl) (by kernel_rfl) (by kernel_rfl) ((cR2 W1 hb).mono ?_)
  rintro e W2 ⟨rfl, hn⟩
  have hb := hb.trans (hn.mono hb.size)
  have hblk := hblk.later hn
  refine ⟨_, rfl, hn, ?_⟩
  refine plan.Rest.first 4 _ (.bool true) rfl (by kernel_rfl) (by kernel_rfl) (by kernel_rfl) (by kernel_rfl) (fun w' hb' => (exec_eql_bool (r := r) rfl (by kernel_rfl) (by kernel_rfl))) ?_
  refine plan.Rest.first 5 _ (.bool true) rfl (by kernel_rfl) (by kernel_rfl) (by kernel_rfl) (by kernel_rfl) (fun w' hb' => (by kernel_rfl)) ?_
  refine plan.Rest.first 6 _ (.slice la L.length lc) rfl (by kernel_rfl) (by kernel_rfl) (by kernel_rfl) (by kernel_rfl) (fun w' hb' => (by kernel_rfl)) ?_
  refine plan.Rest.first 7 _ (.slice ma M.length mc) rfl (by kernel_rfl) (by kernel_rfl) (by kernel_rfl) (by kernel_rfl) (fun w' hb' => (by kernel_rfl)) ?_
  refine plan.Rest.first 9 _ (.slice la L.length lc) rfl (by kernel_rfl) (by kernel_rfl) (by kernel_rfl) (by kernel_rfl) (fun w' hb' => (by kernel_rfl)) ?_
  refine plan.Rest.first 10 _ (.slice ma M.length mc) rfl (by kernel_rfl) (by kernel_rfl) (by kernel_rfl) (by kernel_rfl) (fun w' hb' => (by kernel_rfl)) ?_
  refine plan.Rest.call 8 _ 21 #[.slice la L.length lc, .slice ma M.length mc] rfl (by kernel_rfl) (by kernel_rfl) (by kernel_rfl) ((cS W2 hb).mono ?_)
  rintro e W3 ⟨rfl, hn⟩
  have hb := hb.trans (hn.mono hb.size)
  have hblk := hblk.later hn
  refine ⟨_, rfl, hn, ?_⟩
  refine plan.Rest.call 11 _ 18 #[.slice la L.length lc, .slice ma M.length mc] rfl (by kernel_rfl) (by kernel_rfl) (by kernel_rfl) ((cS2 W3 hb).mono ?_)
  rintro e W4 ⟨rfl, hn⟩
  have hb := hb.trans (hn.mono hb.size)
  have hblk := hblk.later hn
  refine ⟨_, rfl, hn, ?_⟩
  refine plan.Rest.first 12 _ (.bool true) rfl (by kernel_rfl) (by kernel_rfl) (by kernel_rfl) (by kernel_rfl) (fun w' hb' => (exec_eql_bool (r := s) rfl (by kernel_rfl) (by kernel_rfl))) ?_
  refine plan.Rest.first 13 _ (.bool true) rfl (by kernel_rfl) (by kernel_rfl) (by kernel_rfl) (by kernel_rfl) (fun w' hb' => (by kernel_rfl)) ?_
  refine plan.Rest.first 14 _ (.bool true) rfl (by kernel_rfl) (by kernel_rfl) (by kernel_rfl) (by kernel_rfl) (fun w' hb' => (by kernel_rfl)) ?_
  refine plan.Rest.first 15 _ (.slice la L.length lc) rfl (by kernel_rfl) (by kernel_rfl) (by kernel_rfl) (by kernel_rfl) (fun w' hb' => (by kernel_rfl)) ?_
  refine plan.Rest.first 16 _ (.agg #[.int .u32 (x.key : Nat), .string x.data]) rfl (by kernel_rfl) (by kernel_rfl) (by kernel_rfl) (by kernel_rfl) (fun w' hb' => plan.exec_load rfl (by kernel_rfl) (hblk.later hb').whole Try.underlying37 rfl HLL.out) ?_
  refine plan.Rest.first 18 _ (.slice la L.length lc) rfl (by kernel_rfl) (by kernel_rfl) (by kernel_rfl) (by kernel_rfl) (fun w' hb' => (by kernel_rfl)) ?_
  refine plan.Rest.first 19 _ (.agg #[.int .u32 (x.key : Nat), .string x.data]) rfl (by kernel_rfl) (by kernel_rfl) (by kernel_rfl) (by kernel_rfl) (fun w' hb' => plan.exec_load rfl (by kernel_rfl) (hblk.later hb').whole Try.underlying37 rfl HLL.out) ?_
  refine plan.Rest.call 17 _ 22 #[.slice la L.length lc, .agg #[.int .u32 (x.key : Nat), .string x.data]] rfl (by kernel_rfl) (by kernel_rfl) (by kernel_rfl) ((cP W4 hb).mono ?_)
  rintro e W5 ⟨pa, pc, rfl, ho, hn⟩
  have hp := (own_its ho).1
  clear ho
  have hb := hb.trans (hn.mono hb.size)
  have hblk := hblk.later hn
  refine ⟨_, rfl, hn, ?_⟩
  refine plan.Rest.call 20 _ 23 #[.slice la L.length lc, .agg #[.int .u32 (x.key : Nat), .string x.data]] rfl (by kernel_rfl) (by kernel_rfl) (by kernel_rfl) ((cP2 W5 hb).mono ?_)
  rintro e W6 ⟨qa, qc, rfl, ho, hn⟩
  have hp := hp.below hn
  have hq := (own_its ho).1
  clear ho
  have hb := hb.trans (hn.mono hb.size)
  have hblk := hblk.later hn
  refine ⟨_, rfl, hn, ?_⟩
  refine plan.Rest.call 21 _ 18 #[.slice pa P.length pc, .slice qa P.length qc] rfl (by kernel_rfl) (by kernel_rfl) (by kernel_rfl) ((same_self pa pc qa qc P W6 hp hq HLP.out).mono ?_)
  rintro e W7 ⟨rfl, hn⟩
  clear hp hq
  have hb := hb.trans (hn.mono hb.size)
  have hblk := hblk.later hn
  refine ⟨_, rfl, hn, ?_⟩
  refine plan.Rest.first 22 _ (.bool true) rfl (by kernel_rfl) (by kernel_rfl) (by kernel_rfl) (by kernel_rfl) (fun w' hb' => (by kernel_rfl)) ?_
  refine plan.Rest.first 23 _ (.bool true) rfl (by kernel_rfl) (by kernel_rfl) (by kernel_rfl) (by kernel_rfl) (fun w' hb' => (by kernel_rfl)) ?_
  refine plan.Rest.first 24 _ (.slice la L.length lc) rfl (by kernel_rfl) (by kernel_rfl) (by kernel_rfl) (by kernel_rfl) (fun w' hb' => (by kernel_rfl)) ?_
  refine plan.Rest.first 26 _ (.slice la L.length lc) rfl (by kernel_rfl) (by kernel_rfl) (by kernel_rfl) (by kernel_rfl) (fun w' hb' => (by kernel_rfl)) ?_
  refine plan.Rest.call 25 _ 24 #[.slice la L.length lc] rfl (by kernel_rfl) (by kernel_rfl) (by kernel_rfl) ((cM W7 hb).mono ?_)
  rintro e W8 ⟨pa, pc, rfl, ho, hn⟩
  have hp := (own_its ho).1
  clear ho
  have hb := hb.trans (hn.mono hb.size)
  have hblk := hblk.later hn
  refine ⟨_, rfl, hn, ?_⟩
  refine plan.Rest.call 27 _ 25 #[.slice la L.length lc] rfl (by kernel_rfl) (by kernel_rfl) (by kernel_rfl) ((cM2 W8 hb).mono ?_)
  rintro e W9 ⟨qa, qc, rfl, ho, hn⟩
  have hp := hp.below hn
  have hq := (own_its ho).1
  clear ho
  have hb := hb.trans (hn.mono hb.size)
  have hblk := hblk.later hn
  refine ⟨_, rfl, hn, ?_⟩
  refine plan.Rest.call 28 _ 18 #[.slice pa A.length pc, .slice qa A.length qc] rfl (by kernel_rfl) (by kernel_rfl) (by kernel_rfl) ((same_self pa pc qa qc A W9 hp hq HLA.out).mono ?_)
  rintro e W10 ⟨rfl, hn⟩
  clear hp hq
  have hb := hb.trans (hn.mono hb.size)
  have hblk := hblk.later hn
  refine ⟨_, rfl, hn, ?_⟩
  refine plan.Rest.first 29 _ (.bool true) rfl (by kernel_rfl) (by kernel_rfl) (by kernel_rfl) (by kernel_rfl) (fun w' hb' => (by kernel_rfl)) ?_
  refine plan.Rest.first 30 _ (.bool true) rfl (by kernel_rfl) (by kernel_rfl) (by kernel_rfl) (by kernel_rfl) (fun w' hb' => (by kernel_rfl)) ?_
  refine plan.Rest.first 31 _ (.slice la L.length lc) rfl (by kernel_rfl) (by kernel_rfl) (by kernel_rfl) (by kernel_rfl) (fun w' hb' => (by kernel_rfl)) ?_
  refine plan.Rest.first 33 _ (.slice la L.length lc) rfl (by kernel_rfl) (by kernel_rfl) (by kernel_rfl) (by kernel_rfl) (fun w' hb' => (by kernel_rfl)) ?_
  refine plan.Rest.call 32 _ 26 #[.slice la L.length lc] rfl (by kernel_rfl) (by kernel_rfl) (by kernel_rfl) ((cB W10 hb).mono ?_)
  rintro e W11 ⟨pa, pc, rfl, ho, hn⟩
  have hp := (own_its ho).1
  clear ho
  have hb := hb.trans (hn.mono hb.size)
  have hblk := hblk.later hn
  refine ⟨_, rfl, hn, ?_⟩
  refine plan.Rest.call 34 _ 27 #[.slice la L.length lc] rfl (by kernel_rfl) (by kernel_rfl) (by kernel_rfl) ((cB2 W11 hb).mono ?_)
  rintro e W12 ⟨qa, qc, rfl, ho, hn⟩
  have hp := hp.below hn
  have hq := (own_its ho).1
  clear ho
  have hb := hb.trans (hn.mono hb.size)
  have hblk := hblk.later hn
  refine ⟨_, rfl, hn, ?_⟩
  refine plan.Rest.call 35 _ 18 #[.slice pa B.length pc, .slice qa B.length qc] rfl (by kernel_rfl) (by kernel_rfl) (by kernel_rfl) ((same_self pa pc qa qc B W12 hp hq HLB.out).mono ?_)
  rintro e W13 ⟨rfl, hn⟩
  clear hp hq
  have hb := hb.trans (hn.mono hb.size)
  have hblk := hblk.later hn
  refine ⟨_, rfl, hn, ?_⟩
  refine plan.Rest.first 36 _ (.bool true) rfl (by kernel_rfl) (by kernel_rfl) (by kernel_rfl) (by kernel_rfl) (fun w' hb' => (by kernel_rfl)) ?_
  refine plan.Rest.first 37 _ (.bool true) rfl (by kernel_rfl) (by kernel_rfl) (by kernel_rfl) (by kernel_rfl) (fun w' hb' => (by kernel_rfl)) ?_
  refine plan.Rest.call 38 _ 11 #[] rfl (by kernel_rfl) (by kernel_rfl) (by kernel_rfl) ((cA W13).mono ?_)
  rintro e W14 ⟨rfl, hn⟩
  have hb := hb.trans (hn.mono hb.size)
  have hblk := hblk.later hn
  refine ⟨_, rfl, hn, ?_⟩
  refine plan.Rest.first 39 _ (.bool true) rfl (by kernel_rfl) (by kernel_rfl) (by kernel_rfl) (by kernel_rfl) (fun w' hb' => (by kernel_rfl)) ?_
  refine plan.Rest.value 40 _ (.bool true) rfl (by kernel_rfl) (by kernel_rfl) (by kernel_rfl) ?_
  refine plan.Rest.done (by kernel_rfl) ?_
  go_wp2
  exact bodyPost_ret (v := .bool true) (by kernel_rfl) (by kernel_rfl) ⟨rfl, (HX.out _ hb).2⟩
theorem walk (la : Option Addr) (lc : Nat) (L : List It) (ma : Option Addr) (mc : Nat) (M : List It) (x : It) (w : World) (hl : Its w la L) (hgl : ∀ p ∈ L, p.Good w) (hll : L.length ≤ lc) (hml : lc ≤ maxLen) (ul : lc ≤ 1048576) (hm : Its w ma M) (hgm : ∀ p ∈ M, p.Good w) (hlm : M.length ≤ mc) (hmm : mc ≤ maxLen) (um : mc ≤ 1048576) (hx : x.Good w) :
    Calls Try.prog 4 #[.slice la L.length lc, .slice ma M.length mc, x.val] w (Yes w) := walk0 la lc L ma mc M x w hl hm (by omega) (by omega) hx.bkey (fun p hp => (hgl p hp).bkey)
end Go.Proofs.Ytccaibdklgkgeaa.itemLists
