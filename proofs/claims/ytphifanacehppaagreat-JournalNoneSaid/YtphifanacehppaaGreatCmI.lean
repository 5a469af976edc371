/- Contracts and lemmas that the claims of this seat share: FrameSame, JournalCheck, JournalTurn, JournalAdd, JournalLay, JournalDo, Perm, Plan. Each says its own conditions. -/
import Derived.Test.YtphifanacehppaaGreatCmA
import Derived.Test.YtphifanacehppaaGreatCmG
import Derived.Test.YtphifanacehppaaGreatCmH
import Derived.Test.YtphifanacehppaaGreatCmF
import Derived.Handy
import Derived.IntWalk
import Derived.Test.YtphifanacehppaaGreatCmC
import Derived.Deep.MidRow
import Derived.Laws.StructEq
import Derived.Below
/- Contract of the reference's Same of layer 1 at two slices of the same length. -/
namespace Go.Proofs.YtphifanacehppaaGreat.word
open Go.RowKit
set_option linter.unusedVariables false

theorem take_succ_getD (xs : List Nat) (k : Nat) (h : k < xs.length) : xs.take (k + 1) = xs.take k ++ [xs.getD k 0] := by
  rw [List.take_succ_eq_append_getElem h, List.getD_eq_getElem?_getD, List.getElem?_eq_getElem h]; rfl
set_option maxHeartbeats 1600000 in
theorem sameB_any (a b : Option Addr) (len ca cb : Nat) (xs ys : List Nat) (w : World) (ha : Reads .u32 w a len xs) (hb : Reads .u32 w b len ys) (hl : len * 4 ≤ 140737488355328) :
    Calls Tryz.prog 18 #[.slice a len ca, .slice b len cb] w (Quiet (.bool (decide (xs = ys))) w) := by
  have hq : ((len : Int) != len) = false := by simp
  have hlx := ha.1
  have hly := hb.1
  generalize hd : decide (xs = ys) = d
  have HD := hid hd
  clear hd
  go_enter Tryz.func18, Tryz.ntmps18
  go_wp2
  go_loopw [5] (fun i wr => ∃ k : Nat, k ≤ len ∧ i = .int .i64 k ∧ Hid (xs.take k = ys.take k) ∧ ∃ m, wr = w.drewN m) (fun i _ => len - (intOf i).toNat)
  case atStart => exact ⟨0, Nat.zero_le _, rfl, hid (by simp), 0, rfl⟩
  case round =>
    obtain ⟨k, hk, rfl, HT, m, rfl⟩ := hrel
    by_cases hlt : k < len
    · obtain ⟨b1, o1, rfl, _, hc1⟩ := ha.at hlt
      obtain ⟨b2, o2, rfl, _, hc2⟩ := hb.at hlt
      have c1 := hc1 k hlt
      have c2 := hc2 k hlt
      have i1 : (k : Int) < len := by omega
      have HX := hid (take_succ_getD xs k (by omega))
      have HY := hid (take_succ_getD ys k (by omega))
      have HN : Hid (xs.getD k 0 ≠ ys.getD k 0 → d = false) := hid (fun h => by
        rw [← HD.out, decide_eq_false_iff_not]; intro he; exact h (by rw [he]))
      clear hc1 hc2
      generalize xs.getD k 0 = x1 at *
      generalize ys.getD k 0 = y1 at *
      have c1' : (w.drewN m).cell? ⟨b1, o1 + k, none⟩ = some (.int .u32 (x1 : Int)) := c1
      have c2' : (w.drewN m).cell? ⟨b2, o2 + k, none⟩ = some (.int .u32 (y1 : Int)) := c2
      by_cases he : x1 = y1
      · subst he
        have hn : ((x1 : Int) != x1) = false := by simp
        go_wp2
        go_quiet (fail)
        go_wp2
        exact ⟨⟨k + 1, by omega, by go_num, hid (by rw [HX.out, HY.out, HT.out]), ⟨_, rfl⟩⟩, by simp [intOf]; omega⟩
      · have hn : ((x1 : Int) != y1) = true := by rw [bne_iff_ne]; omega
        have HE := hid he
        clear he
        go_wp2
        go_quiet (fail)
        go_wp2
        go_ret
        exact ⟨ret_bool (HN.out HE.out).symm, m + nq, by rw [World.drewN_drewN]⟩
    · go_wp2
      go_ret
      refine ⟨ret_bool ?_, _, rfl⟩
      rw [← HD.out]
      symm
      rw [decide_eq_true_eq]
      have := HT.out
      rwa [List.take_of_length_le (by omega), List.take_of_length_le (by omega)] at this
end Go.Proofs.YtphifanacehppaaGreat.word
/- Contracts of a journal's checked, ready, worn and next. No condition. -/
namespace Go.Proofs.YtphifanacehppaaGreat.journal
open Go.RowKit Go.Proofs.YtphifanacehppaaGreat.flash Go.Proofs.YtphifanacehppaaGreat.geom
set_option linter.unusedVariables false

def allB (ls : List Nat) : Bool := ls.all fun n => decide (1 ≤ n ∧ n ≤ 56)
theorem allB_take {ls : List Nat} {k : Nat} (hk : k < ls.length) : allB (ls.take (k + 1)) = (allB (ls.take k) && decide (1 ≤ ls.getD k 0 ∧ ls.getD k 0 ≤ 56)) := by
  unfold allB
  rw [word.take_succ_getD ls k hk, List.all_append]
  simp
/-- loads of those lengths in a row of slices -/
def Lens (w : World) (r : Nat) (ls : List Nat) : Prop := r < w.heap.size ∧ ∀ i, i < ls.length → ∃ x c, w.cell? ⟨r, i, none⟩ = some (.slice x (ls.getD i 0) c)
theorem Lens.one (w : World) (x : Option Addr) (n c : Nat) : Lens (w.alloc (.cells #[.slice x n c] 24)) w.heap.size [n] :=
  ⟨by simp, fun i hi => by
    obtain rfl : i = 0 := by simp at hi; omega
    exact ⟨x, c, (Block.new w 24 [.slice x n c]).cell 0⟩⟩
theorem Lens.two (w : World) (x y : Option Addr) (n c m k : Nat) : Lens (w.alloc (.cells #[.slice x n c, .slice y m k] 24)) w.heap.size [n, m] :=
  ⟨by simp, fun i hi => by
    have hi' : i = 0 ∨ i = 1 := by simp at hi; omega
    rcases hi' with rfl | rfl
    · exact ⟨x, c, (Block.new w 24 [.slice x n c, .slice y m k]).cell 0⟩
    · exact ⟨y, k, (Block.new w 24 [.slice x n c, .slice y m k]).cell 1⟩⟩
theorem checked_any (r N cap : Nat) (ls : List Nat) (w : World) (h : Lens w r ls) (hN : ls.length = N) (hN2 : N ≤ 1000) (hls : ∀ n ∈ ls, n ≤ 4611686018427387904) :
    Calls Tryz.prog 55 #[.slice (some ⟨r, 0, none⟩) N cap] w (Quiet (.int .i64 (if allB ls = true then 0 else 2)) w) := by
  have HL := hid h
  have HN := hid hN
  have HLS := hid hls
  obtain ⟨R, hR⟩ : ∃ R : Int, Hid ((if allB ls = true then (0 : Int) else 2) = R) := ⟨_, rfl⟩
  rw [hR.out]
  clear h hN hls
  go_enter Tryz.func55, Tryz.ntmps55
  go_wp2
  go_loopw [7] (fun i wr => ∃ k : Nat, k ≤ N ∧ i = .int .i64 (k : Int) ∧ Hid (allB (ls.take k) = true) ∧ ∃ m, wr = w.drewN m) (fun i _ => N - (intOf i).toNat)
  case atStart => exact ⟨0, Nat.zero_le _, rfl, hid rfl, 0, rfl⟩
  case round =>
    obtain ⟨k, hk, rfl, hall, m, rfl⟩ := hrel
    by_cases hlt : k < N
    · obtain ⟨x, c, hc⟩ := HL.out.2 k (by rw [HN.out]; exact hlt)
      have hc' : (w.drewN m).cell? ⟨r, k, none⟩ = some (.slice x (ls.getD k 0) c) := hc
      have HT := hid (allB_take (ls := ls) (k := k) (by rw [HN.out]; exact hlt))
      have hle : ls.getD k 0 ≤ 4611686018427387904 := by
        rw [List.getD_eq_getElem?_getD, List.getElem?_eq_getElem (by rw [HN.out]; exact hlt)]
        exact HLS.out _ (List.getElem_mem _)
      have i1 : (k : Int) < N := by omega
      have cs := fun w' => frame.size_any ((ls.getD k 0 : Nat) : Int) w'
      generalize ls.getD k 0 = n at *
      by_cases hn : 1 ≤ n ∧ n ≤ 56
      · have hz : frame.sizeI (n : Int) = (n : Int) + 3 := by unfold frame.sizeI; rw [if_pos (by omega)]
        rw [hz] at cs
        have q0 : ((n : Int) + 3 == 0) = false := by simp; omega
        have HNN := hid hn
        clear hz hn
        go_wp2_with (go_at_call 77; ((with_reducible refine (cs _).mono ?_); rintro e w' ⟨rfl, m1, rfl⟩))
        refine ⟨⟨k + 1, by omega, by go_num, hid ?_, _, rfl⟩, ?_⟩
        · rw [HT.out, hall.out, decide_eq_true HNN.out]; rfl
        · simp [intOf]; omega
      · have hz : frame.sizeI (n : Int) = 0 := by unfold frame.sizeI; rw [if_neg (by omega)]
        rw [hz] at cs
        have HNN := hid hn
        clear hz hn
        go_wp2_with (go_at_call 77; ((with_reducible refine (cs _).mono ?_); rintro e w' ⟨rfl, m1, rfl⟩))
        go_ret
        have hno : allB ls = false := by
          rw [Bool.eq_false_iff]
          intro ha
          have h1 : allB (ls.take (k + 1)) = true := by
            unfold allB at ha ⊢
            rw [List.all_eq_true] at ha ⊢
            exact fun y hy => ha y (List.mem_of_mem_take hy)
          rw [HT.out, decide_eq_false HNN.out] at h1
          simp at h1
        exact ⟨ret_int (by rw [← hR.out, hno]; rfl), _, rfl⟩
    · obtain rfl : k = N := by omega
      go_wp2
      go_ret
      have hyes : allB ls = true := by
        have := hall.out
        rwa [List.take_of_length_le (by rw [HN.out]; exact Nat.le_refl _)] at this
      exact ⟨ret_int (by rw [← hR.out, hyes]; rfl), m, rfl⟩
theorem ready_none (x : Option Addr) (n c : Nat) (w : World) : Calls Tryz.prog 47 #[.pointer none, .slice x n c] w (Quiet (.int .i64 1) w) := by
  go_enter Tryz.func47, Tryz.ntmps47
  go_wp2
  go_ret
  exact ⟨rfl, 0, rfl⟩
theorem ready_this (j r N cap : Nat) (ls : List Nat) (w : World) (h : Lens w r ls) (hN : ls.length = N) (hN2 : N ≤ 1000) (hls : ∀ n ∈ ls, n ≤ 4611686018427387904) :
    Calls Tryz.prog 47 #[.pointer (some ⟨j, 0, none⟩), .slice (some ⟨r, 0, none⟩) N cap] w (Quiet (.int .i64 (if allB ls = true then 0 else 2)) w) := by
  have cc := checked_any r N cap ls w h hN hN2 hls
  generalize (if allB ls = true then (0 : Int) else 2) = R at *
  clear h hN hls
  go_enter Tryz.func47, Tryz.ntmps47
  go_wp2_with (go_at_call 55; ((with_reducible refine cc.mono ?_); rintro e w' ⟨rfl, m1, rfl⟩))
  go_ret
  exact ⟨rfl, _, rfl⟩
theorem geometry_from {S : Nat → Prop} {d b : Nat} {g : Geo} {F : Fl} {w0 w : World} (h : drive.DriveAt S d b g F w0) (hb : Below w0.heap.size w0 w) : Calls Tryz.prog 44 #[.pointer (some ⟨d, 0, none⟩)] w fun e w' => e = .returned (.agg #[.int .i64 g.sector, .int .i64 g.slot, .int .i64 g.data, .int .i64 g.quota, .int .i64 g.tries, .int .i64 g.life]) ∧ Below w0.heap.size w0 w' :=
  (drive.geometry_any (h.later hb)).mono fun _ _ ⟨he, hw⟩ => ⟨he, hb.trans (hw.mono hb.size)⟩
theorem worn_this {M S X : Nat → Prop} {j d b : Nat} {g : Geo} {F : Fl} {J : Jv} {wv cv : Value} {w : World} (h : JIn M S X j d b g F J wv cv w) (hq : J.p.seq ≤ 1073741823) :
    Calls Tryz.prog 48 #[.pointer (some ⟨j, 0, none⟩)] w fun e w' => e = .returned (.bool (decide (g.life ≤ J.p.seq))) ∧ Below w.heap.size w w' := by
  have HS := h.seen
  have hk0 := HS.out w (Below.refl _ _)
  have hB0 : Below w.heap.size w w.drew := below_drewN (Below.refl _ _) 1
  have hk1 := HS.out _ hB0
  have cg := geometry_from h.dr hB0
  have hfd : ∀ W, (Instr.field 23 (.agg #[.int .i64 g.sector, .int .i64 g.slot, .int .i64 g.data, .int .i64 g.quota, .int .i64 g.tries, .int .i64 g.life]) 5).run Tryz.prog W = .ok (.int .i64 g.life) W := fun W => by kernel_rfl
  generalize (J.p.seq : Int) = q at *
  clear h
  go_enter Tryz.func48, Tryz.ntmps48
  go_wp2
  go_region_held3 (fun w' => w'.cell? ⟨j, 0, none⟩ = some (.pointer (some ⟨d, 0, none⟩)) ∧ w'.cell? ⟨j, 2, none⟩ = some (.int .i64 q)) (first | assumption | go_keep) (
    (go_at_call 44; (with_reducible refine cg.mono ?_); rintro e w1 ⟨rfl, hb1⟩; have hk2 := HS.out w1 hb1))
  go_wp2
  go_ret
  exact ⟨by first | rfl | exact ret_bool rfl | exact ret_bool (by rw [Bool.eq_iff_iff]; simp), hb1⟩
theorem next_this {M S X : Nat → Prop} {j d b : Nat} {g : Geo} {F : Fl} {J : Jv} {wv cv : Value} {w : World} (h : JIn M S X j d b g F J wv cv w) (hq : J.p.seq < 1073741823) (k : Nat) (hk : k = 1 ∨ k = 2) (x : Option Addr) (n c : Nat) (L : List Nat)
    (hr : Reads .u32 w x n L) (hL : ∀ y ∈ L, y < 4294967296) (hb : loadB L = true) :
    Calls Tryz.prog 71 #[.pointer (some ⟨j, 0, none⟩), .int .i64 (k : Int), .slice x n c] w fun e w' => ∃ q c', e = .returned (.tuple #[.slice (some ⟨q, 0, none⟩) (n + 3) c', .int .i64 0]) ∧
      w.heap.size ≤ q ∧ Row w' 43 .u32 q c' (frame.words k (J.p.seq + 1) L) ∧ Below w.heap.size w w' := by
  have hk0 := h.cells
  have hb' := of_decide_eq_true hb
  have hn : L.length = n := hr.1
  have hok : frame.okB (k : Int) ((J.p.seq + 1 : Nat) : Int) n = true := frame.okB_true.2 ⟨by omega, by omega, by omega, by omega, by omega⟩
  have cl := frame.lay_yes k (J.p.seq + 1) x n c L w hr hL hok
  rw [show ((J.p.seq + 1 : Nat) : Int) = (J.p.seq : Int) + 1 by omega] at cl
  have i1 : (J.p.seq : Int) < 1073741823 := by omega
  generalize frame.words k (J.p.seq + 1) L = W at *
  clear h hr hL hb hb' hok hn
  go_enter Tryz.func71, Tryz.ntmps71
  go_wp2_with (go_at_call 95; ((with_reducible refine cl.mono ?_); rintro e w1 ⟨q, c', rfl, hq, hrow, hb1⟩))
  go_ret2
  exact ⟨q, c', rfl, hq, hrow, hb1⟩
end Go.Proofs.YtphifanacehppaaGreat.journal
/- Contract of a journal's turn. No condition but a flash with fewer than 2^60 writes. -/
namespace Go.Proofs.YtphifanacehppaaGreat.journal
open Go.RowKit Go.Proofs.YtphifanacehppaaGreat.flash Go.Proofs.YtphifanacehppaaGreat.geom
set_option linter.unusedVariables false

theorem scan_words {N : Nat} {p : Part} {k s : Nat} {L : List Nat} (hok : frame.okB (k : Int) (s : Int) L.length = true) (ht : p.takes k s = true) (hN : 1 ≤ N) : scan N p (frame.words k s L) = p.add k s L := by
  have hr := frame.readN_words k s L [] hok
  rw [List.append_nil] at hr
  obtain ⟨m, rfl⟩ : ∃ m, N = m + 1 := ⟨N - 1, by omega⟩
  rw [scan_some hr ht]
  have e : (frame.words k s L).drop (L.length + 3) = [] := List.drop_of_length_le (by rw [frame.words_length]; exact Nat.le_refl _)
  rw [e, scan_none readN_nil]
set_option maxRecDepth 20000 in
theorem turn_this {M S X : Nat → Prop} {j d b : Nat} {g : Geo} {F : Fl} {J : Jv} {wv cv : Value} {w : World} (h : JIn M S X j d b g F J wv cv w) (fits : Fits F g) (hcnt : F.count < 1152921504606846976) (hs : J.sector ≤ 1) (hq : J.p.seq < 1073741823)
    (x : Option Addr) (n c : Nat) (L : List Nat) (hr : Reads .u32 w x n L) (hL : ∀ y ∈ L, y < 4294967296) (hb : loadB L = true) :
    Calls Tryz.prog 49 #[.pointer (some ⟨j, 0, none⟩), .slice x n c] w fun e w' => e = .returned (.int .i64 (turnV F g J L).1) ∧ JTurn M j d b g (turnV F g J L).2.1 (turnV F g J L).2.2 w w' := by
  have hb' := of_decide_eq_true hb
  have hn : L.length = n := hr.1
  have cn := next_this h hq 1 (.inl rfl) x n c L hr hL hb
  rw [show ((1 : Nat) : Int) = 1 from rfl] at cn
  have hW : ∀ y ∈ frame.words 1 (J.p.seq + 1) L, y < 4294967296 := frame.words_lt 1 (J.p.seq + 1) L (by decide) (by omega) hb'.2 hL
  have hWl : (frame.words 1 (J.p.seq + 1) L).length = n + 3 := by rw [frame.words_length, hn]
  have HSC : Hid (∀ N, 1 ≤ N → scan N Part.zero (frame.words 1 (J.p.seq + 1) L) = ⟨J.p.seq + 1, L, [], L.length + 3⟩) := hid fun N hN => by
    have hok : frame.okB ((1 : Nat) : Int) ((J.p.seq + 1 : Nat) : Int) L.length = true := frame.okB_true.2 ⟨.inl rfl, by omega, by omega, hb'.1, hb'.2⟩
    have e := scan_words (N := N) (p := Part.zero) hok rfl hN
    rw [e]
    show Part.mk _ _ _ (0 + (L.length + 3)) = _
    rw [Nat.zero_add]
  have cf : ∀ q c' w1, w.heap.size ≤ q → Row w1 43 .u32 q c' (frame.words 1 (J.p.seq + 1) L) → Below w.heap.size w w1 →
      Calls Tryz.prog 72 #[.pointer (some ⟨d, 0, none⟩), .int .i64 (1 - (J.sector : Int)), .slice (some ⟨q, 0, none⟩) (n + 3) c'] w1
        (Did S b (drive.fresh F g (1 - (J.sector : Int)) (frame.words 1 (J.p.seq + 1) L)).2 (.int .i64 (drive.fresh F g (1 - (J.sector : Int)) (frame.words 1 (J.p.seq + 1) L)).1) w1) := fun q c' w1 hq0 hrow hb1 => by
    have hrd := hrow.reads
    rw [hWl] at hrd
    exact drive.fresh_this (h.later hb1).dr fits.ok fits.ft hcnt (1 - (J.sector : Int)) (some ⟨q, 0, none⟩) (n + 3) c' _ hrd hW (.inr ⟨_, rfl, fun hsq => by
      have := h.lm _ (h.sub _ (.inl hsq))
      have h2 : q < w.heap.size := this
      omega⟩)
  have HE : Hid (((1 - J.sector : Nat) : Int) = 1 - (J.sector : Int)) := hid (by omega)
  unfold turnV turned
  rw [HE.out]
  have HS := h.seen
  have H := hid h
  have hk0 := HS.out w (Below.refl _ _)
  have i1 : (J.sector : Int) ≤ 1 := by omega
  have HWW := hid hW
  have HWL := hid hWl
  have HN := hid hn
  have HB56 := hid hb'
  clear h fits hcnt hr hL hb hn hb' hW hWl
  generalize hWe : frame.words 1 (J.p.seq + 1) L = W at *
  have HWE := hid hWe
  clear hWe
  generalize drive.fresh F g (1 - (J.sector : Int)) W = R at *
  obtain ⟨z, G⟩ := R
  simp only at *
  by_cases hz : z = 0
  · subst hz
    rw [if_neg (fun h => h rfl)]
    go_enter Tryz.func49, Tryz.ntmps49
    go_wp2_with (first
      | (go_at_call 71; ((with_reducible refine cn.mono ?_); rintro e w1 ⟨q, c', rfl, hq0, hrow, hb1⟩; have hk1 := HS.out w1 hb1))
      | (go_at_call 72; ((with_reducible refine (cf _ _ _ hq0 hrow hb1).mono ?_); rintro e w2 ⟨rfl, ht⟩; obtain ⟨S', h2, h3, h4⟩ := (H.out.later hb1).turn ht; have hk2 := h2.cells; have f1 := h2.blk.frozen 1; have f2 := h2.blk.frozen 2; have f3 := h2.blk.frozen 3; have f4 := h2.blk.frozen 4; have f5 := h2.blk.frozen 5; have f6 := h2.blk.frozen 6; have H2 := hid h2; have H3 := hid h3; have H4 := hid h4; have HB1 := hid hb1; have HQ0 := hid hq0; have HROW := hid hrow; clear h2 h3 h4 hq0 hrow)))
    obtain ⟨w3, hw3⟩ : ∃ y, Hid (((((((w2.setCell ⟨j, 1, none⟩ (.int .i64 (1 - (J.sector : Int)))).setCell ⟨j, 2, none⟩ (.int .i64 0)).setCell ⟨j, 3, none⟩ (.slice none 0 0)).setCell ⟨j, 4, none⟩ (.slice none 0 0)).setCell ⟨j, 5, none⟩ (.int .i64 0)).setCell ⟨j, 6, none⟩ (.bool false)) = y) := ⟨_, rfl⟩
    have hB3 := (((((H2.out.blk.setCell 1 (.int .i64 (1 - (J.sector : Int)))).setCell 2 (.int .i64 0)).setCell 3 (.slice none 0 0)).setCell 4 (.slice none 0 0)).setCell 5 (.int .i64 0)).setCell 6 (.bool false)
    have hO3 : Only (fun y => y = j ∨ X y) w2 w3 := by
      rw [← hw3.out]
      exact ((((((Only.refl (fun y => y = j ∨ X y) w2).setCell (g := j) (.inl (.inl rfl)) 1 _).setCell (g := j) (.inl (.inl rfl)) 2 _).setCell (g := j) (.inl (.inl rfl)) 3 _).setCell (g := j) (.inl (.inl rfl)) 4 _).setCell (g := j) (.inl (.inl rfl)) 5 _).setCell (g := j) (.inl (.inl rfl)) 6 _
    rw [hw3.out] at hB3 ⊢
    have hB3' : Block w3 j 95 [.pointer (some ⟨d, 0, none⟩), .int .i64 (1 - (J.sector : Int)), .int .i64 ((Part.zero.seq : Nat) : Int), .slice none 0 0, .slice none 0 0, .int .i64 ((Part.zero.tail : Nat) : Int), .bool false] := hB3
    have hjlt : j < w.heap.size := H.out.blk.lt
    have hXlt : ∀ y, X y → y < w.heap.size := fun y hy => H.out.lm y (H.out.sub y (.inr (.inl hy)))
    have hq0 := HQ0.out
    have hs12 := H4.out.size
    have hs23 := hO3.size
    have hs01 := HB1.out.size
    have hqS : ¬ S q := fun hsq => by have := H.out.lm _ (H.out.sub _ (.inl hsq)); omega
    have hrow3 : Row w3 43 .u32 q c' W := (HROW.out.only H4.out hqS).only hO3 (by
      rintro (h1 | h1)
      · omega
      · have := hXlt q h1; omega)
    have hrd := hrow3.reads
    rw [HWL.out] at hrd
    obtain ⟨pad, _, hcl, hcm⟩ := HROW.out
    have cp := read_part (X := X) (b := j) (o := 2) (T := 95) (cs := [.pointer (some ⟨d, 0, none⟩), .int .i64 (1 - (J.sector : Int)), .int .i64 ((Part.zero.seq : Nat) : Int), .slice none 0 0, .slice none 0 0, .int .i64 ((Part.zero.tail : Nat) : Int), .bool false]) Part.zero (some ⟨q, 0, none⟩) (n + 3) c' W w3 hB3' (by simp) rfl rfl rfl rfl LoadAt.nil LoadsAt.nil H.out.xj
      (fun y hy => by have := hXlt y hy; omega) .zero hrd HWW.out (by rw [← HWL.out]; exact hcl) hcm (by have := HN.out; have := HB56.out; show 0 + (n + 3) ≤ 8192; omega)
      (fun y hy => by
        cases hy
        have h2 := hrow3.lt
        exact ⟨h2, show q ≠ j by omega, fun hx => by have h3 : q < w.heap.size := hXlt q hx; omega⟩)
    rw [HSC.out (n + 3) (by omega)] at cp
    have HO3 := hid hO3
    clear hB3 hB3' hO3 hrow3 hrd hcl hcm hXlt
    refine cp.mono ?_
    rintro e w4 ⟨rfl, hdone⟩
    have hr := H2.out.read (A := 1 - J.sector) (R := ⟨J.p.seq + 1, L, [], L.length + 3⟩) (tn := false) (by rw [← HE.out]; rfl) (by simp) HO3.out hdone
    have hfin := JTurn.before HB1.out (JTurn.join (M := M) (w := w1) (fun x hx => ⟨hx.2, hx.1⟩) (H4.out.mono fun x hx _ => H.out.sub x (.inl hx)) hr)
    have HFIN := hid hfin
    clear hfin hr hdone
    go_wp2
    go_ret
    exact ⟨rfl, HFIN.out⟩
  · rw [if_pos hz]
    have hzb : (z != 0) = true := by simpa using hz
    go_enter Tryz.func49, Tryz.ntmps49
    go_wp2_with (first
      | (go_at_call 71; ((with_reducible refine cn.mono ?_); rintro e w1 ⟨q, c', rfl, hq0, hrow, hb1⟩; have hk1 := HS.out w1 hb1))
      | (go_at_call 72; ((with_reducible refine (cf _ _ _ hq0 hrow hb1).mono ?_); rintro e w2 ⟨rfl, ht⟩)))
    go_ret
    exact ⟨rfl, JTurn.before hb1 ((H.out.later hb1).turned ht)⟩
end Go.Proofs.YtphifanacehppaaGreat.journal
/- Contract of a journal's add. No condition but a flash with fewer than 2^60 writes. -/
namespace Go.Proofs.YtphifanacehppaaGreat.journal
open Go.RowKit Go.Proofs.YtphifanacehppaaGreat.flash Go.Proofs.YtphifanacehppaaGreat.geom
set_option linter.unusedVariables false

section
variable {M S X : Nat → Prop} {j d b : Nat} {g : Geo} {F : Fl} {J : Jv} {wv cv : Value} {w : World}
theorem add_worn (h : JIn M S X j d b g F J wv cv w) (hq : J.p.seq ≤ 1073741823) (hl : g.life ≤ J.p.seq) (k : Nat) (x y : Option Addr) (n c m e : Nat) :
    Calls Tryz.prog 50 #[.pointer (some ⟨j, 0, none⟩), .int .i64 (k : Int), .slice x n c, .slice y m e] w fun e w' => e = .returned (.int .i64 13) ∧ JTurn M j d b g F J w w' := by
  have cw := worn_this h hq
  rw [decide_eq_true hl] at cw
  have H := hid h
  clear h
  go_enter Tryz.func50, Tryz.ntmps50
  go_wp2_with (go_at_call 48; ((with_reducible refine cw.mono ?_); rintro e w1 ⟨rfl, hb1⟩))
  go_ret
  exact ⟨rfl, JTurn.of ⟨_, _, _, _, H.out⟩ hb1⟩
theorem next_from (h : JIn M S X j d b g F J wv cv w) (hq : J.p.seq < 1073741823) (k : Nat) (hk : k = 1 ∨ k = 2) (x : Option Addr) (n c : Nat) (L : List Nat) (hr : Reads .u32 w x n L) (hL : ∀ y ∈ L, y < 4294967296) (hb : loadB L = true) (w1 : World) (hb1 : Below w.heap.size w w1) :
    Calls Tryz.prog 71 #[.pointer (some ⟨j, 0, none⟩), .int .i64 (k : Int), .slice x n c] w1 fun e w' => ∃ q c', e = .returned (.tuple #[.slice (some ⟨q, 0, none⟩) (n + 3) c', .int .i64 0]) ∧
      w.heap.size ≤ q ∧ Row w' 43 .u32 q c' (frame.words k (J.p.seq + 1) L) ∧ Below w.heap.size w w' :=
  (next_this (h.later hb1) hq k hk x n c L (hr.below hb1) hL hb).mono fun e w' ⟨q, c', he, hq0, hrow, hb2⟩ => ⟨q, c', he, Nat.le_trans hb1.size hq0, hrow, hb1.trans (hb2.mono hb1.size)⟩
theorem turn_from (h : JIn M S X j d b g F J wv cv w) (fits : Fits F g) (hcnt : F.count < 1152921504606846976) (hs : J.sector ≤ 1) (hq : J.p.seq < 1073741823)
    (x : Option Addr) (n c : Nat) (L : List Nat) (hr : Reads .u32 w x n L) (hL : ∀ y ∈ L, y < 4294967296) (hb : loadB L = true) (w1 : World) (hb1 : Below w.heap.size w w1) :
    Calls Tryz.prog 49 #[.pointer (some ⟨j, 0, none⟩), .slice x n c] w1 fun e w' => e = .returned (.int .i64 (turnV F g J L).1) ∧ JTurn M j d b g (turnV F g J L).2.1 (turnV F g J L).2.2 w w' :=
  (turn_this (h.later hb1) fits hcnt hs hq x n c L (hr.below hb1) hL hb).mono fun e w' ⟨he, k⟩ => ⟨he, JTurn.before hb1 k⟩
set_option maxRecDepth 20000 in
theorem add_torn (h : JIn M S X j d b g F J wv cv w) (fits : Fits F g) (hcnt : F.count < 1152921504606846976) (hs : J.sector ≤ 1) (hq : J.p.seq < 1073741823) (hl : ¬ g.life ≤ J.p.seq) (htn : J.torn = true) (k : Nat) (hk : k = 1 ∨ k = 2) (x y : Option Addr) (n c m e : Nat) (L V : List Nat)
    (hr : Reads .u32 w x n L) (hL : ∀ y ∈ L, y < 4294967296) (hb : loadB L = true) (hr2 : Reads .u32 w y m V) (hV : ∀ y ∈ V, y < 4294967296) (hb2 : loadB V = true) :
    Calls Tryz.prog 50 #[.pointer (some ⟨j, 0, none⟩), .int .i64 (k : Int), .slice x n c, .slice y m e] w fun e w' => e = .returned (.int .i64 (turnV F g J V).1) ∧ JTurn M j d b g (turnV F g J V).2.1 (turnV F g J V).2.2 w w' := by
  have cw := worn_this h (Nat.le_of_lt hq)
  rw [decide_eq_false hl] at cw
  have cn := next_from h hq k hk x n c L hr hL hb
  have ct := turn_from h fits hcnt hs hq y m e V hr2 hV hb2
  have HS := h.seen
  rw [htn] at HS
  generalize turnV F g J V = R at *
  obtain ⟨z, G, K⟩ := R
  simp only at *
  generalize frame.words k (J.p.seq + 1) L = W at *
  clear h fits hcnt hr hL hb hr2 hV hb2
  go_enter Tryz.func50, Tryz.ntmps50
  go_wp2_with (first
    | (go_at_call 48; ((with_reducible refine cw.mono ?_); rintro e w1 ⟨rfl, hb1⟩))
    | (go_at_call 71; ((with_reducible refine (cn _ hb1).mono ?_); rintro e w2 ⟨q, c', rfl, hq0, hrow, hb2⟩; have hk2 := HS.out w2 hb2)))
  go_quiet (fail)
  go_wp2_with (go_at_call 49; ((with_reducible refine (ct _ (below_drewN hb2 _)).mono ?_); rintro e w3 ⟨rfl, ht⟩))
  go_ret
  exact ⟨rfl, ht⟩
set_option maxRecDepth 20000 in
theorem add_full (h : JIn M S X j d b g F J wv cv w) (fits : Fits F g) (hcnt : F.count < 1152921504606846976) (hs : J.sector ≤ 1) (hq : J.p.seq < 1073741823) (htl : (J.p.tail : Int) ≤ g.sector) (hl : ¬ g.life ≤ J.p.seq) (htn : J.torn = false) (k : Nat) (hk : k = 1 ∨ k = 2) (x y : Option Addr) (n c m e : Nat) (L V : List Nat)
    (hfull : g.sector - J.p.tail < (n : Int) + 3)
    (hr : Reads .u32 w x n L) (hL : ∀ y ∈ L, y < 4294967296) (hb : loadB L = true) (hr2 : Reads .u32 w y m V) (hV : ∀ y ∈ V, y < 4294967296) (hb2 : loadB V = true) :
    Calls Tryz.prog 50 #[.pointer (some ⟨j, 0, none⟩), .int .i64 (k : Int), .slice x n c, .slice y m e] w fun e w' => e = .returned (.int .i64 (turnV F g J V).1) ∧ JTurn M j d b g (turnV F g J V).2.1 (turnV F g J V).2.2 w w' := by
  have cw := worn_this h (Nat.le_of_lt hq)
  rw [decide_eq_false hl] at cw
  have cn := next_from h hq k hk x n c L hr hL hb
  have ct := turn_from h fits hcnt hs hq y m e V hr2 hV hb2
  have cg : ∀ w', Below w.heap.size w w' → _ := fun w' hb => geometry_from h.dr hb
  have HS := h.seen
  rw [htn] at HS
  obtain ⟨b1, b2, b3, b4, b5⟩ := fits.bounds
  have hwr : IntKind.i64.wrap (g.sector - (J.p.tail : Int)) = g.sector - (J.p.tail : Int) := IntWalk.i64_in _ (by omega)
  have hfd : ∀ W, (Instr.field 23 (.agg #[.int .i64 g.sector, .int .i64 g.slot, .int .i64 g.data, .int .i64 g.quota, .int .i64 g.tries, .int .i64 g.life]) 0).run Tryz.prog W = .ok (.int .i64 g.sector) W := fun W => by kernel_rfl
  have hn3 : (n : Int) ≤ 56 := by have := of_decide_eq_true hb; have := hr.1; omega
  generalize turnV F g J V = R at *
  obtain ⟨z, G, K⟩ := R
  simp only at *
  generalize frame.words k (J.p.seq + 1) L = W at *
  generalize (J.p.tail : Int) = T at *
  clear h fits hcnt hr hL hb hr2 hV hb2 b3 b4 b5
  go_enter Tryz.func50, Tryz.ntmps50
  go_wp2_with (first
    | (go_at_call 48; ((with_reducible refine cw.mono ?_); rintro e w1 ⟨rfl, hb1⟩))
    | (go_at_call 71; ((with_reducible refine (cn _ hb1).mono ?_); rintro e w2 ⟨q, c', rfl, hq0, hrow, hb2⟩; have hk2 := HS.out w2 hb2)))
  have hB2 : Below w.heap.size w w2.drew := below_drewN hb2 1
  have hk3 := HS.out _ hB2
  go_region_held3 (fun w' => w'.cell? ⟨j, 0, none⟩ = some (.pointer (some ⟨d, 0, none⟩)) ∧ w'.cell? ⟨j, 5, none⟩ = some (.int .i64 T) ∧ w'.cell? ⟨j, 6, none⟩ = some (.bool false)) (first | assumption | go_keep) (
    (go_at_call 44; (with_reducible refine (cg _ hB2).mono ?_); rintro e w3 ⟨rfl, hb3⟩; have hk4 := HS.out w3 hb3))
  go_wp2_with (go_at_call 49; ((with_reducible refine (ct _ hb3).mono ?_); rintro e w4 ⟨rfl, ht⟩))
  go_ret
  exact ⟨rfl, ht⟩
end
end Go.Proofs.YtphifanacehppaaGreat.journal
/- Contract of a journal's add where the frame is laid at the tail, and of add in one form. No condition but a flash with fewer than 2^60 writes. -/
namespace Go.Proofs.YtphifanacehppaaGreat.journal
open Go.RowKit Go.Proofs.YtphifanacehppaaGreat.flash Go.Proofs.YtphifanacehppaaGreat.geom
set_option linter.unusedVariables false

section
variable {M S X : Nat → Prop} {j d b : Nat} {g : Geo} {F : Fl} {J : Jv} {wv cv : Value} {w : World}
set_option maxRecDepth 20000 in
set_option maxHeartbeats 1600000 in
theorem add_lay (h : JIn M S X j d b g F J wv cv w) (fits : Fits F g) (hcnt : F.count < 1152921504606846976) (hs : J.sector ≤ 1) (hq : J.p.seq < 1073741823) (hq0 : J.p.seq ≠ 0) (hso : J.p.Sound) (htl : (J.p.tail : Int) ≤ g.sector) (hl : ¬ g.life ≤ J.p.seq) (htn : J.torn = false) (k : Nat) (hk : k = 1 ∨ k = 2) (x y : Option Addr) (n c m e : Nat) (L : List Nat)
    (hfull : ¬ g.sector - J.p.tail < (n : Int) + 3)
    (hr : Reads .u32 w x n L) (hL : ∀ y ∈ L, y < 4294967296) (hb : loadB L = true) :
    Calls Tryz.prog 50 #[.pointer (some ⟨j, 0, none⟩), .int .i64 (k : Int), .slice x n c, .slice y m e] w fun e w' => e = .returned (.int .i64 (layV F g J k L).1) ∧ JTurn M j d b g (layV F g J k L).2.1 (layV F g J k L).2.2 w w' := by
  have hb' := of_decide_eq_true hb
  have hnl : L.length = n := hr.1
  have cw := worn_this h (Nat.le_of_lt hq)
  rw [decide_eq_false hl] at cw
  have cn := next_from h hq k hk x n c L hr hL hb
  have cg : ∀ w', Below w.heap.size w w' → _ := fun w' hb => geometry_from h.dr hb
  have hW : ∀ y ∈ frame.words k (J.p.seq + 1) L, y < 4294967296 := frame.words_lt k (J.p.seq + 1) L (by omega) (by omega) hb'.2 hL
  have hWl : (frame.words k (J.p.seq + 1) L).length = n + 3 := by rw [frame.words_length, hnl]
  have HSC : Hid (scan (n + 3) J.p (frame.words k (J.p.seq + 1) L) = J.p.add k (J.p.seq + 1) L) := hid (by
    have hok : frame.okB ((k : Nat) : Int) ((J.p.seq + 1 : Nat) : Int) L.length = true := frame.okB_true.2 ⟨by omega, by omega, by omega, hb'.1, hb'.2⟩
    exact scan_words hok (by unfold Part.takes; rw [if_neg hq0]; simp) (by omega))
  have cwr : ∀ q c' w1, w.heap.size ≤ q → Row w1 43 .u32 q c' (frame.words k (J.p.seq + 1) L) → Below w.heap.size w w1 →
      Calls Tryz.prog 73 #[.pointer (some ⟨d, 0, none⟩), .int .i64 (J.sector : Int), .int .i64 (J.p.tail : Int), .slice (some ⟨q, 0, none⟩) (n + 3) c'] w1
        (Did S b (drive.write F g J.sector J.p.tail (frame.words k (J.p.seq + 1) L)).2 (.int .i64 (drive.write F g J.sector J.p.tail (frame.words k (J.p.seq + 1) L)).1) w1) := fun q c' w1 hq0 hrow hb1 => by
    have hrd := hrow.reads
    rw [hWl] at hrd
    have hb := fits.bounds
    exact drive.write_this (h.later hb1).dr fits.ok fits.ft (by omega) J.sector J.p.tail (by omega) (some ⟨q, 0, none⟩) (n + 3) c' _ hrd hW (.inr ⟨_, rfl, fun hsq => by
      have := h.lm _ (h.sub _ (.inl hsq))
      have h2 : q < w.heap.size := this
      omega⟩)
  have HS := h.seen
  rw [htn] at HS
  obtain ⟨b1, b2, b3, b4, b5⟩ := fits.bounds
  have hwr : IntKind.i64.wrap (g.sector - (J.p.tail : Int)) = g.sector - (J.p.tail : Int) := IntWalk.i64_in _ (by omega)
  have hfd : ∀ W, (Instr.field 23 (.agg #[.int .i64 g.sector, .int .i64 g.slot, .int .i64 g.data, .int .i64 g.quota, .int .i64 g.tries, .int .i64 g.life]) 0).run Tryz.prog W = .ok (.int .i64 g.sector) W := fun W => by kernel_rfl
  have hn3 : (n : Int) ≤ 56 := by omega
  have HN3 := hid (show n ≤ 56 by omega)
  have HT := hid (show J.p.tail ≤ 1024 by omega)
  have H := hid h
  have HWW := hid hW
  have HWL := hid hWl
  have HSO := hid hso
  unfold layV
  generalize drive.write F g J.sector J.p.tail (frame.words k (J.p.seq + 1) L) = R at *
  obtain ⟨z, G⟩ := R
  simp only at *
  generalize frame.words k (J.p.seq + 1) L = W at *
  obtain ⟨s, p, tn⟩ := J
  simp only at *
  subst htn
  generalize hTe : (p.tail : Int) = T at *
  have HTE := hid hTe
  clear h fits hcnt hr hL hb hb' b3 b4 b5 hW hWl hTe hso hnl hk
  have fin : ∀ q c' w1 w2, w.heap.size ≤ q → Row w1 43 .u32 q c' W → Below w.heap.size w w1 → drive.Turn S b G w1 w2 →
      Calls Tryz.prog 45 #[.pointer (some ⟨j, 2, none⟩), .slice (some ⟨q, 0, none⟩) (n + 3) c'] w2 fun e w' => e = .returned (.tuple #[]) ∧ JTurn M j d b g G ⟨s, p.add k (p.seq + 1) L, false⟩ w w' := fun q c' w1 w2 hq0 hrow hb1 ht => by
    obtain ⟨S', h2, h3, h4⟩ := (H.out.later hb1).turn ht
    have hs12 := h4.size
    have hs01 := hb1.size
    have hqS : ¬ S q := fun hsq => by have := H.out.lm _ (H.out.sub _ (.inl hsq)); omega
    have hrow3 := hrow.only h4 hqS
    have hrd := hrow3.reads
    rw [HWL.out] at hrd
    obtain ⟨pad, _, hcl, hcm⟩ := hrow
    have hjlt : j < w.heap.size := H.out.blk.lt
    have hXlt : ∀ y, X y → y < w.heap.size := fun y hy => H.out.lm y (H.out.sub y (.inr (.inl hy)))
    have cp := read_part (X := X) (b := j) (o := 2) p (some ⟨q, 0, none⟩) (n + 3) c' W w2 h2.blk (by simp) rfl rfl rfl rfl h2.wh h2.ch h2.xj (fun y hy => by have := hXlt y hy; omega) HSO.out hrd HWW.out (by rw [← HWL.out]; exact hcl) hcm (by have := HN3.out; have := HT.out; omega)
      (fun y hy => by
        cases hy
        have h2 := hrow3.lt
        exact ⟨h2, show q ≠ j by omega, fun hx => by have h3 : q < w.heap.size := hXlt q hx; omega⟩)
    rw [HSC.out] at cp
    refine cp.mono ?_
    rintro e w4 ⟨rfl, hdone⟩
    refine ⟨rfl, ?_⟩
    have hr := h2.read (A := s) (R := p.add k (p.seq + 1) L) (tn := false) rfl (by simp) (Only.refl _ _) hdone
    exact JTurn.before hb1 (JTurn.join (M := M) (w := w1) (fun x hx => ⟨hx.2, hx.1⟩) (h4.mono fun x hx _ => H.out.sub x (.inl hx)) hr)
  by_cases hz : z = 0
  · subst hz
    rw [if_neg (fun h => h rfl)]
    simp only
    go_enter Tryz.func50, Tryz.ntmps50
    go_wp2_with (first
      | (go_at_call 48; ((with_reducible refine cw.mono ?_); rintro e w1 ⟨rfl, hb1⟩))
      | (go_at_call 71; ((with_reducible refine (cn _ hb1).mono ?_); rintro e w2 ⟨q, c', rfl, hq0, hrow, hb2⟩; have hk2 := HS.out w2 hb2)))
    have hB2 : Below w.heap.size w w2.drew := below_drewN hb2 1
    have hk3 := HS.out _ hB2
    have hB22 : Below w2.heap.size w2 w2.drew := below_drewN (Below.refl _ _) 1
    have cg3 := geometry_from (H.out.later hb2).dr hB22
    have HROW := hid hrow
    have HQ0 := hid hq0
    clear cg hrow hq0
    go_region_held3 (fun w' => w'.cell? ⟨j, 0, none⟩ = some (.pointer (some ⟨d, 0, none⟩)) ∧ w'.cell? ⟨j, 5, none⟩ = some (.int .i64 T) ∧ w'.cell? ⟨j, 6, none⟩ = some (.bool false)) (first | assumption | go_keep) (
      (go_at_call 44; (with_reducible refine cg3.mono ?_); rintro e w3 ⟨rfl, hb3⟩; have hk4 := HS.out w3 (hb2.trans (hb3.mono hb2.size))))
    have hb3' : Below w.heap.size w w3.drew := below_drewN (hb2.trans (hb3.mono hb2.size)) 1
    have hrow3 : Row w3.drew 43 .u32 q c' W := HROW.out.later (below_drewN hb3 1)
    have hk5 := HS.out _ hb3'
    have cwr3 := cwr q c' _ HQ0.out hrow3 hb3'
    clear cg3 hk2 hk3 cwr
    go_wp2
    go_region_held3 (fun w' => w'.cell? ⟨j, 0, none⟩ = some (.pointer (some ⟨d, 0, none⟩)) ∧ w'.cell? ⟨j, 1, none⟩ = some (.int .i64 (s : Int)) ∧ w'.cell? ⟨j, 5, none⟩ = some (.int .i64 T)) (first | assumption | go_keep) (
      (go_at_call 73; (with_reducible refine cwr3.mono ?_); rintro e w4 ⟨rfl, ht⟩; obtain ⟨S', h2, _, _⟩ := (H.out.later hb3').turn ht; have hk6 := h2.cells; simp only [HTE.out] at hk6))
    have cf := fin q c' _ _ HQ0.out hrow3 hb3' ht
    go_wp2_with (go_at_call 45; ((with_reducible refine cf.mono ?_); rintro e w5 ⟨rfl, hfin⟩))
    go_ret
    exact ⟨rfl, hfin⟩
  · rw [if_pos hz]
    simp only
    have hzb : (z != 0) = true := by simpa using hz
    clear fin
    go_enter Tryz.func50, Tryz.ntmps50
    go_wp2_with (first
      | (go_at_call 48; ((with_reducible refine cw.mono ?_); rintro e w1 ⟨rfl, hb1⟩))
      | (go_at_call 71; ((with_reducible refine (cn _ hb1).mono ?_); rintro e w2 ⟨q, c', rfl, hq0, hrow, hb2⟩; have hk2 := HS.out w2 hb2)))
    have hB2 : Below w.heap.size w w2.drew := below_drewN hb2 1
    have hk3 := HS.out _ hB2
    have hB22 : Below w2.heap.size w2 w2.drew := below_drewN (Below.refl _ _) 1
    have cg3 := geometry_from (H.out.later hb2).dr hB22
    have HROW := hid hrow
    have HQ0 := hid hq0
    clear cg hrow hq0
    go_region_held3 (fun w' => w'.cell? ⟨j, 0, none⟩ = some (.pointer (some ⟨d, 0, none⟩)) ∧ w'.cell? ⟨j, 5, none⟩ = some (.int .i64 T) ∧ w'.cell? ⟨j, 6, none⟩ = some (.bool false)) (first | assumption | go_keep) (
      (go_at_call 44; (with_reducible refine cg3.mono ?_); rintro e w3 ⟨rfl, hb3⟩; have hk4 := HS.out w3 (hb2.trans (hb3.mono hb2.size))))
    have hb3' : Below w.heap.size w w3.drew := below_drewN (hb2.trans (hb3.mono hb2.size)) 1
    have hrow3 : Row w3.drew 43 .u32 q c' W := HROW.out.later (below_drewN hb3 1)
    have hk5 := HS.out _ hb3'
    have cwr3 := cwr q c' _ HQ0.out hrow3 hb3'
    clear cg3 hk2 hk3 cwr
    go_wp2
    go_region_held3 (fun w' => w'.cell? ⟨j, 0, none⟩ = some (.pointer (some ⟨d, 0, none⟩)) ∧ w'.cell? ⟨j, 1, none⟩ = some (.int .i64 (s : Int)) ∧ w'.cell? ⟨j, 5, none⟩ = some (.int .i64 T)) (first | assumption | go_keep) (
      (go_at_call 73; (with_reducible refine cwr3.mono ?_); rintro e w4 ⟨rfl, ht⟩; obtain ⟨S', h2, _, _⟩ := (H.out.later hb3').turn ht; have hk6 := h2.cells; simp only [HTE.out] at hk6))
    go_wp2
    go_ret
    exact ⟨rfl, JTurn.before hb3' ((H.out.later hb3').turned ht)⟩
/-- add, in one form -/
theorem add_this (h : JIn M S X j d b g F J wv cv w) (fits : Fits F g) (hcnt : F.count < 1152921504606846976) (hso : J.Sound g) (hq0 : J.p.seq ≠ 0) (k : Nat) (hk : k = 1 ∨ k = 2) (x y : Option Addr) (n c m e : Nat) (L V : List Nat)
    (hr : Reads .u32 w x n L) (hL : ∀ y ∈ L, y < 4294967296) (hb : loadB L = true) (hr2 : Reads .u32 w y m V) (hV : ∀ y ∈ V, y < 4294967296) (hb2 : loadB V = true) :
    Calls Tryz.prog 50 #[.pointer (some ⟨j, 0, none⟩), .int .i64 (k : Int), .slice x n c, .slice y m e] w fun e w' => e = .returned (.int .i64 (addV F g J k L V).1) ∧ JTurn M j d b g (addV F g J k L V).2.1 (addV F g J k L V).2.2 w w' := by
  have hn : L.length = n := hr.1
  have hlf := fits.bounds.2.2.2.2
  unfold addV
  by_cases hl : g.life ≤ J.p.seq
  · rw [if_pos hl]
    exact add_worn h hso.p.seq hl k x y n c m e
  · rw [if_neg hl]
    by_cases htn : J.torn = true
    · rw [if_pos (show full g J L from .inl htn)]
      exact add_torn h fits hcnt hso.sector (by omega) hl htn k hk x y n c m e L V hr hL hb hr2 hV hb2
    · have htn' : J.torn = false := by simpa using htn
      by_cases hf : g.sector - (J.p.tail : Int) < ((L.length + 3 : Nat) : Int)
      · rw [if_pos (show full g J L from .inr hf)]
        exact add_full h fits hcnt hso.sector (by omega) hso.tail hl htn' k hk x y n c m e L V (by omega) hr hL hb hr2 hV hb2
      · have hnf : ¬ full g J L := by
          rintro (h1 | h1)
          · exact htn h1
          · exact hf h1
        rw [if_neg hnf]
        exact add_lay h fits hcnt hso.sector (by omega) hq0 hso.p hso.tail hl htn' k hk x y n c m e L (by omega) hr hL hb
end
end Go.Proofs.YtphifanacehppaaGreat.journal
/- Contracts of a journal's Change, Put and Mend. No condition but a flash with fewer than 2^60 writes. -/
namespace Go.Proofs.YtphifanacehppaaGreat.journal
open Go.RowKit Go.Proofs.YtphifanacehppaaGreat.flash Go.Proofs.YtphifanacehppaaGreat.geom
set_option linter.unusedVariables false

theorem allB_two {L V : List Nat} : allB [L.length, V.length] = (loadB L && loadB V) := by
  unfold allB loadB
  simp
theorem allB_one {V : List Nat} : allB [V.length] = loadB V := by
  unfold allB loadB
  simp
theorem change_none (x y : Option Addr) (n c m e : Nat) (w : World) : Calls Tryz.prog 26 #[.pointer none, .slice x n c, .slice y m e] w fun o w' => o = .returned (.int .i64 1) ∧ Below w.heap.size w w' := by
  go_enter Tryz.func26, Tryz.ntmps26
  go_wp2_with (go_at_call 47; ((with_reducible refine (ready_none _ _ _ _).mono ?_); rintro e w' ⟨rfl, m1, rfl⟩))
  go_ret
  exact ⟨rfl, below_drewN ((Below.refl _ _).alloc (Nat.le_refl _) _) _⟩
theorem put_none (y : Option Addr) (m e : Nat) (w : World) : Calls Tryz.prog 27 #[.pointer none, .slice y m e] w fun o w' => o = .returned (.int .i64 1) ∧ Below w.heap.size w w' := by
  go_enter Tryz.func27, Tryz.ntmps27
  go_wp2_with (go_at_call 47; ((with_reducible refine (ready_none _ _ _ _).mono ?_); rintro e w' ⟨rfl, m1, rfl⟩))
  go_ret
  exact ⟨rfl, below_drewN ((Below.refl _ _).alloc (Nat.le_refl _) _) _⟩
theorem mend_none (y : Option Addr) (m e : Nat) (w : World) : Calls Tryz.prog 22 #[.pointer none, .slice y m e] w fun o w' => o = .returned (.int .i64 1) ∧ Below w.heap.size w w' := by
  go_enter Tryz.func22, Tryz.ntmps22
  go_wp2_with (go_at_call 47; ((with_reducible refine (ready_none _ _ _ _).mono ?_); rintro e w' ⟨rfl, m1, rfl⟩))
  go_ret
  exact ⟨rfl, below_drewN ((Below.refl _ _).alloc (Nat.le_refl _) _) _⟩
section
variable {M S X : Nat → Prop} {j d b : Nat} {g : Geo} {F : Fl} {J : Jv} {wv cv : Value} {w : World}
theorem change_this (h : JIn M S X j d b g F J wv cv w) (fits : Fits F g) (hcnt : F.count < 1152921504606846976) (hso : J.Sound g) (hq0 : J.p.seq ≠ 0) (x y : Option Addr) (n c m e : Nat) (L V : List Nat)
    (hr : Reads .u32 w x n L) (hL : ∀ y ∈ L, y < 4294967296) (hr2 : Reads .u32 w y m V) (hV : ∀ y ∈ V, y < 4294967296) (hn : n ≤ 4611686018427387904) (hm : m ≤ 4611686018427387904) :
    Calls Tryz.prog 26 #[.pointer (some ⟨j, 0, none⟩), .slice x n c, .slice y m e] w fun o w' => o = .returned (.int .i64 (putV F g J 2 L V).1) ∧ JTurn M j d b g (putV F g J 2 L V).2.1 (putV F g J 2 L V).2.2 w w' := by
  have hln : L.length = n := hr.1
  have hlm : V.length = m := hr2.1
  have hb1 : Below w.heap.size w (w.alloc (.cells #[.slice x n c, .slice y m e] 24)) := (Below.refl _ _).alloc (Nat.le_refl _) _
  have cr := ready_this j w.heap.size 2 2 [n, m] _ (Lens.two w x y n c m e) rfl (by decide) (by intro z hz; simp at hz; rcases hz with rfl | rfl <;> assumption)
  rw [show [n, m] = [L.length, V.length] by rw [hln, hlm], allB_two] at cr
  have H := hid h
  unfold putV
  cases hb : loadB L with
  | false =>
    rw [hb] at cr
    simp only [Bool.false_and, Bool.false_eq_true, if_false] at cr
    rw [if_neg (by simp)]
    clear h fits hcnt hso hr hL hr2 hV hb hln hlm
    go_enter Tryz.func26, Tryz.ntmps26
    go_wp2_with (go_at_call 47; ((with_reducible refine cr.mono ?_); rintro e w' ⟨rfl, m1, rfl⟩))
    go_ret
    exact ⟨rfl, JTurn.of ⟨_, _, _, _, H.out⟩ (below_drewN hb1 m1)⟩
  | true =>
    cases hb2 : loadB V with
    | false =>
      rw [hb, hb2] at cr
      simp only [Bool.and_false, Bool.false_eq_true, if_false] at cr
      rw [if_neg (by simp)]
      clear h fits hcnt hso hr hL hr2 hV hb hb2 hln hlm
      go_enter Tryz.func26, Tryz.ntmps26
      go_wp2_with (go_at_call 47; ((with_reducible refine cr.mono ?_); rintro e w' ⟨rfl, m1, rfl⟩))
      go_ret
      exact ⟨rfl, JTurn.of ⟨_, _, _, _, H.out⟩ (below_drewN hb1 m1)⟩
    | true =>
      rw [hb, hb2] at cr
      simp only [Bool.and_self, if_true] at cr
      rw [if_pos ⟨rfl, rfl⟩]
      have ca : ∀ w1, Below w.heap.size w w1 → Calls Tryz.prog 50 #[.pointer (some ⟨j, 0, none⟩), .int .i64 2, .slice x n c, .slice y m e] w1 fun o w' => o = .returned (.int .i64 (addV F g J 2 L V).1) ∧ JTurn M j d b g (addV F g J 2 L V).2.1 (addV F g J 2 L V).2.2 w w' := fun w1 hb1 =>
        (add_this (h.later hb1) fits hcnt hso hq0 2 (.inr rfl) x y n c m e L V (hr.below hb1) hL hb (hr2.below hb1) hV hb2).mono fun o w' ⟨ho, k⟩ => ⟨ho, JTurn.before hb1 k⟩
      generalize addV F g J 2 L V = R at *
      clear h fits hcnt hso hr hL hr2 hV hb hb2 hln hlm
      go_enter Tryz.func26, Tryz.ntmps26
      go_wp2_with (first
        | (go_at_call 47; ((with_reducible refine cr.mono ?_); rintro e w' ⟨rfl, m1, rfl⟩))
        | (go_at_call 50; ((with_reducible refine (ca _ (below_drewN hb1 _)).mono ?_); rintro e w' ⟨rfl, ht⟩)))
      go_ret
      exact ⟨rfl, ht⟩
theorem put_this (h : JIn M S X j d b g F J wv cv w) (fits : Fits F g) (hcnt : F.count < 1152921504606846976) (hso : J.Sound g) (hq0 : J.p.seq ≠ 0) (y : Option Addr) (m e : Nat) (V : List Nat)
    (hr2 : Reads .u32 w y m V) (hV : ∀ y ∈ V, y < 4294967296) (hm : m ≤ 4611686018427387904) :
    Calls Tryz.prog 27 #[.pointer (some ⟨j, 0, none⟩), .slice y m e] w fun o w' => o = .returned (.int .i64 (putV F g J 1 V V).1) ∧ JTurn M j d b g (putV F g J 1 V V).2.1 (putV F g J 1 V V).2.2 w w' := by
  have hlm : V.length = m := hr2.1
  have hb1 : Below w.heap.size w (w.alloc (.cells #[.slice y m e] 24)) := (Below.refl _ _).alloc (Nat.le_refl _) _
  have cr := ready_this j w.heap.size 1 1 [m] _ (Lens.one w y m e) rfl (by decide) (by intro z hz; simp at hz; subst hz; assumption)
  rw [show [m] = [V.length] by rw [hlm], allB_one] at cr
  have H := hid h
  unfold putV
  cases hb2 : loadB V with
  | false =>
    rw [hb2] at cr
    simp only [Bool.false_eq_true, if_false] at cr
    rw [if_neg (by simp)]
    clear h fits hcnt hso hr2 hV hb2 hlm
    go_enter Tryz.func27, Tryz.ntmps27
    go_wp2_with (go_at_call 47; ((with_reducible refine cr.mono ?_); rintro e w' ⟨rfl, m1, rfl⟩))
    go_ret
    exact ⟨rfl, JTurn.of ⟨_, _, _, _, H.out⟩ (below_drewN hb1 m1)⟩
  | true =>
    rw [hb2] at cr
    simp only [if_true] at cr
    rw [if_pos ⟨rfl, rfl⟩]
    have ca : ∀ w1, Below w.heap.size w w1 → Calls Tryz.prog 50 #[.pointer (some ⟨j, 0, none⟩), .int .i64 1, .slice y m e, .slice y m e] w1 fun o w' => o = .returned (.int .i64 (addV F g J 1 V V).1) ∧ JTurn M j d b g (addV F g J 1 V V).2.1 (addV F g J 1 V V).2.2 w w' := fun w1 hb1 =>
      (add_this (h.later hb1) fits hcnt hso hq0 1 (.inl rfl) y y m e m e V V (hr2.below hb1) hV hb2 (hr2.below hb1) hV hb2).mono fun o w' ⟨ho, k⟩ => ⟨ho, JTurn.before hb1 k⟩
    generalize addV F g J 1 V V = R at *
    clear h fits hcnt hso hr2 hV hb2 hlm
    go_enter Tryz.func27, Tryz.ntmps27
    go_wp2_with (first
      | (go_at_call 47; ((with_reducible refine cr.mono ?_); rintro e w' ⟨rfl, m1, rfl⟩))
      | (go_at_call 50; ((with_reducible refine (ca _ (below_drewN hb1 _)).mono ?_); rintro e w' ⟨rfl, ht⟩)))
    go_ret
    exact ⟨rfl, ht⟩
theorem mend_this (h : JIn M S X j d b g F J wv cv w) (fits : Fits F g) (hcnt : F.count < 1152921504606846976) (hso : J.Sound g) (y : Option Addr) (m e : Nat) (V : List Nat)
    (hr2 : Reads .u32 w y m V) (hV : ∀ y ∈ V, y < 4294967296) (hm : m ≤ 4611686018427387904) :
    Calls Tryz.prog 22 #[.pointer (some ⟨j, 0, none⟩), .slice y m e] w fun o w' => o = .returned (.int .i64 (mendV F g J V).1) ∧ JTurn M j d b g (mendV F g J V).2.1 (mendV F g J V).2.2 w w' := by
  have hlm : V.length = m := hr2.1
  have hb1 : Below w.heap.size w (w.alloc (.cells #[.slice y m e] 24)) := (Below.refl _ _).alloc (Nat.le_refl _) _
  have cr := ready_this j w.heap.size 1 1 [m] _ (Lens.one w y m e) rfl (by decide) (by intro z hz; simp at hz; subst hz; assumption)
  rw [show [m] = [V.length] by rw [hlm], allB_one] at cr
  have H := hid h
  have HS := h.seen
  have hlf := fits.bounds.2.2.2.2
  unfold mendV
  cases hb2 : loadB V with
  | false =>
    rw [hb2] at cr
    simp only [Bool.false_eq_true, if_false] at cr
    rw [if_pos rfl]
    clear h fits hcnt hso hr2 hV hb2 hlm
    go_enter Tryz.func22, Tryz.ntmps22
    go_wp2_with (go_at_call 47; ((with_reducible refine cr.mono ?_); rintro e w' ⟨rfl, m1, rfl⟩))
    go_ret
    exact ⟨rfl, JTurn.of ⟨_, _, _, _, H.out⟩ (below_drewN hb1 m1)⟩
  | true =>
    rw [hb2] at cr
    simp only [if_true] at cr
    rw [if_neg (by simp)]
    by_cases htn : J.torn = false
    · rw [if_pos (.inl htn)]
      rw [htn] at HS
      clear h fits hcnt hso hr2 hV hb2 hlm
      go_enter Tryz.func22, Tryz.ntmps22
      go_wp2_with (go_at_call 47; ((with_reducible refine cr.mono ?_); rintro e w' ⟨rfl, m1, rfl⟩; have hk1 := HS.out _ (below_drewN hb1 m1)))
      go_ret
      exact ⟨rfl, JTurn.of ⟨_, _, _, _, H.out⟩ (below_drewN hb1 m1)⟩
    · have htn' : J.torn = true := by simpa using htn
      have cw : ∀ w1, Below w.heap.size w w1 → Calls Tryz.prog 48 #[.pointer (some ⟨j, 0, none⟩)] w1 fun e w' => e = .returned (.bool (decide (g.life ≤ J.p.seq))) ∧ Below w.heap.size w w' := fun w1 hb1 =>
        (worn_this (h.later hb1) hso.p.seq).mono fun o w' ⟨ho, k⟩ => ⟨ho, hb1.trans (k.mono hb1.size)⟩
      rw [htn'] at HS
      by_cases hl : g.life ≤ J.p.seq
      · rw [if_pos (.inr hl)]
        rw [decide_eq_true hl] at cw
        clear h fits hcnt hso hr2 hV hb2 hlm
        go_enter Tryz.func22, Tryz.ntmps22
        go_wp2_with (first
          | (go_at_call 47; ((with_reducible refine cr.mono ?_); rintro e w' ⟨rfl, m1, rfl⟩; have hk1 := HS.out _ (below_drewN hb1 m1)))
          | (go_at_call 48; ((with_reducible refine (cw _ (below_drewN hb1 _)).mono ?_); rintro e w2 ⟨rfl, hb2⟩)))
        go_ret
        exact ⟨rfl, JTurn.of ⟨_, _, _, _, H.out⟩ hb2⟩
      · rw [if_neg (fun h1 => h1.elim htn hl)]
        rw [decide_eq_false hl] at cw
        have ct := turn_from h fits hcnt hso.sector (by omega) y m e V hr2 hV hb2
        generalize turnV F g J V = R at *
        clear h fits hcnt hso hr2 hV hb2 hlm
        go_enter Tryz.func22, Tryz.ntmps22
        go_wp2_with (first
          | (go_at_call 47; ((with_reducible refine cr.mono ?_); rintro e w' ⟨rfl, m1, rfl⟩; have hk1 := HS.out _ (below_drewN hb1 m1)))
          | (go_at_call 48; ((with_reducible refine (cw _ (below_drewN hb1 _)).mono ?_); rintro e w2 ⟨rfl, hb2⟩))
          | (go_at_call 49; ((with_reducible refine (ct _ hb2).mono ?_); rintro e w3 ⟨rfl, ht⟩)))
        go_ret
        exact ⟨rfl, ht⟩
end
end Go.Proofs.YtphifanacehppaaGreat.journal
/- A region whose order is open: operations that look at no memory are taken first, in an order that the prover names; the others stand in one row. No condition. -/
namespace Go.Proofs.YtphifanacehppaaGreat.perm
open Go

section
variable {P : Program} {ops : Array Oper} {md : Region.Mode}

/-- an operation that yields a value, or nothing -/
def plainOp : Op → Bool
  | .move _ | .assign _ | .load _ _ | .binOp .. | .unOp .. | .slice .. | .fieldAddr .. | .indexAddr .. | .index .. | .extract .. | .convert .. => true
  | .nilCheck _ => true
  | _ => false
theorem plain_value {ρ : Operand → Value} {o : Oper} {w w' : World} {n : Next} (h : plainOp o.op = true) (hr : (execOp ρ o).run P w = .ok n w') : ∃ u, n = .value u := by
  have key : ∀ (s : Sem Value), (do let x ← s; pure (Next.value x) : Sem Next).run P w = .ok n w' → ∃ u, n = .value u := fun s hs => by
    rw [Sem.run_bind] at hs
    cases hq : s.run P w with
    | ok u w1 => rw [hq] at hs; simp [Result.andThen] at hs; exact ⟨u, hs.1.symm⟩
    | halt x w1 => rw [hq] at hs; simp [Result.andThen] at hs
  unfold execOp at hr
  cases ho : o.op <;> rw [ho] at h hr <;> simp only [plainOp] at h <;> try cases h
  case move x => simp at hr; exact ⟨_, hr.1.symm⟩
  case assign x => simp at hr; exact ⟨_, hr.1.symm⟩
  case nilCheck x =>
    dsimp only at hr
    split at hr
    · simp [runtimePanic, Sem.run_bind, Result.andThen] at hr
    · simp [runtimePanic] at hr
    · simp [runtimePanic] at hr
    · split at hr
      · simp [runtimePanic] at hr
      · simp only [Sem.run_bind] at hr
        generalize Sem.run P program _ = r1 at hr
        cases r1 with
        | halt x w1 => simp [Result.andThen] at hr
        | ok p w1 =>
          simp only [Result.andThen] at hr
          generalize Sem.run P (nilAhead _ _ _ _) _ = r2 at hr
          cases r2 with
          | halt x w2 => simp at hr
          | ok q w2 =>
            simp only at hr
            split at hr
            · simp [unsupported, Result.andThen] at hr
            · simp at hr; exact ⟨_, hr.1.symm⟩
      · simp at hr; exact ⟨_, hr.1.symm⟩
    · simp at hr; exact ⟨_, hr.1.symm⟩
  all_goals exact key _ hr

theorem yieldsIf_of_in {o : Oper} {v : Value} {a : Act} (hp : plainOp o.op = true) (hy : YieldsIn P ops (fun _ => True) o v a) : YieldsIf P ops (fun _ => True) o v a := by
  rcases hy with ⟨hw, hv⟩ | hy
  · refine .inl ⟨hw, fun w' _ => ?_⟩
    have h3 := hv w' trivial
    unfold Oper.quietAt at h3
    generalize hr : (execOp a.eval o).run P w' = r at h3
    cases r with
    | halt x w2 => simp only [Oper.quietUpon] at h3
    | ok n w2 =>
      obtain ⟨u, rfl⟩ := plain_value hp hr
      simp only [Oper.quietUpon] at h3
      rw [h3.1, h3.2]
  · exact .inr hy

def lexFirst (md : Region.Mode) (ops : Array Oper) (F : Array Bool → Bool) : List Nat → Array Bool → Bool
  | [], listed => F listed
  | k :: is, listed => (Region.ready md ops listed).contains k && Region.free md ops listed k && ((ops[k]?).map (fun o => plainOp o.op) == some true) && lexFirst md ops F is (listed.setIfInBounds k true)
def seqOf (md : Region.Mode) (ops : Array Oper) : List Nat → Array Bool → Bool
  | [], listed => (Region.ready md ops listed).isEmpty
  | k :: js, listed => decide (Region.ready md ops listed = [k]) && decide (k < ops.size) && seqOf md ops js (listed.setIfInBounds k true)
def permB (md : Region.Mode) (ops : Array Oper) (is js : List Nat) : Bool :=
  Region.noSelect ops && decide (is.length + js.length = ops.size) && lexFirst md ops (seqOf md ops js) is (Array.replicate ops.size false)
def nth : List Oper → Nat → List Oper
  | [], _ => []
  | o :: _, 0 => [o]
  | _ :: l, k + 1 => nth l k
def pickOps (ops : List Oper) : List Nat → List Oper
  | [] => []
  | k :: is => nth ops k ++ pickOps ops is
theorem nth_of : ∀ {l : List Oper} {k : Nat} {o : Oper}, l[k]? = some o → nth l k = [o]
  | [], k, o, h => by simp at h
  | _ :: _, 0, o, h => by simp at h; simp [nth, h]
  | _ :: l, k + 1, o, h => by simp only [nth]; exact nth_of (by simpa using h)

theorem wpAny_seqOf {Q : Exit → Act → World → Prop} {l : List Oper} : ∀ (js : List Nat) (listed : Array Bool) (a : Act) (w : World), seqOf md l.toArray js listed = true →
    wpList P l.toArray Q (pickOps l js) a w → wpAny P md l.toArray Q js.length listed a w
  | [], _, _, _, hB, h => ⟨by simpa [seqOf] using hB, h⟩
  | k :: js, listed, a, w, hB, h => by
    simp only [seqOf, Bool.and_eq_true, decide_eq_true_eq] at hB
    obtain ⟨⟨hr, hk⟩, hB'⟩ := hB
    have hk' : k < l.length := by simpa using hk
    have h0 : l.toArray[k]? = some l[k] := by simp [hk']
    have e : pickOps l (k :: js) = l[k] :: pickOps l js := by simp [pickOps, nth_of (show l[k]? = some l[k] by simp [hk'])]
    rw [e] at h
    refine ⟨fun h1 => (by rw [hr] at h1; cases h1), fun i hi => ?_⟩
    rw [hr] at hi
    have hik : i = k := by simpa using hi
    subst hik
    have hw : wpOp P l.toArray Q i (wpList P l.toArray Q (pickOps l js)) a w := by unfold wpOp; simp only [h0]; exact h
    exact wpOp_mono (fun a' w' h' => wpAny_seqOf js _ a' w' hB' h') hw

theorem first_ops {Q : Exit → Act → World → Prop} {Lq : Act → Prop} {l : List Oper} {w : World} (F : Array Bool → Bool) (g : Nat) (hsel : Region.noSelect l.toArray = true)
    (hQ : ∀ c a a' w, Q (.panic c) a w → Q (.panic c) a' w) (hK : ∀ listed a, F listed = true → Lq a → wpAny P md l.toArray Q g listed a w) :
    ∀ (is : List Nat) (listed : Array Bool) (a : Act), lexFirst md l.toArray F is listed = true → wpQuiet P l.toArray (fun _ => True) Lq (pickOps l is) a →
      wpAnyH P md l.toArray Q (fun _ => True) (is.length + g) listed a w
  | [], listed, a, hB, h => by
    simp only [List.length_nil, Nat.zero_add]
    exact tail.held_of_any _ _ _ _ (hK _ _ (by simpa [lexFirst] using hB) h)
  | k :: is, listed, a, hB, h => by
    simp only [lexFirst, Bool.and_eq_true] at hB
    obtain ⟨⟨⟨hr, hf⟩, hp⟩, hB'⟩ := hB
    have hp' : (l.toArray[k]?).map (fun o => plainOp o.op) = some true := by simpa using hp
    obtain ⟨o, h0, ho⟩ := Option.map_eq_some_iff.1 hp'
    have hl0 : l[k]? = some o := by simpa using h0
    have e : pickOps l (k :: is) = o :: pickOps l is := by simp [pickOps, nth_of hl0]
    rw [e] at h
    have hst : qOp P l.toArray (fun _ => True) k (wpQuiet P l.toArray (fun _ => True) Lq (pickOps l is)) a := by unfold qOp; simp only [h0]; exact h
    obtain ⟨v, hy, hK'⟩ := yieldsIn_of_qOp h0 hst
    rw [show (k :: is).length + g = (is.length + g) + 1 from by simp only [List.length_cons]; omega]
    exact wpAnyH_take h0 hsel hf hr (fun c a w h => hQ c _ _ w h) (yieldsIf_of_in ho hy) trivial (first_ops F g hsel hQ hK is _ _ hB' hK')

/-- the operations 'is' look at no memory and are taken first; the others, 'js', stand in one row; nothing panics -/
theorem region {id : Nat} {Q : Exit → Act → World → Prop} {a : Act} {w : World} {l : List Oper} (is js : List Nat) (hmx : P.follows .mixedOrders = true) (hB : permB .any l.toArray is js = true)
    (h : wpQuiet P l.toArray (fun _ => True) (fun a' => wpList P l.toArray (NoPanic Q) (pickOps l js) a' w.drew) (pickOps l is) a) : (Code.region id l.toArray true).wp P Q a w := by
  simp only [permB, Bool.and_eq_true, decide_eq_true_eq] at hB
  obtain ⟨⟨hsel, hlen⟩, hlex⟩ := hB
  refine wp_region_noPanic (wp_region_held (S := fun _ => True) hmx ?_)
  have key := first_ops (md := .any) (Q := NoPanic Q) (w := { w with drawn := w.drawn + 1 }) (seqOf .any l.toArray js) js.length hsel (fun c a a' w h => h)
    (fun listed a' hF hL => wpAny_seqOf js listed a' _ hF hL) is _ a hlex h
  rwa [hlen] at key
end
end Go.Proofs.YtphifanacehppaaGreat.perm
/- A region whose order is open, walked by a schedule that the prover names: an operation that yields the same in every world in which what there was stands is taken first; else the one that may come up comes up. No condition. -/
namespace Go.Proofs.YtphifanacehppaaGreat.plan
open Go Go.RowKit

section
variable {P : Program} {md : Region.Mode} {Q : Exit → Act → World → Prop} {l : List Oper}

/-- what is still to be shown, when 'listed' have come up -/
def Rest (P : Program) (md : Region.Mode) (l : List Oper) (Q : Exit → Act → World → Prop) (f : Nat) (listed : Array Bool) (a : Act) (w : World) : Prop :=
  wpAnyH P md l.toArray (NoPanic Q) (Below w.heap.size w) f listed a w

theorem weaken {S S' : World → Prop} (hS : ∀ w, S' w → S w) : ∀ (f : Nat) (listed : Array Bool) (a : Act) (w : World), wpAnyH P md l.toArray Q S' f listed a w → wpAnyH P md l.toArray Q S f listed a w
  | 0, _, _, _, h => h
  | f + 1, _, _, _, h => ⟨h.1, fun i hi => wpOp_mono (fun a' w' h' => ⟨hS _ h'.1, weaken hS f _ a' w' h'.2⟩) (h.2 i hi)⟩

theorem Rest.first {f : Nat} {listed : Array Bool} {a : Act} {w : World} (i : Nat) (o : Oper) (v : Value) (hi : l[i]? = some o) (hs : Region.noSelect l.toArray = true) (hf : Region.free md l.toArray listed i = true)
    (hr : (Region.ready md l.toArray listed).contains i = true) (hw : Region.wanted o (yielded l.toArray a.tmps) = true) (hv : ∀ w', Below w.heap.size w w' → (execOp a.eval o).run P w' = .ok (.value v) w')
    (h : Rest P md l Q f (listed.setIfInBounds i true) (a.put o.dst v) w) : Rest P md l Q (f + 1) listed a w :=
  wpAnyH_take (by simpa using hi) hs hf hr (fun c a' w' h => h) (.inl ⟨hw, hv⟩) (Below.refl _ _) h

theorem Rest.value {f : Nat} {listed : Array Bool} {a : Act} {w : World} (i : Nat) (o : Oper) (v : Value) (hi : l[i]? = some o) (hr : Region.ready md l.toArray listed = [i])
    (hw : Region.wanted o (yielded l.toArray a.tmps) = true) (hv : (execOp a.eval o).run P w = .ok (.value v) w)
    (h : Rest P md l Q f (listed.setIfInBounds i true) (a.put o.dst v) w) : Rest P md l Q (f + 1) listed a w := by
  refine wpAnyH_all hr (by simp) fun j hj => ?_
  obtain rfl : j = i := by simpa using hj
  have hi' : l.toArray[j]? = some o := by simpa using hi
  unfold wpOp
  simp only [hi', hw, if_true, Oper.wp, hv, Oper.upon_value]
  exact .inl ⟨Below.refl _ _, h⟩

theorem Rest.call {f : Nat} {listed : Array Bool} {a : Act} {w : World} (i : Nat) (o : Oper) (F : FuncId) (args : Array Value) (hi : l[i]? = some o) (hr : Region.ready md l.toArray listed = [i])
    (hw : Region.wanted o (yielded l.toArray a.tmps) = true) (hv : (execOp a.eval o).run P w = .ok (.enter F args) w)
    (h : Calls P F args w fun e w' => ∃ v, e = .returned v ∧ Below w.heap.size w w' ∧ Rest P md l Q f (listed.setIfInBounds i true) (a.put o.dst v) w') : Rest P md l Q (f + 1) listed a w := by
  refine wpAnyH_all hr (by simp) fun j hj => ?_
  obtain rfl : j = i := by simpa using hj
  have hi' : l.toArray[j]? = some o := by simpa using hi
  unfold wpOp
  simp only [hi', hw, if_true, Oper.wp, hv, Oper.upon]
  refine .inl (h.mono ?_)
  rintro e w' ⟨v, rfl, hb, hR⟩
  exact ⟨hb, weaken (fun w'' hb' => hb.trans (hb'.mono hb.size)) _ _ _ _ hR⟩

theorem Rest.done {listed : Array Bool} {a : Act} {w : World} (hr : Region.ready md l.toArray listed = []) (h : Q .normal a w) : Rest P md l Q 0 listed a w := ⟨hr, NoPanic.normal h⟩

theorem exec_load {o : Oper} {a : Act} {w : World} {ty : TypeId} {x : Operand} {b : Nat} {cs : List Value} {d : TypeDesc} (ho : o.op = .load ty x) (hx : a.eval x = .pointer (some ⟨b, 0, none⟩)) (hc : w.rangeAt b 0 cs)
    (hu : P.underlying ty = some d) (hd : d.isRow = true) (hi : (P.info? ty).map (·.size) = some cs.length) : (execOp a.eval o).run P w = .ok (.value (.agg cs.toArray)) w := by
  unfold execOp
  simp [ho, hx, run_loadAt_mid w b 0 ty cs d hc hu hd hi]
theorem exec_convert {o : Oper} {a : Act} {w : World} {s d : TypeId} {x : Operand} {v u : Value} (ho : o.op = .convert s d x) (hx : a.eval x = v) (hr : (convert s d v).run P w = .ok u w) : (execOp a.eval o).run P w = .ok (.value u) w := by
  unfold execOp
  simp [ho, hx, hr]
theorem exec_eql {o : Oper} {a : Act} {w : World} {t t' : TypeId} {x y : Operand} {vx vy u : Value} (ho : o.op = .binOp .eql t x y t') (hx : a.eval x = vx) (hy : a.eval y = vy)
    (hg : (eqGuard .eql t x y vx vy).run P w = .ok () w) (hr : (binOp .eql t vx vy).run P w = .ok u w) : (execOp a.eval o).run P w = .ok (.value u) w := by
  unfold execOp
  simp [ho, hx, hy, Sem.run_bind, hg, hr]
theorem region {id : Nat} {a : Act} {w : World} (hmx : P.follows .mixedOrders = true) (h : Rest P .any l Q l.length (Array.replicate l.length false) a w.drew) : (Code.region id l.toArray true).wp P Q a w := by
  refine wp_region_noPanic (wp_region_held (S := Below w.drew.heap.size w.drew) hmx ?_)
  have e : l.toArray.size = l.length := by simp
  rw [e]
  exact h
end
end Go.Proofs.YtphifanacehppaaGreat.plan
