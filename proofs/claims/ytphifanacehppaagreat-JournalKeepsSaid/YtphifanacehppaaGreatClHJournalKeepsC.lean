/- Lemmas of the claim HJournalKeeps. Each says its own conditions. -/
import Derived.Test.YtphifanacehppaaGreatCmG
import Derived.Test.YtphifanacehppaaGreatClHJournalKeepsB
import Derived.Test.YtphifanacehppaaGreatCmF
import Derived.Handy
import Derived.IntWalk
/- Contracts of a journal's checked, ready, worn and next. No condition. -/
namespace Go.Proofs.YtphifanacehppaaGreat.journal
open Go.RowKit Go.Proofs.YtphifanacehppaaGreat.flash Go.Proofs.YtphifanacehppaaGreat.geom
set_option linter.unusedVariables false

def allB (ls : List Nat) : Bool := ls.all fun n => decide (1 ≤ n ∧ n ≤ 56)
theorem allB_take {ls : List Nat} {k : Nat} (hk : k < ls.length) : allB (ls.take (k + 1)) = (allB (ls.take k) && decide (1 ≤ ls.getD k 0 ∧ ls.getD k 0 ≤ 56)) := by
  unfold allB
  rw [word.take_succ_getD ls k hk, List.all_append]
  simp
/-- loads of those lengths in a row of slices -/
def Lens (w : World) (r : Nat) (ls : List Nat) : Prop := r < w.heap.size ∧ ∀ i, i < ls.length → ∃ x c, w.cell? ⟨r, i, none⟩ = some (.slice x (ls.getD i 0) c)
theorem Lens.one (w : World) (x : Option Addr) (n c : Nat) : Lens (w.alloc (.cells #[.slice x n c] 24)) w.heap.size [n] :=
  ⟨by simp, fun i hi => by
    obtain rfl : i = 0 := by simp at hi; omega
    exact ⟨x, c, (Block.new w 24 [.slice x n c]).cell 0⟩⟩
theorem Lens.two (w : World) (x y : Option Addr) (n c m k : Nat) : Lens (w.alloc (.cells #[.slice x n c, .slice y m k] 24)) w.heap.size [n, m] :=
  ⟨by simp, fun i hi => by
    have hi' : i = 0 ∨ i = 1 := by simp at hi; omega
    rcases hi' with rfl | rfl
    · exact ⟨x, c, (Block.new w 24 [.slice x n c, .slice y m k]).cell 0⟩
    · exact ⟨y, k, (Block.new w 24 [.slice x n c, .slice y m k]).cell 1⟩⟩
theorem checked_any (r N cap : Nat) (ls : List Nat) (w : World) (h : Lens w r ls) (hN : ls.length = N) (hN2 : N ≤ 1000) (hls : ∀ n ∈ ls, n ≤ 4611686018427387904) :
    Calls Tryz.prog 55 #[.slice (some ⟨r, 0, none⟩) N cap] w (Quiet (.int .i64 (if allB ls = true then 0 else 2)) w) := by
  have HL := hid h
  have HN := hid hN
  have HLS := hid hls
  obtain ⟨R, hR⟩ : ∃ R : Int, Hid ((if allB ls = true then (0 : Int) else 2) = R) := ⟨_, rfl⟩
  rw [hR.out]
  clear h hN hls
  go_enter Tryz.func55, Tryz.ntmps55
  go_wp2
  go_loopw [7] (fun i wr => ∃ k : Nat, k ≤ N ∧ i = .int .i64 (k : Int) ∧ Hid (allB (ls.take k) = true) ∧ ∃ m, wr = w.drewN m) (fun i _ => N - (intOf i).toNat)
  case atStart => exact ⟨0, Nat.zero_le _, rfl, hid rfl, 0, rfl⟩
  case round =>
    obtain ⟨k, hk, rfl, hall, m, rfl⟩ := hrel
    by_cases hlt : k < N
    · obtain ⟨x, c, hc⟩ := HL.out.2 k (by rw [HN.out]; exact hlt)
      have hc' : (w.drewN m).cell? ⟨r, k, none⟩ = some (.slice x (ls.getD k 0) c) := hc
      have HT := hid (allB_take (ls := ls) (k := k) (by rw [HN.out]; exact hlt))
      have hle : ls.getD k 0 ≤ 4611686018427387904 := by
        rw [List.getD_eq_getElem?_getD, List.getElem?_eq_getElem (by rw [HN.out]; exact hlt)]
        exact HLS.out _ (List.getElem_mem _)
      have i1 : (k : Int) < N := by omega
      have cs := fun w' => frame.size_any ((ls.getD k 0 : Nat) : Int) w'
      generalize ls.getD k 0 = n at *
      by_cases hn : 1 ≤ n ∧ n ≤ 56
      · have hz : frame.sizeI (n : Int) = (n : Int) + 3 := by unfold frame.sizeI; rw [if_pos (by omega)]
        rw [hz] at cs
        have q0 : ((n : Int) + 3 == 0) = false := by simp; omega
        have HNN := hid hn
        clear hz hn
        go_wp2_with (go_at_call 77; ((with_reducible refine (cs _).mono ?_); rintro e w' ⟨rfl, m1, rfl⟩))
        refine ⟨⟨k + 1, by omega, by go_num, hid ?_, _, rfl⟩, ?_⟩
        · rw [HT.out, hall.out, decide_eq_true HNN.out]; rfl
        · simp [intOf]; omega
      · have hz : frame.sizeI (n : Int) = 0 := by unfold frame.sizeI; rw [if_neg (by omega)]
        rw [hz] at cs
        have HNN := hid hn
        clear hz hn
        go_wp2_with (go_at_call 77; ((with_reducible refine (cs _).mono ?_); rintro e w' ⟨rfl, m1, rfl⟩))
        go_ret
        have hno : allB ls = false := by
          rw [Bool.eq_false_iff]
          intro ha
          have h1 : allB (ls.take (k + 1)) = true := by
            unfold allB at ha ⊢
            rw [List.all_eq_true] at ha ⊢
            exact fun y hy => ha y (List.mem_of_mem_take hy)
          rw [HT.out, decide_eq_false HNN.out] at h1
          simp at h1
        exact ⟨ret_int (by rw [← hR.out, hno]; rfl), _, rfl⟩
    · obtain rfl : k = N := by omega
      go_wp2
      go_ret
      have hyes : allB ls = true := by
        have := hall.out
        rwa [List.take_of_length_le (by rw [HN.out]; exact Nat.le_refl _)] at this
      exact ⟨ret_int (by rw [← hR.out, hyes]; rfl), m, rfl⟩
theorem ready_none (x : Option Addr) (n c : Nat) (w : World) : Calls Tryz.prog 47 #[.pointer none, .slice x n c] w (Quiet (.int .i64 1) w) := by
  go_enter Tryz.func47, Tryz.ntmps47
  go_wp2
  go_ret
  exact ⟨rfl, 0, rfl⟩
theorem ready_this (j r N cap : Nat) (ls : List Nat) (w : World) (h : Lens w r ls) (hN : ls.length = N) (hN2 : N ≤ 1000) (hls : ∀ n ∈ ls, n ≤ 4611686018427387904) :
    Calls Tryz.prog 47 #[.pointer (some ⟨j, 0, none⟩), .slice (some ⟨r, 0, none⟩) N cap] w (Quiet (.int .i64 (if allB ls = true then 0 else 2)) w) := by
  have cc := checked_any r N cap ls w h hN hN2 hls
  generalize (if allB ls = true then (0 : Int) else 2) = R at *
  clear h hN hls
  go_enter Tryz.func47, Tryz.ntmps47
  go_wp2_with (go_at_call 55; ((with_reducible refine cc.mono ?_); rintro e w' ⟨rfl, m1, rfl⟩))
  go_ret
  exact ⟨rfl, _, rfl⟩
theorem geometry_from {S : Nat → Prop} {d b : Nat} {g : Geo} {F : Fl} {w0 w : World} (h : drive.DriveAt S d b g F w0) (hb : Below w0.heap.size w0 w) : Calls Tryz.prog 44 #[.pointer (some ⟨d, 0, none⟩)] w fun e w' => e = .returned (.agg #[.int .i64 g.sector, .int .i64 g.slot, .int .i64 g.data, .int .i64 g.quota, .int .i64 g.tries, .int .i64 g.life]) ∧ Below w0.heap.size w0 w' :=
  (drive.geometry_any (h.later hb)).mono fun _ _ ⟨he, hw⟩ => ⟨he, hb.trans (hw.mono hb.size)⟩
theorem worn_this {M S X : Nat → Prop} {j d b : Nat} {g : Geo} {F : Fl} {J : Jv} {wv cv : Value} {w : World} (h : JIn M S X j d b g F J wv cv w) (hq : J.p.seq ≤ 1073741823) :
    Calls Tryz.prog 48 #[.pointer (some ⟨j, 0, none⟩)] w fun e w' => e = .returned (.bool (decide (g.life ≤ J.p.seq))) ∧ Below w.heap.size w w' := by
  have HS := h.seen
  have hk0 := HS.out w (Below.refl _ _)
  have hB0 : Below w.heap.size w w.drew := below_drewN (Below.refl _ _) 1
  have hk1 := HS.out _ hB0
  have cg := geometry_from h.dr hB0
  have hfd : ∀ W, (Instr.field 23 (.agg #[.int .i64 g.sector, .int .i64 g.slot, .int .i64 g.data, .int .i64 g.quota, .int .i64 g.tries, .int .i64 g.life]) 5).run Tryz.prog W = .ok (.int .i64 g.life) W := fun W => by kernel_rfl
  generalize (J.p.seq : Int) = q at *
  clear h
  go_enter Tryz.func48, Tryz.ntmps48
  go_wp2
  go_region_held3 (fun w' => w'.cell? ⟨j, 0, none⟩ = some (.pointer (some ⟨d, 0, none⟩)) ∧ w'.cell? ⟨j, 2, none⟩ = some (.int .i64 q)) (first | assumption | go_keep) (
    (go_at_call 44; (with_reducible refine cg.mono ?_); rintro e w1 ⟨rfl, hb1⟩; have hk2 := HS.out w1 hb1))
  go_wp2
  go_ret
  exact ⟨by first | rfl | exact ret_bool rfl | exact ret_bool (by rw [Bool.eq_iff_iff]; simp), hb1⟩
theorem next_this {M S X : Nat → Prop} {j d b : Nat} {g : Geo} {F : Fl} {J : Jv} {wv cv : Value} {w : World} (h : JIn M S X j d b g F J wv cv w) (hq : J.p.seq < 1073741823) (k : Nat) (hk : k = 1 ∨ k = 2) (x : Option Addr) (n c : Nat) (L : List Nat)
    (hr : Reads .u32 w x n L) (hL : ∀ y ∈ L, y < 4294967296) (hb : loadB L = true) :
    Calls Tryz.prog 71 #[.pointer (some ⟨j, 0, none⟩), .int .i64 (k : Int), .slice x n c] w fun e w' => ∃ q c', e = .returned (.tuple #[.slice (some ⟨q, 0, none⟩) (n + 3) c', .int .i64 0]) ∧
      w.heap.size ≤ q ∧ Row w' 43 .u32 q c' (frame.words k (J.p.seq + 1) L) ∧ Below w.heap.size w w' := by
  have hk0 := h.cells
  have hb' := of_decide_eq_true hb
  have hn : L.length = n := hr.1
  have hok : frame.okB (k : Int) ((J.p.seq + 1 : Nat) : Int) n = true := frame.okB_true.2 ⟨by omega, by omega, by omega, by omega, by omega⟩
  have cl := frame.lay_yes k (J.p.seq + 1) x n c L w hr hL hok
  rw [show ((J.p.seq + 1 : Nat) : Int) = (J.p.seq : Int) + 1 by omega] at cl
  have i1 : (J.p.seq : Int) < 1073741823 := by omega
  generalize frame.words k (J.p.seq + 1) L = W at *
  clear h hr hL hb hb' hok hn
  go_enter Tryz.func71, Tryz.ntmps71
  go_wp2_with (go_at_call 95; ((with_reducible refine cl.mono ?_); rintro e w1 ⟨q, c', rfl, hq, hrow, hb1⟩))
  go_ret2
  exact ⟨q, c', rfl, hq, hrow, hb1⟩
end Go.Proofs.YtphifanacehppaaGreat.journal
/- Contract of a journal's turn. No condition but a flash with fewer than 2^60 writes. -/
namespace Go.Proofs.YtphifanacehppaaGreat.journal
open Go.RowKit Go.Proofs.YtphifanacehppaaGreat.flash Go.Proofs.YtphifanacehppaaGreat.geom
set_option linter.unusedVariables false

theorem scan_words {N : Nat} {p : Part} {k s : Nat} {L : List Nat} (hok : frame.okB (k : Int) (s : Int) L.length = true) (ht : p.takes k s = true) (hN : 1 ≤ N) : scan N p (frame.words k s L) = p.add k s L := by
  have hr := frame.readN_words k s L [] hok
  rw [List.append_nil] at hr
  obtain ⟨m, rfl⟩ : ∃ m, N = m + 1 := ⟨N - 1, by omega⟩
  rw [scan_some hr ht]
  have e : (frame.words k s L).drop (L.length + 3) = [] := List.drop_of_length_le (by rw [frame.words_length]; exact Nat.le_refl _)
  rw [e, scan_none readN_nil]
set_option maxRecDepth 20000 in
theorem turn_this {M S X : Nat → Prop} {j d b : Nat} {g : Geo} {F : Fl} {J : Jv} {wv cv : Value} {w : World} (h : JIn M S X j d b g F J wv cv w) (fits : Fits F g) (hcnt : F.count < 1152921504606846976) (hs : J.sector ≤ 1) (hq : J.p.seq < 1073741823)
    (x : Option Addr) (n c : Nat) (L : List Nat) (hr : Reads .u32 w x n L) (hL : ∀ y ∈ L, y < 4294967296) (hb : loadB L = true) :
    Calls Tryz.prog 49 #[.pointer (some ⟨j, 0, none⟩), .slice x n c] w fun e w' => e = .returned (.int .i64 (turnV F g J L).1) ∧ JTurn M j d b g (turnV F g J L).2.1 (turnV F g J L).2.2 w w' := by
  have hb' := of_decide_eq_true hb
  have hn : L.length = n := hr.1
  have cn := next_this h hq 1 (.inl rfl) x n c L hr hL hb
  rw [show ((1 : Nat) : Int) = 1 from rfl] at cn
  have hW : ∀ y ∈ frame.words 1 (J.p.seq + 1) L, y < 4294967296 := frame.words_lt 1 (J.p.seq + 1) L (by decide) (by omega) hb'.2 hL
  have hWl : (frame.words 1 (J.p.seq + 1) L).length = n + 3 := by rw [frame.words_length, hn]
  have HSC : Hid (∀ N, 1 ≤ N → scan N Part.zero (frame.words 1 (J.p.seq + 1) L) = ⟨J.p.seq + 1, L, [], L.length + 3⟩) := hid fun N hN => by
    have hok : frame.okB ((1 : Nat) : Int) ((J.p.seq + 1 : Nat) : Int) L.length = true := frame.okB_true.2 ⟨.inl rfl, by omega, by omega, hb'.1, hb'.2⟩
    have e := scan_words (N := N) (p := Part.zero) hok rfl hN
    rw [e]
    show Part.mk _ _ _ (0 + (L.length + 3)) = _
    rw [Nat.zero_add]
  have cf : ∀ q c' w1, w.heap.size ≤ q → Row w1 43 .u32 q c' (frame.words 1 (J.p.seq + 1) L) → Below w.heap.size w w1 →
      Calls Tryz.prog 72 #[.pointer (some ⟨d, 0, none⟩), .int .i64 (1 - (J.sector : Int)), .slice (some ⟨q, 0, none⟩) (n + 3) c'] w1
        (Did S b (drive.fresh F g (1 - (J.sector : Int)) (frame.words 1 (J.p.seq + 1) L)).2 (.int .i64 (drive.fresh F g (1 - (J.sector : Int)) (frame.words 1 (J.p.seq + 1) L)).1) w1) := fun q c' w1 hq0 hrow hb1 => by
    have hrd := hrow.reads
    rw [hWl] at hrd
    exact drive.fresh_this (h.later hb1).dr fits.ok fits.ft hcnt (1 - (J.sector : Int)) (some ⟨q, 0, none⟩) (n + 3) c' _ hrd hW (.inr ⟨_, rfl, fun hsq => by
      have := h.lm _ (h.sub _ (.inl hsq))
      have h2 : q < w.heap.size := this
      omega⟩)
  have HE : Hid (((1 - J.sector : Nat) : Int) = 1 - (J.sector : Int)) := hid (by omega)
  unfold turnV turned
  rw [HE.out]
  have HS := h.seen
  have H := hid h
  have hk0 := HS.out w (Below.refl _ _)
  have i1 : (J.sector : Int) ≤ 1 := by omega
  have HWW := hid hW
  have HWL := hid hWl
  have HN := hid hn
  have HB56 := hid hb'
  clear h fits hcnt hr hL hb hn hb' hW hWl
  generalize hWe : frame.words 1 (J.p.seq + 1) L = W at *
  have HWE := hid hWe
  clear hWe
  generalize drive.fresh F g (1 - (J.sector : Int)) W = R at *
  obtain ⟨z, G⟩ := R
  simp only at *
  by_cases hz : z = 0
  · subst hz
    rw [if_neg (fun h => h rfl)]
    go_enter Tryz.func49, Tryz.ntmps49
    go_wp2_with (first
      | (go_at_call 71; ((with_reducible refine cn.mono ?_); rintro e w1 ⟨q, c', rfl, hq0, hrow, hb1⟩; have hk1 := HS.out w1 hb1))
      | (go_at_call 72; ((with_reducible refine (cf _ _ _ hq0 hrow hb1).mono ?_); rintro e w2 ⟨rfl, ht⟩; obtain ⟨S', h2, h3, h4⟩ := (H.out.later hb1).turn ht; have hk2 := h2.cells; have f1 := h2.blk.frozen 1; have f2 := h2.blk.frozen 2; have f3 := h2.blk.frozen 3; have f4 := h2.blk.frozen 4; have f5 := h2.blk.frozen 5; have f6 := h2.blk.frozen 6; have H2 := hid h2; have H3 := hid h3; have H4 := hid h4; have HB1 := hid hb1; have HQ0 := hid hq0; have HROW := hid hrow; clear h2 h3 h4 hq0 hrow)))
    obtain ⟨w3, hw3⟩ : ∃ y, Hid (((((((w2.setCell ⟨j, 1, none⟩ (.int .i64 (1 - (J.sector : Int)))).setCell ⟨j, 2, none⟩ (.int .i64 0)).setCell ⟨j, 3, none⟩ (.slice none 0 0)).setCell ⟨j, 4, none⟩ (.slice none 0 0)).setCell ⟨j, 5, none⟩ (.int .i64 0)).setCell ⟨j, 6, none⟩ (.bool false)) = y) := ⟨_, rfl⟩
    have hB3 := (((((H2.out.blk.setCell 1 (.int .i64 (1 - (J.sector : Int)))).setCell 2 (.int .i64 0)).setCell 3 (.slice none 0 0)).setCell 4 (.slice none 0 0)).setCell 5 (.int .i64 0)).setCell 6 (.bool false)
    have hO3 : Only (fun y => y = j ∨ X y) w2 w3 := by
      rw [← hw3.out]
      exact ((((((Only.refl (fun y => y = j ∨ X y) w2).setCell (g := j) (.inl (.inl rfl)) 1 _).setCell (g := j) (.inl (.inl rfl)) 2 _).setCell (g := j) (.inl (.inl rfl)) 3 _).setCell (g := j) (.inl (.inl rfl)) 4 _).setCell (g := j) (.inl (.inl rfl)) 5 _).setCell (g := j) (.inl (.inl rfl)) 6 _
    rw [hw3.out] at hB3 ⊢
    have hB3' : Block w3 j 95 [.pointer (some ⟨d, 0, none⟩), .int .i64 (1 - (J.sector : Int)), .int .i64 ((Part.zero.seq : Nat) : Int), .slice none 0 0, .slice none 0 0, .int .i64 ((Part.zero.tail : Nat) : Int), .bool false] := hB3
    have hjlt : j < w.heap.size := H.out.blk.lt
    have hXlt : ∀ y, X y → y < w.heap.size := fun y hy => H.out.lm y (H.out.sub y (.inr (.inl hy)))
    have hq0 := HQ0.out
    have hs12 := H4.out.size
    have hs23 := hO3.size
    have hs01 := HB1.out.size
    have hqS : ¬ S q := fun hsq => by have := H.out.lm _ (H.out.sub _ (.inl hsq)); omega
    have hrow3 : Row w3 43 .u32 q c' W := (HROW.out.only H4.out hqS).only hO3 (by
      rintro (h1 | h1)
      · omega
      · have := hXlt q h1; omega)
    have hrd := hrow3.reads
    rw [HWL.out] at hrd
    obtain ⟨pad, _, hcl, hcm⟩ := HROW.out
    have cp := read_part (X := X) (b := j) (o := 2) (T := 95) (cs := [.pointer (some ⟨d, 0, none⟩), .int .i64 (1 - (J.sector : Int)), .int .i64 ((Part.zero.seq : Nat) : Int), .slice none 0 0, .slice none 0 0, .int .i64 ((Part.zero.tail : Nat) : Int), .bool false]) Part.zero (some ⟨q, 0, none⟩) (n + 3) c' W w3 hB3' (by simp) rfl rfl rfl rfl LoadAt.nil LoadsAt.nil H.out.xj
      (fun y hy => by have := hXlt y hy; omega) .zero hrd HWW.out (by rw [← HWL.out]; exact hcl) hcm (by have := HN.out; have := HB56.out; show 0 + (n + 3) ≤ 8192; omega)
      (fun y hy => by
        cases hy
        have h2 := hrow3.lt
        exact ⟨h2, show q ≠ j by omega, fun hx => by have h3 : q < w.heap.size := hXlt q hx; omega⟩)
    rw [HSC.out (n + 3) (by omega)] at cp
    have HO3 := hid hO3
    clear hB3 hB3' hO3 hrow3 hrd hcl hcm hXlt
    refine cp.mono ?_
    rintro e w4 ⟨rfl, hdone⟩
    have hr := H2.out.read (A := 1 - J.sector) (R := ⟨J.p.seq + 1, L, [], L.length + 3⟩) (tn := false) (by rw [← HE.out]; rfl) (by simp) HO3.out hdone
    have hfin := JTurn.before HB1.out (JTurn.join (M := M) (w := w1) (fun x hx => ⟨hx.2, hx.1⟩) (H4.out.mono fun x hx _ => H.out.sub x (.inl hx)) hr)
    have HFIN := hid hfin
    clear hfin hr hdone
    go_wp2
    go_ret
    exact ⟨rfl, HFIN.out⟩
  · rw [if_pos hz]
    have hzb : (z != 0) = true := by simpa using hz
    go_enter Tryz.func49, Tryz.ntmps49
    go_wp2_with (first
      | (go_at_call 71; ((with_reducible refine cn.mono ?_); rintro e w1 ⟨q, c', rfl, hq0, hrow, hb1⟩; have hk1 := HS.out w1 hb1))
      | (go_at_call 72; ((with_reducible refine (cf _ _ _ hq0 hrow hb1).mono ?_); rintro e w2 ⟨rfl, ht⟩)))
    go_ret
    exact ⟨rfl, JTurn.before hb1 ((H.out.later hb1).turned ht)⟩
end Go.Proofs.YtphifanacehppaaGreat.journal
/- Contract of a journal's add. No condition but a flash with fewer than 2^60 writes. -/
namespace Go.Proofs.YtphifanacehppaaGreat.journal
open Go.RowKit Go.Proofs.YtphifanacehppaaGreat.flash Go.Proofs.YtphifanacehppaaGreat.geom
set_option linter.unusedVariables false

section
variable {M S X : Nat → Prop} {j d b : Nat} {g : Geo} {F : Fl} {J : Jv} {wv cv : Value} {w : World}
theorem add_worn (h : JIn M S X j d b g F J wv cv w) (hq : J.p.seq ≤ 1073741823) (hl : g.life ≤ J.p.seq) (k : Nat) (x y : Option Addr) (n c m e : Nat) :
    Calls Tryz.prog 50 #[.pointer (some ⟨j, 0, none⟩), .int .i64 (k : Int), .slice x n c, .slice y m e] w fun e w' => e = .returned (.int .i64 13) ∧ JTurn M j d b g F J w w' := by
  have cw := worn_this h hq
  rw [decide_eq_true hl] at cw
  have H := hid h
  clear h
  go_enter Tryz.func50, Tryz.ntmps50
  go_wp2_with (go_at_call 48; ((with_reducible refine cw.mono ?_); rintro e w1 ⟨rfl, hb1⟩))
  go_ret
  exact ⟨rfl, JTurn.of ⟨_, _, _, _, H.out⟩ hb1⟩
theorem next_from (h : JIn M S X j d b g F J wv cv w) (hq : J.p.seq < 1073741823) (k : Nat) (hk : k = 1 ∨ k = 2) (x : Option Addr) (n c : Nat) (L : List Nat) (hr : Reads .u32 w x n L) (hL : ∀ y ∈ L, y < 4294967296) (hb : loadB L = true) (w1 : World) (hb1 : Below w.heap.size w w1) :
    Calls Tryz.prog 71 #[.pointer (some ⟨j, 0, none⟩), .int .i64 (k : Int), .slice x n c] w1 fun e w' => ∃ q c', e = .returned (.tuple #[.slice (some ⟨q, 0, none⟩) (n + 3) c', .int .i64 0]) ∧
      w.heap.size ≤ q ∧ Row w' 43 .u32 q c' (frame.words k (J.p.seq + 1) L) ∧ Below w.heap.size w w' :=
  (next_this (h.later hb1) hq k hk x n c L (hr.below hb1) hL hb).mono fun e w' ⟨q, c', he, hq0, hrow, hb2⟩ => ⟨q, c', he, Nat.le_trans hb1.size hq0, hrow, hb1.trans (hb2.mono hb1.size)⟩
theorem turn_from (h : JIn M S X j d b g F J wv cv w) (fits : Fits F g) (hcnt : F.count < 1152921504606846976) (hs : J.sector ≤ 1) (hq : J.p.seq < 1073741823)
    (x : Option Addr) (n c : Nat) (L : List Nat) (hr : Reads .u32 w x n L) (hL : ∀ y ∈ L, y < 4294967296) (hb : loadB L = true) (w1 : World) (hb1 : Below w.heap.size w w1) :
    Calls Tryz.prog 49 #[.pointer (some ⟨j, 0, none⟩), .slice x n c] w1 fun e w' => e = .returned (.int .i64 (turnV F g J L).1) ∧ JTurn M j d b g (turnV F g J L).2.1 (turnV F g J L).2.2 w w' :=
  (turn_this (h.later hb1) fits hcnt hs hq x n c L (hr.below hb1) hL hb).mono fun e w' ⟨he, k⟩ => ⟨he, JTurn.before hb1 k⟩
set_option maxRecDepth 20000 in
theorem add_torn (h : JIn M S X j d b g F J wv cv w) (fits : Fits F g) (hcnt : F.count < 1152921504606846976) (hs : J.sector ≤ 1) (hq : J.p.seq < 1073741823) (hl : ¬ g.life ≤ J.p.seq) (htn : J.torn = true) (k : Nat) (hk : k = 1 ∨ k = 2) (x y : Option Addr) (n c m e : Nat) (L V : List Nat)
    (hr : Reads .u32 w x n L) (hL : ∀ y ∈ L, y < 4294967296) (hb : loadB L = true) (hr2 : Reads .u32 w y m V) (hV : ∀ y ∈ V, y < 4294967296) (hb2 : loadB V = true) :
    Calls Tryz.prog 50 #[.pointer (some ⟨j, 0, none⟩), .int .i64 (k : Int), .slice x n c, .slice y m e] w fun e w' => e = .returned (.int .i64 (turnV F g J V).1) ∧ JTurn M j d b g (turnV F g J V).2.1 (turnV F g J V).2.2 w w' := by
  have cw := worn_this h (Nat.le_of_lt hq)
  rw [decide_eq_false hl] at cw
  have cn := next_from h hq k hk x n c L hr hL hb
  have ct := turn_from h fits hcnt hs hq y m e V hr2 hV hb2
  have HS := h.seen
  rw [htn] at HS
  generalize turnV F g J V = R at *
  obtain ⟨z, G, K⟩ := R
  simp only at *
  generalize frame.words k (J.p.seq + 1) L = W at *
  clear h fits hcnt hr hL hb hr2 hV hb2
  go_enter Tryz.func50, Tryz.ntmps50
  go_wp2_with (first
    | (go_at_call 48; ((with_reducible refine cw.mono ?_); rintro e w1 ⟨rfl, hb1⟩))
    | (go_at_call 71; ((with_reducible refine (cn _ hb1).mono ?_); rintro e w2 ⟨q, c', rfl, hq0, hrow, hb2⟩; have hk2 := HS.out w2 hb2)))
  go_quiet (fail)
  go_wp2_with (go_at_call 49; ((with_reducible refine (ct _ (below_drewN hb2 _)).mono ?_); rintro e w3 ⟨rfl, ht⟩))
  go_ret
  exact ⟨rfl, ht⟩
set_option maxRecDepth 20000 in
theorem add_full (h : JIn M S X j d b g F J wv cv w) (fits : Fits F g) (hcnt : F.count < 1152921504606846976) (hs : J.sector ≤ 1) (hq : J.p.seq < 1073741823) (htl : (J.p.tail : Int) ≤ g.sector) (hl : ¬ g.life ≤ J.p.seq) (htn : J.torn = false) (k : Nat) (hk : k = 1 ∨ k = 2) (x y : Option Addr) (n c m e : Nat) (L V : List Nat)
    (hfull : g.sector - J.p.tail < (n : Int) + 3)
    (hr : Reads .u32 w x n L) (hL : ∀ y ∈ L, y < 4294967296) (hb : loadB L = true) (hr2 : Reads .u32 w y m V) (hV : ∀ y ∈ V, y < 4294967296) (hb2 : loadB V = true) :
    Calls Tryz.prog 50 #[.pointer (some ⟨j, 0, none⟩), .int .i64 (k : Int), .slice x n c, .slice y m e] w fun e w' => e = .returned (.int .i64 (turnV F g J V).1) ∧ JTurn M j d b g (turnV F g J V).2.1 (turnV F g J V).2.2 w w' := by
  have cw := worn_this h (Nat.le_of_lt hq)
  rw [decide_eq_false hl] at cw
  have cn := next_from h hq k hk x n c L hr hL hb
  have ct := turn_from h fits hcnt hs hq y m e V hr2 hV hb2
  have cg : ∀ w', Below w.heap.size w w' → _ := fun w' hb => geometry_from h.dr hb
  have HS := h.seen
  rw [htn] at HS
  obtain ⟨b1, b2, b3, b4, b5⟩ := fits.bounds
  have hwr : IntKind.i64.wrap (g.sector - (J.p.tail : Int)) = g.sector - (J.p.tail : Int) := IntWalk.i64_in _ (by omega)
  have hfd : ∀ W, (Instr.field 23 (.agg #[.int .i64 g.sector, .int .i64 g.slot, .int .i64 g.data, .int .i64 g.quota, .int .i64 g.tries, .int .i64 g.life]) 0).run Tryz.prog W = .ok (.int .i64 g.sector) W := fun W => by kernel_rfl
  have hn3 : (n : Int) ≤ 56 := by have := of_decide_eq_true hb; have := hr.1; omega
  generalize turnV F g J V = R at *
  obtain ⟨z, G, K⟩ := R
  simp only at *
  generalize frame.words k (J.p.seq + 1) L = W at *
  generalize (J.p.tail : Int) = T at *
  clear h fits hcnt hr hL hb hr2 hV hb2 b3 b4 b5
  go_enter Tryz.func50, Tryz.ntmps50
  go_wp2_with (first
    | (go_at_call 48; ((with_reducible refine cw.mono ?_); rintro e w1 ⟨rfl, hb1⟩))
    | (go_at_call 71; ((with_reducible refine (cn _ hb1).mono ?_); rintro e w2 ⟨q, c', rfl, hq0, hrow, hb2⟩; have hk2 := HS.out w2 hb2)))
  have hB2 : Below w.heap.size w w2.drew := below_drewN hb2 1
  have hk3 := HS.out _ hB2
  go_region_held3 (fun w' => w'.cell? ⟨j, 0, none⟩ = some (.pointer (some ⟨d, 0, none⟩)) ∧ w'.cell? ⟨j, 5, none⟩ = some (.int .i64 T) ∧ w'.cell? ⟨j, 6, none⟩ = some (.bool false)) (first | assumption | go_keep) (
    (go_at_call 44; (with_reducible refine (cg _ hB2).mono ?_); rintro e w3 ⟨rfl, hb3⟩; have hk4 := HS.out w3 hb3))
  go_wp2_with (go_at_call 49; ((with_reducible refine (ct _ hb3).mono ?_); rintro e w4 ⟨rfl, ht⟩))
  go_ret
  exact ⟨rfl, ht⟩
end
end Go.Proofs.YtphifanacehppaaGreat.journal
/- Contract of a journal's add where the frame is laid at the tail, and of add in one form. No condition but a flash with fewer than 2^60 writes. -/
namespace Go.Proofs.YtphifanacehppaaGreat.journal
open Go.RowKit Go.Proofs.YtphifanacehppaaGreat.flash Go.Proofs.YtphifanacehppaaGreat.geom
set_option linter.unusedVariables false

section
variable {M S X : Nat → Prop} {j d b : Nat} {g : Geo} {F : Fl} {J : Jv} {wv cv : Value} {w : World}
set_option maxRecDepth 20000 in
set_option maxHeartbeats 1600000 in
theorem add_lay (h : JIn M S X j d b g F J wv cv w) (fits : Fits F g) (hcnt : F.count < 1152921504606846976) (hs : J.sector ≤ 1) (hq : J.p.seq < 1073741823) (hq0 : J.p.seq ≠ 0) (hso : J.p.Sound) (htl : (J.p.tail : Int) ≤ g.sector) (hl : ¬ g.life ≤ J.p.seq) (htn : J.torn = false) (k : Nat) (hk : k = 1 ∨ k = 2) (x y : Option Addr) (n c m e : Nat) (L : List Nat)
    (hfull : ¬ g.sector - J.p.tail < (n : Int) + 3)
    (hr : Reads .u32 w x n L) (hL : ∀ y ∈ L, y < 4294967296) (hb : loadB L = true) :
    Calls Tryz.prog 50 #[.pointer (some ⟨j, 0, none⟩), .int .i64 (k : Int), .slice x n c, .slice y m e] w fun e w' => e = .returned (.int .i64 (layV F g J k L).1) ∧ JTurn M j d b g (layV F g J k L).2.1 (layV F g J k L).2.2 w w' := by
  have hb' := of_decide_eq_true hb
  have hnl : L.length = n := hr.1
  have cw := worn_this h (Nat.le_of_lt hq)
  rw [decide_eq_false hl] at cw
  have cn := next_from h hq k hk x n c L hr hL hb
  have cg : ∀ w', Below w.heap.size w w' → _ := fun w' hb => geometry_from h.dr hb
  have hW : ∀ y ∈ frame.words k (J.p.seq + 1) L, y < 4294967296 := frame.words_lt k (J.p.seq + 1) L (by omega) (by omega) hb'.2 hL
  have hWl : (frame.words k (J.p.seq + 1) L).length = n + 3 := by rw [frame.words_length, hnl]
  have HSC : Hid (scan (n + 3) J.p (frame.words k (J.p.seq + 1) L) = J.p.add k (J.p.seq + 1) L) := hid (by
    have hok : frame.okB ((k : Nat) : Int) ((J.p.seq + 1 : Nat) : Int) L.length = true := frame.okB_true.2 ⟨by omega, by omega, by omega, hb'.1, hb'.2⟩
    exact scan_words hok (by unfold Part.takes; rw [if_neg hq0]; simp) (by omega))
  have cwr : ∀ q c' w1, w.heap.size ≤ q → Row w1 43 .u32 q c' (frame.words k (J.p.seq + 1) L) → Below w.heap.size w w1 →
      Calls Tryz.prog 73 #[.pointer (some ⟨d, 0, none⟩), .int .i64 (J.sector : Int), .int .i64 (J.p.tail : Int), .slice (some ⟨q, 0, none⟩) (n + 3) c'] w1
        (Did S b (drive.write F g J.sector J.p.tail (frame.words k (J.p.seq + 1) L)).2 (.int .i64 (drive.write F g J.sector J.p.tail (frame.words k (J.p.seq + 1) L)).1) w1) := fun q c' w1 hq0 hrow hb1 => by
    have hrd := hrow.reads
    rw [hWl] at hrd
    have hb := fits.bounds
    exact drive.write_this (h.later hb1).dr fits.ok fits.ft (by omega) J.sector J.p.tail (by omega) (some ⟨q, 0, none⟩) (n + 3) c' _ hrd hW (.inr ⟨_, rfl, fun hsq => by
      have := h.lm _ (h.sub _ (.inl hsq))
      have h2 : q < w.heap.size := this
      omega⟩)
  have HS := h.seen
  rw [htn] at HS
  obtain ⟨b1, b2, b3, b4, b5⟩ := fits.bounds
  have hwr : IntKind.i64.wrap (g.sector - (J.p.tail : Int)) = g.sector - (J.p.tail : Int) := IntWalk.i64_in _ (by omega)
  have hfd : ∀ W, (Instr.field 23 (.agg #[.int .i64 g.sector, .int .i64 g.slot, .int .i64 g.data, .int .i64 g.quota, .int .i64 g.tries, .int .i64 g.life]) 0).run Tryz.prog W = .ok (.int .i64 g.sector) W := fun W => by kernel_rfl
  have hn3 : (n : Int) ≤ 56 := by omega
  have HN3 := hid (show n ≤ 56 by omega)
  have HT := hid (show J.p.tail ≤ 1024 by omega)
  have H := hid h
  have HWW := hid hW
  have HWL := hid hWl
  have HSO := hid hso
  unfold layV
  generalize drive.write F g J.sector J.p.tail (frame.words k (J.p.seq + 1) L) = R at *
  obtain ⟨z, G⟩ := R
  simp only at *
  generalize frame.words k (J.p.seq + 1) L = W at *
  obtain ⟨s, p, tn⟩ := J
  simp only at *
  subst htn
  generalize hTe : (p.tail : Int) = T at *
  have HTE := hid hTe
  clear h fits hcnt hr hL hb hb' b3 b4 b5 hW hWl hTe hso hnl hk
  have fin : ∀ q c' w1 w2, w.heap.size ≤ q → Row w1 43 .u32 q c' W → Below w.heap.size w w1 → drive.Turn S b G w1 w2 →
      Calls Tryz.prog 45 #[.pointer (some ⟨j, 2, none⟩), .slice (some ⟨q, 0, none⟩) (n + 3) c'] w2 fun e w' => e = .returned (.tuple #[]) ∧ JTurn M j d b g G ⟨s, p.add k (p.seq + 1) L, false⟩ w w' := fun q c' w1 w2 hq0 hrow hb1 ht => by
    obtain ⟨S', h2, h3, h4⟩ := (H.out.later hb1).turn ht
    have hs12 := h4.size
    have hs01 := hb1.size
    have hqS : ¬ S q := fun hsq => by have := H.out.lm _ (H.out.sub _ (.inl hsq)); omega
    have hrow3 := hrow.only h4 hqS
    have hrd := hrow3.reads
    rw [HWL.out] at hrd
    obtain ⟨pad, _, hcl, hcm⟩ := hrow
    have hjlt : j < w.heap.size := H.out.blk.lt
    have hXlt : ∀ y, X y → y < w.heap.size := fun y hy => H.out.lm y (H.out.sub y (.inr (.inl hy)))
    have cp := read_part (X := X) (b := j) (o := 2) p (some ⟨q, 0, none⟩) (n + 3) c' W w2 h2.blk (by simp) rfl rfl rfl rfl h2.wh h2.ch h2.xj (fun y hy => by have := hXlt y hy; omega) HSO.out hrd HWW.out (by rw [← HWL.out]; exact hcl) hcm (by have := HN3.out; have := HT.out; omega)
      (fun y hy => by
        cases hy
        have h2 := hrow3.lt
        exact ⟨h2, show q ≠ j by omega, fun hx => by have h3 : q < w.heap.size := hXlt q hx; omega⟩)
    rw [HSC.out] at cp
    refine cp.mono ?_
    rintro e w4 ⟨rfl, hdone⟩
    refine ⟨rfl, ?_⟩
    have hr := h2.read (A := s) (R := p.add k (p.seq + 1) L) (tn := false) rfl (by simp) (Only.refl _ _) hdone
    exact JTurn.before hb1 (JTurn.join (M := M) (w := w1) (fun x hx => ⟨hx.2, hx.1⟩) (h4.mono fun x hx _ => H.out.sub x (.inl hx)) hr)
  by_cases hz : z = 0
  · subst hz
    rw [if_neg (fun h => h rfl)]
    simp only
    go_enter Tryz.func50, Tryz.ntmps50
    go_wp2_with (first
      | (go_at_call 48; ((with_reducible refine cw.mono ?_); rintro e w1 ⟨rfl, hb1⟩))
      | (go_at_call 71; ((with_reducible refine (cn _ hb1).mono ?_); rintro e w2 ⟨q, c', rfl, hq0, hrow, hb2⟩; have hk2 := HS.out w2 hb2)))
    have hB2 : Below w.heap.size w w2.drew := below_drewN hb2 1
    have hk3 := HS.out _ hB2
    have hB22 : Below w2.heap.size w2 w2.drew := below_drewN (Below.refl _ _) 1
    have cg3 := geometry_from (H.out.later hb2).dr hB22
    have HROW := hid hrow
    have HQ0 := hid hq0
    clear cg hrow hq0
    go_region_held3 (fun w' => w'.cell? ⟨j, 0, none⟩ = some (.pointer (some ⟨d, 0, none⟩)) ∧ w'.cell? ⟨j, 5, none⟩ = some (.int .i64 T) ∧ w'.cell? ⟨j, 6, none⟩ = some (.bool false)) (first | assumption | go_keep) (
      (go_at_call 44; (with_reducible refine cg3.mono ?_); rintro e w3 ⟨rfl, hb3⟩; have hk4 := HS.out w3 (hb2.trans (hb3.mono hb2.size))))
    have hb3' : Below w.heap.size w w3.drew := below_drewN (hb2.trans (hb3.mono hb2.size)) 1
    have hrow3 : Row w3.drew 43 .u32 q c' W := HROW.out.later (below_drewN hb3 1)
    have hk5 := HS.out _ hb3'
    have cwr3 := cwr q c' _ HQ0.out hrow3 hb3'
    clear cg3 hk2 hk3 cwr
    go_wp2
    go_region_held3 (fun w' => w'.cell? ⟨j, 0, none⟩ = some (.pointer (some ⟨d, 0, none⟩)) ∧ w'.cell? ⟨j, 1, none⟩ = some (.int .i64 (s : Int)) ∧ w'.cell? ⟨j, 5, none⟩ = some (.int .i64 T)) (first | assumption | go_keep) (
      (go_at_call 73; (with_reducible refine cwr3.mono ?_); rintro e w4 ⟨rfl, ht⟩; obtain ⟨S', h2, _, _⟩ := (H.out.later hb3').turn ht; have hk6 := h2.cells; simp only [HTE.out] at hk6))
    have cf := fin q c' _ _ HQ0.out hrow3 hb3' ht
    go_wp2_with (go_at_call 45; ((with_reducible refine cf.mono ?_); rintro e w5 ⟨rfl, hfin⟩))
    go_ret
    exact ⟨rfl, hfin⟩
  · rw [if_pos hz]
    simp only
    have hzb : (z != 0) = true := by simpa using hz
    clear fin
    go_enter Tryz.func50, Tryz.ntmps50
    go_wp2_with (first
      | (go_at_call 48; ((with_reducible refine cw.mono ?_); rintro e w1 ⟨rfl, hb1⟩))
      | (go_at_call 71; ((with_reducible refine (cn _ hb1).mono ?_); rintro e w2 ⟨q, c', rfl, hq0, hrow, hb2⟩; have hk2 := HS.out w2 hb2)))
    have hB2 : Below w.heap.size w w2.drew := below_drewN hb2 1
    have hk3 := HS.out _ hB2
    have hB22 : Below w2.heap.size w2 w2.drew := below_drewN (Below.refl _ _) 1
    have cg3 := geometry_from (H.out.later hb2).dr hB22
    have HROW := hid hrow
    have HQ0 := hid hq0
    clear cg hrow hq0
    go_region_held3 (fun w' => w'.cell? ⟨j, 0, none⟩ = some (.pointer (some ⟨d, 0, none⟩)) ∧ w'.cell? ⟨j, 5, none⟩ = some (.int .i64 T) ∧ w'.cell? ⟨j, 6, none⟩ = some (.bool false)) (first | assumption | go_keep) (
      (go_at_call 44; (with_reducible refine cg3.mono ?_); rintro e w3 ⟨rfl, hb3⟩; have hk4 := HS.out w3 (hb2.trans (hb3.mono hb2.size))))
    have hb3' : Below w.heap.size w w3.drew := below_drewN (hb2.trans (hb3.mono hb2.size)) 1
    have hrow3 : Row w3.drew 43 .u32 q c' W := HROW.out.later (below_drewN hb3 1)
    have hk5 := HS.out _ hb3'
    have cwr3 := cwr q c' _ HQ0.out hrow3 hb3'
    clear cg3 hk2 hk3 cwr
    go_wp2
    go_region_held3 (fun w' => w'.cell? ⟨j, 0, none⟩ = some (.pointer (some ⟨d, 0, none⟩)) ∧ w'.cell? ⟨j, 1, none⟩ = some (.int .i64 (s : Int)) ∧ w'.cell? ⟨j, 5, none⟩ = some (.int .i64 T)) (first | assumption | go_keep) (
      (go_at_call 73; (with_reducible refine cwr3.mono ?_); rintro e w4 ⟨rfl, ht⟩; obtain ⟨S', h2, _, _⟩ := (H.out.later hb3').turn ht; have hk6 := h2.cells; simp only [HTE.out] at hk6))
    go_wp2
    go_ret
    exact ⟨rfl, JTurn.before hb3' ((H.out.later hb3').turned ht)⟩
/-- add, in one form -/
theorem add_this (h : JIn M S X j d b g F J wv cv w) (fits : Fits F g) (hcnt : F.count < 1152921504606846976) (hso : J.Sound g) (hq0 : J.p.seq ≠ 0) (k : Nat) (hk : k = 1 ∨ k = 2) (x y : Option Addr) (n c m e : Nat) (L V : List Nat)
    (hr : Reads .u32 w x n L) (hL : ∀ y ∈ L, y < 4294967296) (hb : loadB L = true) (hr2 : Reads .u32 w y m V) (hV : ∀ y ∈ V, y < 4294967296) (hb2 : loadB V = true) :
    Calls Tryz.prog 50 #[.pointer (some ⟨j, 0, none⟩), .int .i64 (k : Int), .slice x n c, .slice y m e] w fun e w' => e = .returned (.int .i64 (addV F g J k L V).1) ∧ JTurn M j d b g (addV F g J k L V).2.1 (addV F g J k L V).2.2 w w' := by
  have hn : L.length = n := hr.1
  have hlf := fits.bounds.2.2.2.2
  unfold addV
  by_cases hl : g.life ≤ J.p.seq
  · rw [if_pos hl]
    exact add_worn h hso.p.seq hl k x y n c m e
  · rw [if_neg hl]
    by_cases htn : J.torn = true
    · rw [if_pos (show full g J L from .inl htn)]
      exact add_torn h fits hcnt hso.sector (by omega) hl htn k hk x y n c m e L V hr hL hb hr2 hV hb2
    · have htn' : J.torn = false := by simpa using htn
      by_cases hf : g.sector - (J.p.tail : Int) < ((L.length + 3 : Nat) : Int)
      · rw [if_pos (show full g J L from .inr hf)]
        exact add_full h fits hcnt hso.sector (by omega) hso.tail hl htn' k hk x y n c m e L V (by omega) hr hL hb hr2 hV hb2
      · have hnf : ¬ full g J L := by
          rintro (h1 | h1)
          · exact htn h1
          · exact hf h1
        rw [if_neg hnf]
        exact add_lay h fits hcnt hso.sector (by omega) hq0 hso.p hso.tail hl htn' k hk x y n c m e L (by omega) hr hL hb
end
end Go.Proofs.YtphifanacehppaaGreat.journal
