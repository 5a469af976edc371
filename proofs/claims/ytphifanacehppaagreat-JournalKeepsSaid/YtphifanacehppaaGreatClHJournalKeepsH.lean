/- Lemmas of the claim HJournalKeeps. Each says its own conditions. -/
import Derived.Test.YtphifanacehppaaGreatClHJournalKeepsD
import Derived.Test.YtphifanacehppaaGreatClHJournalKeepsG
import Derived.Test.YtphifanacehppaaGreatCmG
import Derived.Test.YtphifanacehppaaGreatCmC
import Derived.Handy
import Derived.Test.YtphifanacehppaaGreatClHJournalKeepsB
/- Contracts of do and told of layer 11's statements. No condition but a flash with fewer than 2^60 writes. -/
namespace Go.Proofs.YtphifanacehppaaGreat.journal
open Go Go.RowKit Go.Proofs.YtphifanacehppaaGreat.flash Go.Proofs.YtphifanacehppaaGreat.geom
set_option linter.unusedVariables false

section
variable {M S X : Nat → Prop} {j d b : Nat} {g : Geo} {F : Fl} {J : Jv} {wv cv : Value} {w : World}
theorem do_this (h : JIn M S X j d b g F J wv cv w) (fits : Fits F g) (hcnt : F.count < 1152921504606846976) (hso : J.Sound g) (hq0 : J.p.seq ≠ 0) (k a : Int) (x y : Option Addr) (n c m e : Nat) (L V : List Nat)
    (hr : Reads .u32 w x n L) (hL : ∀ y ∈ L, y < 4294967296) (hr2 : Reads .u32 w y m V) (hV : ∀ y ∈ V, y < 4294967296) (hn : n ≤ 4611686018427387904) (hm : m ≤ 4611686018427387904) :
    Calls Tryz.prog 14 #[.pointer (some ⟨j, 0, none⟩), .agg #[.int .i64 k, .int .i64 a, .slice x n c, .slice y m e]] w fun o w' => o = .returned (.int .i64 (actV F g J k L V).1) ∧ JTurn M j d b g (actV F g J k L V).2.1 (actV F g J k L V).2.2 w w' := by
  obtain ⟨w1, hw1⟩ : ∃ z, Hid (w.alloc (.cells #[.int .i64 k, .int .i64 a, .slice x n c, .slice y m e] 40) = z) := ⟨_, rfl⟩
  have hb : Below w.heap.size w w1 := by rw [← hw1.out]; exact (Below.refl _ _).alloc (Nat.le_refl _) _
  have hB : Block w1 w.heap.size 40 [.int .i64 k, .int .i64 a, .slice x n c, .slice y m e] := by rw [← hw1.out]; exact Block.new w 40 [.int .i64 k, .int .i64 a, .slice x n c, .slice y m e]
  have k0 : w1.cell? ⟨w.heap.size, 0, none⟩ = some (.int .i64 k) := hB.cell 0
  have k2 : w1.cell? ⟨w.heap.size, 2, none⟩ = some (.slice x n c) := hB.cell 2
  have k3 : w1.cell? ⟨w.heap.size, 3, none⟩ = some (.slice y m e) := hB.cell 3
  have h1 := h.later hb
  have cc := change_this h1 fits hcnt hso hq0 x y n c m e L V (hr.below hb) hL (hr2.below hb) hV hn hm
  have cp := put_this h1 fits hcnt hso hq0 y m e V (hr2.below hb) hV hm
  have cm := mend_this h1 fits hcnt hso y m e V (hr2.below hb) hV hm
  have H := hid h
  have HB := hid hb
  obtain ⟨R, hR⟩ : ∃ R, Hid (actV F g J k L V = R) := ⟨_, rfl⟩
  rw [hR.out]
  have hR2 := hR.out
  unfold actV at hR2
  clear h fits hcnt hso hq0 hr hL hr2 hV hn hm hB hR h1 hb
  by_cases e01 : k = 0 ∨ k = 1
  · rw [if_pos e01] at hR2
    rw [hR2] at cc
    rcases e01 with rfl | rfl
    all_goals
      clear cp cm hR2
      go_enter Tryz.func14, Tryz.ntmps14
      go_wp2_with fail
      rw [hw1.out]
      go_wp2_with (go_at_call 26; ((with_reducible refine cc.mono ?_); rintro o w2 ⟨rfl, ht⟩))
      go_ret
      exact ⟨rfl, JTurn.before HB.out ht⟩
  · rw [if_neg e01] at hR2
    have f0 : (k == 0) = false := by simp; omega
    have f1 : (k == 1) = false := by simp; omega
    clear cc
    by_cases e2 : k = 2
    · rw [if_pos e2] at hR2
      rw [hR2] at cp
      subst e2
      clear cm hR2 e01
      go_enter Tryz.func14, Tryz.ntmps14
      go_wp2_with fail
      rw [hw1.out]
      go_wp2_with (go_at_call 27; ((with_reducible refine cp.mono ?_); rintro o w2 ⟨rfl, ht⟩))
      go_ret
      exact ⟨rfl, JTurn.before HB.out ht⟩
    · rw [if_neg e2] at hR2
      have f2 : (k == 2) = false := by simp; omega
      clear cp
      by_cases e3 : k = 3
      · rw [if_pos e3] at hR2
        rw [hR2] at cm
        subst e3
        clear hR2 e01 e2
        go_enter Tryz.func14, Tryz.ntmps14
        go_wp2_with fail
        rw [hw1.out]
        go_wp2_with (go_at_call 22; ((with_reducible refine cm.mono ?_); rintro o w2 ⟨rfl, ht⟩))
        go_ret
        exact ⟨rfl, JTurn.before HB.out ht⟩
      · rw [if_neg e3] at hR2
        have f3 : (k == 3) = false := by simp; omega
        subst hR2
        clear cm e01 e2 e3
        go_enter Tryz.func14, Tryz.ntmps14
        go_wp2_with fail
        rw [hw1.out]
        go_wp2
        go_ret
        exact ⟨rfl, JTurn.of ⟨_, _, _, _, H.out⟩ HB.out⟩
theorem told_this (h : RJIn M S X j d b g F J wv cv w) (fits : Fits F g) (hcnt : F.count < 1152921504606846976) (hso : J.Sound g) (hq0 : J.p.seq ≠ 0) (k a : Int) (x y : Option Addr) (n c m e : Nat) (L V : List Nat)
    (hr : Reads .u32 w x n L) (hL : ∀ y ∈ L, y < 4294967296) (hr2 : Reads .u32 w y m V) (hV : ∀ y ∈ V, y < 4294967296) :
    Calls Tryz.prog 12 #[.pointer (some ⟨j, 0, none⟩), .agg #[.int .i64 k, .int .i64 a, .slice x n c, .slice y m e]] w fun o w' => o = .returned (.int .i64 (actV F g J k L V).1) ∧ RJTurn M (fun x => S x ∨ x = j) j d b g (actV F g J k L V).2.1 (actV F g J k L V).2.2 w w' := by
  obtain ⟨w1, hw1⟩ : ∃ z, Hid (w.alloc (.cells #[.int .i64 k, .int .i64 a, .slice x n c, .slice y m e] 40) = z) := ⟨_, rfl⟩
  have hb : Below w.heap.size w w1 := by rw [← hw1.out]; exact (Below.refl _ _).alloc (Nat.le_refl _) _
  have hB : Block w1 w.heap.size 40 [.int .i64 k, .int .i64 a, .slice x n c, .slice y m e] := by rw [← hw1.out]; exact Block.new w 40 [.int .i64 k, .int .i64 a, .slice x n c, .slice y m e]
  have k0 : w1.cell? ⟨w.heap.size, 0, none⟩ = some (.int .i64 k) := hB.cell 0
  have k2 : w1.cell? ⟨w.heap.size, 2, none⟩ = some (.slice x n c) := hB.cell 2
  have k3 : w1.cell? ⟨w.heap.size, 3, none⟩ = some (.slice y m e) := hB.cell 3
  have h1 := h.later hb
  have cc := refPut_this h1 fits hcnt hso hq0 2 (.inr rfl) x y n c m e L V (hr.below hb) hL (hr2.below hb) hV
  have cp := refPut_this h1 fits hcnt hso hq0 1 (.inl rfl) y y m e m e V V (hr2.below hb) hV (hr2.below hb) hV
  have cm := refMend_this h1 fits hcnt hso y m e V (hr2.below hb) hV
  rw [show ((2 : Nat) : Int) = 2 from rfl] at cc
  rw [show ((1 : Nat) : Int) = 1 from rfl] at cp
  have H := hid h
  have HB := hid hb
  obtain ⟨R, hR⟩ : ∃ R, Hid (actV F g J k L V = R) := ⟨_, rfl⟩
  rw [hR.out]
  have hR2 := hR.out
  unfold actV at hR2
  clear h fits hcnt hso hq0 hr hL hr2 hV hB hR h1 hb
  by_cases e01 : k = 0 ∨ k = 1
  · rw [if_pos e01] at hR2
    rw [hR2] at cc
    rcases e01 with rfl | rfl
    all_goals
      clear cp cm hR2
      go_enter Tryz.func12, Tryz.ntmps12
      go_wp2_with fail
      rw [hw1.out]
      go_wp2_with (go_at_call 40; ((with_reducible refine cc.mono ?_); rintro o w2 ⟨rfl, ht⟩))
      go_ret
      exact ⟨rfl, RJTurn.before HB.out ht⟩
  · rw [if_neg e01] at hR2
    have f0 : (k == 0) = false := by simp; omega
    have f1 : (k == 1) = false := by simp; omega
    clear cc
    by_cases e2 : k = 2
    · rw [if_pos e2] at hR2
      rw [hR2] at cp
      subst e2
      clear cm hR2 e01
      go_enter Tryz.func12, Tryz.ntmps12
      go_wp2_with fail
      rw [hw1.out]
      go_wp2_with (go_at_call 40; ((with_reducible refine cp.mono ?_); rintro o w2 ⟨rfl, ht⟩))
      go_ret
      exact ⟨rfl, RJTurn.before HB.out ht⟩
    · rw [if_neg e2] at hR2
      have f2 : (k == 2) = false := by simp; omega
      clear cp
      by_cases e3 : k = 3
      · rw [if_pos e3] at hR2
        rw [hR2] at cm
        subst e3
        clear hR2 e01 e2
        go_enter Tryz.func12, Tryz.ntmps12
        go_wp2_with fail
        rw [hw1.out]
        go_wp2_with (go_at_call 41; ((with_reducible refine cm.mono ?_); rintro o w2 ⟨rfl, ht⟩))
        go_ret
        exact ⟨rfl, RJTurn.before HB.out ht⟩
      · rw [if_neg e3] at hR2
        have f3 : (k == 3) = false := by simp; omega
        subst hR2
        clear cm e01 e2 e3
        go_enter Tryz.func12, Tryz.ntmps12
        go_wp2_with fail
        rw [hw1.out]
        go_wp2
        go_ret
        exact ⟨rfl, RJTurn.of ⟨_, _, _, _, H.out⟩ HB.out⟩
end
end Go.Proofs.YtphifanacehppaaGreat.journal
/- Contracts of a journal's Seq, Whole, Changes, Torn and Place. No condition. -/
namespace Go.Proofs.YtphifanacehppaaGreat.journal
open Go.RowKit Go.Proofs.YtphifanacehppaaGreat.flash Go.Proofs.YtphifanacehppaaGreat.geom
set_option linter.unusedVariables false

theorem seq_none (w : World) : Calls Tryz.prog 17 #[.pointer none] w (Quiet (.int .i64 0) w) := by
  go_enter Tryz.func17, Tryz.ntmps17
  go_wp2
  go_ret
  exact ⟨rfl, 0, rfl⟩
theorem whole_none (w : World) : Calls Tryz.prog 19 #[.pointer none] w (Quiet (.slice none 0 0) w) := by
  go_enter Tryz.func19, Tryz.ntmps19
  go_wp2
  go_ret
  exact ⟨rfl, 0, rfl⟩
theorem changes_none (w : World) : Calls Tryz.prog 21 #[.pointer none] w (Quiet (.slice none 0 0) w) := by
  go_enter Tryz.func21, Tryz.ntmps21
  go_wp2
  go_ret
  exact ⟨rfl, 0, rfl⟩
theorem torn_none (w : World) : Calls Tryz.prog 23 #[.pointer none] w (Quiet (.bool false) w) := by
  go_enter Tryz.func23, Tryz.ntmps23
  go_wp2
  go_ret
  exact ⟨rfl, 0, rfl⟩
theorem place_none (w : World) : Calls Tryz.prog 25 #[.pointer none] w (Quiet (.tuple #[.int .i64 0, .int .i64 0]) w) := by
  go_enter Tryz.func25, Tryz.ntmps25
  go_wp2
  go_ret2
  exact ⟨rfl, 0, rfl⟩
/-- a slice of slices reads as loads -/
def LoadsRead (w : World) (a : Option Addr) (Ls : List (List Nat)) : Prop :=
  Ls.length = 0 ∨ ∃ q off, a = some ⟨q, off, none⟩ ∧ q < w.heap.size ∧ ∀ i, i < Ls.length → ∃ x c, w.cell? ⟨q, off + i, none⟩ = some (.slice x (Ls.getD i []).length c) ∧ Reads .u32 w x (Ls.getD i []).length (Ls.getD i [])
theorem LoadsRead.below {w w' : World} {a : Option Addr} {Ls : List (List Nat)} (h : LoadsRead w a Ls) (k : Below w.heap.size w w') : LoadsRead w' a Ls := by
  rcases h with h | ⟨q, off, rfl, hq, h⟩
  · exact .inl h
  · refine .inr ⟨q, off, rfl, Nat.lt_of_lt_of_le hq k.size, fun i hi => ?_⟩
    obtain ⟨x, c, h1, h2⟩ := h i hi
    exact ⟨x, c, (k.cell (p := ⟨q, off + i, none⟩) hq).trans h1, h2.below k⟩
theorem LoadsAt.read {X : Nat → Prop} {w : World} {v : Value} {Ls : List (List Nat)} (h : LoadsAt X w v Ls) : ∃ a c, v = .slice a Ls.length c ∧ Ls.length ≤ c ∧ LoadsRead w a Ls ∧ (Ls.length = 0 ∨ ∃ y, a = some y ∧ X y.block) := by
  obtain ⟨vs, h1, h2, h3⟩ := h
  obtain ⟨a, c, rfl, hc⟩ := ownsRow_slice h1
  refine ⟨a, c, rfl, hc, ?_, ?_⟩
  · by_cases hz : Ls.length = 0
    · exact .inl hz
    · obtain ⟨q, cap, he, _, hq, _⟩ := ownsRow_form h1 (by omega)
      cases he
      refine .inr ⟨q, 0, rfl, hq, fun i hi => ?_⟩
      obtain ⟨u, hu, hl⟩ := h3 i hi
      obtain ⟨x, k, rfl, _, _, hr, _⟩ := hl.reads
      have hv := (Vals.own h1).2
      rcases hv with hv | ⟨b, off, hb, _, hv⟩
      · omega
      · cases hb
        exact ⟨x, k, hv i _ hu, hr⟩
  · by_cases hz : Ls.length = 0
    · exact .inl hz
    · obtain ⟨q, cap, he, _⟩ := ownsRow_form h1 (by omega)
      cases he
      exact .inr ⟨_, rfl, h2 q rfl⟩
section
variable {M S X : Nat → Prop} {j d b : Nat} {g : Geo} {F : Fl} {J : Jv} {wv cv : Value} {w : World}
theorem seq_this (h : JIn M S X j d b g F J wv cv w) : Calls Tryz.prog 17 #[.pointer (some ⟨j, 0, none⟩)] w (Quiet (.int .i64 (J.p.seq : Int)) w) := by
  have hk := h.cells
  clear h
  go_enter Tryz.func17, Tryz.ntmps17
  go_wp2
  go_ret
  exact ⟨rfl, 0, rfl⟩
theorem torn_this (h : JIn M S X j d b g F J wv cv w) : Calls Tryz.prog 23 #[.pointer (some ⟨j, 0, none⟩)] w (Quiet (.bool J.torn) w) := by
  have hk := h.cells
  clear h
  go_enter Tryz.func23, Tryz.ntmps23
  go_wp2
  go_ret
  exact ⟨rfl, 0, rfl⟩
theorem place_this (h : JIn M S X j d b g F J wv cv w) : Calls Tryz.prog 25 #[.pointer (some ⟨j, 0, none⟩)] w (Quiet (.tuple #[.int .i64 (J.sector : Int), .int .i64 (J.p.tail : Int)]) w) := by
  have hk := h.cells
  clear h
  go_enter Tryz.func25, Tryz.ntmps25
  go_wp2
  go_quiet (fail)
  go_wp2
  go_ret2
  exact ⟨rfl, _, rfl⟩
theorem clone_from {w0 w : World} {a : Option Addr} {c : Nat} {L : List Nat} (hr : Reads .u32 w a L.length L) (hn : L.length ≤ 56) (hb : Below w0.heap.size w0 w) :
    Calls Tryz.prog 42 #[.slice a L.length c] w fun e w' => ∃ x k, e = .returned (.slice x L.length k) ∧ Reads .u32 w' x L.length L ∧ (∀ y, x = some y → w.heap.size ≤ y.block ∧ y.block < w'.heap.size) ∧ Below w.heap.size w w' :=
  (u32_clone a L.length c L w hr (by omega)).mono fun e w' ⟨v, he, ho, hb2, _⟩ => by
    obtain ⟨x, k, rfl, hk⟩ := ownsRow_slice ho
    exact ⟨x, k, he, Reads.own ho, fun y hy => by subst hy; exact World.ownsRow.lt ho y.block rfl, hb2⟩
theorem whole_this (h : JIn M S X j d b g F J wv cv w) (hso : J.p.Sound) : Calls Tryz.prog 19 #[.pointer (some ⟨j, 0, none⟩)] w fun e w' => ∃ x k, e = .returned (.slice x J.p.whole.length k) ∧ Reads .u32 w' x J.p.whole.length J.p.whole ∧ (∀ y, x = some y → w.heap.size ≤ y.block ∧ y.block < w'.heap.size) ∧ Below w.heap.size w w' := by
  have hk := h.cells
  obtain ⟨a, c, rfl, _, _, hr, _, _⟩ := h.wh.reads
  have cc := clone_from (c := c) hr (by rcases hso.whole with k | k; · rw [k.2.1]; decide
                                        · exact k.2) (Below.refl w.heap.size w)
  clear h hr
  generalize J.p.whole.length = n at *
  go_enter Tryz.func19, Tryz.ntmps19
  go_wp2_with (go_at_call 42; ((with_reducible refine cc.mono ?_); rintro e w1 ⟨x, k, rfl, hr1, hx, hb1⟩))
  go_ret
  exact ⟨x, k, rfl, hr1, hx, hb1⟩
end
end Go.Proofs.YtphifanacehppaaGreat.journal
/- Contracts of the reference's Same at whatever lengths, and of SameLoads of layer 11. No condition. -/
namespace Go.Proofs.YtphifanacehppaaGreat.journal
open Go.RowKit Go.Proofs.YtphifanacehppaaGreat.flash Go.Proofs.YtphifanacehppaaGreat.geom
set_option linter.unusedVariables false

theorem sameW (a b : Option Addr) (n m ca cb : Nat) (xs ys : List Nat) (w : World) (ha : Reads .u32 w a n xs) (hb : Reads .u32 w b m ys) (hn : n ≤ 1048576) (hm : m ≤ 1048576) :
    Calls Tryz.prog 18 #[.slice a n ca, .slice b m cb] w (Quiet (.bool (decide (xs = ys))) w) := by
  by_cases h : n = m
  · subst h
    exact word.sameB_any a b n ca cb xs ys w ha hb (by omega)
  · have hne : xs ≠ ys := fun e => h (by rw [← ha.1, ← hb.1, e])
    rw [decide_eq_false hne]
    have hq : ((n : Int) != (m : Int)) = true := by simp; omega
    clear ha hb hne
    go_enter Tryz.func18, Tryz.ntmps18
    go_wp2
    go_ret
    exact ⟨rfl, 0, rfl⟩
set_option maxHeartbeats 1600000 in
theorem sameLoads_any (a b : Option Addr) (n m ca cb : Nat) (Ls Ks : List (List Nat)) (w : World) (ha : LoadsRead w a Ls) (hb : LoadsRead w b Ks) (hn : Ls.length = n) (hm : Ks.length = m) (hb1 : ∀ L ∈ Ls, L.length ≤ 56) (hb2 : ∀ L ∈ Ks, L.length ≤ 56) (hl : n ≤ 8192) (hl2 : m ≤ 8192) :
    Calls Tryz.prog 20 #[.slice a n ca, .slice b m cb] w (Quiet (.bool (decide (Ls = Ks))) w) := by
  obtain ⟨v, hv⟩ : ∃ v, Hid (decide (Ls = Ks) = v) := ⟨_, rfl⟩
  rw [hv.out]
  by_cases h : n = m
  · subst h
    have HA := hid ha
    have HB := hid hb
    have HN := hid hn
    have HM := hid hm
    have H1 := hid hb1
    have H2 := hid hb2
    clear ha hb hn hm hb1 hb2
    go_enter Tryz.func20, Tryz.ntmps20
    go_wp2
    go_loopw [5] (fun i wr => ∃ k : Nat, k ≤ n ∧ i = .int .i64 (k : Int) ∧ Hid (Ls.take k = Ks.take k) ∧ Hid (∃ m, wr = w.drewN m)) (fun i _ => n - (intOf i).toNat)
    case atStart => exact ⟨0, Nat.zero_le _, rfl, hid rfl, hid ⟨0, rfl⟩⟩
    case round =>
      obtain ⟨k, hk, rfl, heq, hwr⟩ := hrel
      have hbw : Below w.heap.size w wr := by obtain ⟨m, rfl⟩ := hwr.out; exact below_drewN (Below.refl _ _) m
      by_cases hlt : k < n
      · have hLk : k < Ls.length := by have := HN.out; omega
        have hKk : k < Ks.length := by have := HM.out; omega
        rcases HA.out.below hbw with h0 | ⟨qa, oa, rfl, _, hxa⟩
        · omega
        rcases HB.out.below hbw with h0 | ⟨qb, ob, rfl, _, hxb⟩
        · omega
        obtain ⟨x, cx, hc1, hr1⟩ := hxa k hLk
        obtain ⟨y, cy, hc2, hr2⟩ := hxb k hKk
        have e1 : (Ls.getD k []).length ≤ 56 := by rw [List.getD_eq_getElem?_getD, List.getElem?_eq_getElem hLk]; exact H1.out _ (List.getElem_mem _)
        have e2 : (Ks.getD k []).length ≤ 56 := by rw [List.getD_eq_getElem?_getD, List.getElem?_eq_getElem hKk]; exact H2.out _ (List.getElem_mem _)
        have cs : ∀ m, Calls Tryz.prog 18 #[.slice x (Ls.getD k []).length cx, .slice y (Ks.getD k []).length cy] (wr.drewN m) (Quiet (.bool (decide (Ls.getD k [] = Ks.getD k []))) (wr.drewN m)) := fun m => sameW x y _ _ cx cy _ _ _ (hr1.drewN m) (hr2.drewN m) (by omega) (by omega)
        have i1 : (k : Int) < n := by omega
        have HG : Hid (Ls.getD k [] = Ks.getD k [] → Ls.take (k + 1) = Ks.take (k + 1)) := hid fun e => by
          rw [List.take_add_one, List.take_add_one, heq.out]
          rw [List.getD_eq_getElem?_getD, List.getD_eq_getElem?_getD, List.getElem?_eq_getElem hLk, List.getElem?_eq_getElem hKk] at e
          simp only [Option.getD_some] at e
          rw [List.getElem?_eq_getElem hLk, List.getElem?_eq_getElem hKk, e]
        have HNE : Hid (Ls.getD k [] ≠ Ks.getD k [] → Ls ≠ Ks) := hid fun e e2 => e (by rw [e2])
        clear hxa hxb hr1 hr2 hbw
        generalize (Ls.getD k []).length = p at *
        generalize (Ks.getD k []).length = q at *
        by_cases he : Ls.getD k [] = Ks.getD k []
        · rw [decide_eq_true he] at cs
          have HT := hid (HG.out he)
          clear he HG HNE
          go_wp2
          go_quiet (first | (go_at_call 18; (with_reducible exact quietAt (cs _))))
          go_wp2
          exact ⟨⟨k + 1, by omega, by go_num, HT, hid (by obtain ⟨m, rfl⟩ := hwr.out; exact ⟨_, World.drewN_drewN _ _ _⟩)⟩, by simp [intOf]; omega⟩
        · rw [decide_eq_false he] at cs
          have HT := hid (HNE.out he)
          clear he HG HNE
          go_wp2
          go_quiet (first | (go_at_call 18; (with_reducible exact quietAt (cs _))))
          go_wp2
          go_ret
          obtain ⟨m, rfl⟩ := hwr.out
          exact ⟨ret_bool (by rw [← hv.out, decide_eq_false HT.out]), _, World.drewN_drewN _ _ _⟩
      · obtain rfl : k = n := by omega
        have hyes : Ls = Ks := by
          have := heq.out
          rwa [List.take_of_length_le (by rw [HN.out]; exact Nat.le_refl _), List.take_of_length_le (by rw [HM.out]; exact Nat.le_refl _)] at this
        go_wp2
        go_ret
        obtain ⟨m, rfl⟩ := hwr.out
        exact ⟨ret_bool (by rw [← hv.out, decide_eq_true hyes]), m, rfl⟩
  · have hne : Ls ≠ Ks := fun e => h (by rw [← hn, ← hm, e])
    have hv2 : Hid (v = false) := hid (by rw [← hv.out, decide_eq_false hne])
    have hq : ((n : Int) != (m : Int)) = true := by simp; omega
    clear ha hb hb1 hb2 hne
    go_enter Tryz.func20, Tryz.ntmps20
    go_wp2
    go_ret
    exact ⟨ret_bool hv2.out.symm, 0, rfl⟩
end Go.Proofs.YtphifanacehppaaGreat.journal
/- Contract of a journal's Changes. No condition. -/
namespace Go.Proofs.YtphifanacehppaaGreat.journal
open Go.RowKit Go.Proofs.YtphifanacehppaaGreat.flash Go.Proofs.YtphifanacehppaaGreat.geom
set_option linter.unusedVariables false

/-- the first k loads have been cloned into the row at lb -/
def Cloned (w : World) (lb N : Nat) (Ls : List (List Nat)) (k : Nat) (wr : World) : Prop :=
  ∃ vs, Block wr lb 24 vs ∧ vs.length = N ∧ (∀ i, i < k → ∃ x c, vs[i]? = some (.slice x (Ls.getD i []).length c) ∧ Reads .u32 wr x (Ls.getD i []).length (Ls.getD i []) ∧ ∀ y, x = some y → y.block ≠ lb) ∧ Below w.heap.size w wr
theorem Cloned.next {w w' wr : World} {lb N k : Nat} {Ls : List (List Nat)} (h : Cloned w lb N Ls k wr) (hl : w.heap.size ≤ lb) (hk : k < N) {x : Option Addr} {c : Nat} (hr : Reads .u32 w' x (Ls.getD k []).length (Ls.getD k [])) (hx : ∀ y, x = some y → wr.heap.size ≤ y.block ∧ y.block < w'.heap.size) (hb : Below wr.heap.size wr w') :
    Cloned w lb N Ls (k + 1) (w'.setCell ⟨lb, k, none⟩ (.slice x (Ls.getD k []).length c)) := by
  obtain ⟨vs, h1, h2, h3, h4⟩ := h
  have hlt := h1.lt
  have keep : ∀ {z : Option Addr} {L : List Nat}, Reads .u32 w' z L.length L → (∀ y, z = some y → y.block ≠ lb) → Reads .u32 (w'.setCell ⟨lb, k, none⟩ (.slice x (Ls.getD k []).length c)) z L.length L := fun {z L} hz hy =>
    reads_only (S := fun y => y = lb) hz ((Only.refl (fun y => y = lb) w').setCell (g := lb) (.inl rfl) k _) (by
      rcases hz.2 with h0 | ⟨q, off, h0, _⟩
      · exact .inl h0
      · exact .inr ⟨_, h0, hy _ h0⟩)
  have hxl : ∀ y, x = some y → y.block ≠ lb := fun y hy e => by have := (hx y hy).1; omega
  refine ⟨vs.set k (.slice x (Ls.getD k []).length c), (h1.later hb).setCell k _, by rw [List.length_set]; exact h2, fun i hi => ?_, (h4.trans (hb.mono h4.size)).setCell (p := ⟨lb, k, none⟩) hl _⟩
  by_cases e : i = k
  · subst e
    refine ⟨x, c, by rw [List.getElem?_set_self (by omega)], keep hr hxl, hxl⟩
  · obtain ⟨z, cz, k1, k2, k3⟩ := h3 i (by omega)
    exact ⟨z, cz, by rw [List.getElem?_set_ne (fun h => e h.symm)]; exact k1, keep (k2.below hb) k3, k3⟩
theorem Cloned.read {w wr : World} {lb N : Nat} {Ls : List (List Nat)} (h : Cloned w lb N Ls N wr) (hN : Ls.length = N) : LoadsRead wr (some ⟨lb, 0, none⟩) Ls := by
  obtain ⟨vs, h1, h2, h3, h4⟩ := h
  refine .inr ⟨lb, 0, rfl, h1.lt, fun i hi => ?_⟩
  obtain ⟨x, c, k1, k2, _⟩ := h3 i (by omega)
  exact ⟨x, c, by rw [Nat.zero_add, h1.cell]; exact k1, k2⟩
set_option maxHeartbeats 1600000 in
theorem changes_this {M S X : Nat → Prop} {j d b : Nat} {g : Geo} {F : Fl} {J : Jv} {wv cv : Value} {w : World} (h : JIn M S X j d b g F J wv cv w) (hso : J.p.Sound) (hlen : J.p.changes.length ≤ 8192) :
    Calls Tryz.prog 21 #[.pointer (some ⟨j, 0, none⟩)] w fun e w' => ∃ a, e = .returned (.slice a J.p.changes.length J.p.changes.length) ∧ LoadsRead w' a J.p.changes ∧ (∀ y, a = some y → w.heap.size ≤ y.block ∧ y.block < w'.heap.size) ∧ Below w.heap.size w w' := by
  have HS := h.seen
  obtain ⟨a, cc, rfl, hcc, hrd, _⟩ := h.ch.read
  have hk0 := HS.out w (Below.refl _ _)
  have HRD := hid hrd
  have HSM := hid (fun L hL => (hso.changes L hL).2.1)
  obtain ⟨j0, hj, hy0, hy1, hy2⟩ := info_parts slice_info
  clear h hrd hso
  generalize hLs : J.p.changes = Ls at *
  generalize hN : Ls.length = N at *
  have HN := hid hN
  clear hN hLs
  go_enter Tryz.func21, Tryz.ntmps21
  go_wp2_with (at_make; refine wpList_make_full _ rfl _ _ 46 rfl w.heap.size 24 j0 (.slice none 0 0) 1 Tryz.underlying46 hj hy0 hy1 _ _ _ _ N rfl rfl (by go_num) (by go_num) (by rw [hy2]; omega) (by unfold maxLen; omega) (Nat.le_refl _) ?_)
  intro w1 hown hgrow
  have hb1 : Below w.heap.size w w1 := (Below.refl _ _).grown hgrow (Nat.le_refl _) (fun k h => by cases h)
  have hC : Cloned w w.heap.size N Ls 0 w1 := by
    rcases hown.2 with ⟨h0, _⟩ | ⟨q, cap, cur, he, _, hq, _, _, hcs, _⟩
    · cases h0
    · simp only [Value.slice.injEq, Option.some.injEq, Addr.mk.injEq, and_true, true_and] at he
      obtain ⟨rfl, rfl⟩ := he
      refine ⟨cur.toList, by simpa [Block] using hq, by simpa using hcs, fun i hi => by omega, hb1⟩
  have HC := hid hC
  have hk1 := HS.out w1 hb1
  clear hown hgrow hC
  go_wp2
  go_loopw [21] (fun i wr => ∃ k : Nat, k ≤ N ∧ i = .int .i64 (k : Int) ∧ Hid (Cloned w w.heap.size N Ls k wr)) (fun i _ => N - (intOf i).toNat)
  case atStart => exact ⟨0, Nat.zero_le _, rfl, HC⟩
  case round =>
    obtain ⟨k, hk, rfl, hcl⟩ := hrel
    by_cases hlt : k < N
    · have hbr : Below w.heap.size w wr := by obtain ⟨_, _, _, _, h⟩ := hcl.out; exact h
      rcases HRD.out.below hbr with h0 | ⟨q, off, rfl, hq, hx⟩
      · have := HN.out; omega
      obtain ⟨x, c, hc1, hr1⟩ := hx k (by have := HN.out; omega)
      have hL56 : (Ls.getD k []).length ≤ 56 := by
        rw [List.getD_eq_getElem?_getD, List.getElem?_eq_getElem (by have := HN.out; omega)]
        exact HSM.out _ (List.getElem_mem _)
      have cl := clone_from (c := c) hr1 hL56 (Below.refl wr.heap.size wr)
      have HBL : Hid (∃ vs, Block wr w.heap.size 24 vs ∧ vs.length = N) := hid (by obtain ⟨vs, h1, h2, _⟩ := hcl.out; exact ⟨vs, h1, h2⟩)
      have i1 : (k : Int) < N := by omega
      generalize hLk : (Ls.getD k []).length = n at *
      have HLK := hid hLk
      clear hx hr1 hLk
      go_wp2_with (go_at_call 42; ((with_reducible refine cl.mono ?_); rintro e w2 ⟨x2, c2, rfl, hr2, hx2, hb2⟩; obtain ⟨vs, hv1, hv2⟩ := HBL.out; have hv3 := hv1.later hb2; obtain ⟨u, hu⟩ : ∃ u, vs[k]? = some u := ⟨_, List.getElem?_eq_getElem (show k < vs.length by omega)⟩; have hc3 : w2.cell? ⟨w.heap.size, k, none⟩ = some u := (hv3.cell k).trans hu; have hf3 := hv3.frozen k; clear hv3 hv1 hv2 hu))
      refine ⟨⟨k + 1, by omega, by go_num, hid ?_⟩, ?_⟩
      · have := hcl.out.next (Nat.le_refl _) hlt (x := x2) (c := c2) (w' := w2) (by rw [HLK.out]; exact hr2) hx2 hb2
        rw [HLK.out] at this
        exact this
      · simp [intOf]; omega
    · obtain rfl : k = N := by omega
      have hfin := hcl.out.read HN.out
      have hbr : Below w.heap.size w wr := by obtain ⟨_, _, _, _, h⟩ := hcl.out; exact h
      have hlb : w.heap.size < wr.heap.size := by obtain ⟨vs, h1, _⟩ := hcl.out; exact h1.lt
      have HF := hid hfin
      clear hfin
      go_wp2
      go_ret
      exact ⟨_, rfl, HF.out, fun y hy => by cases hy; exact ⟨Nat.le_refl _, hlb⟩, hbr⟩
end Go.Proofs.YtphifanacehppaaGreat.journal
/- A region walked by a schedule that the prover names: an operation whose guard does not hold is passed by; comparisons of ints. No condition. -/
namespace Go.Proofs.YtphifanacehppaaGreat.plan
open Go Go.RowKit

section
variable {P : Program} {md : Region.Mode} {Q : Exit → Act → World → Prop} {l : List Oper}
theorem Rest.skip {f : Nat} {listed : Array Bool} {a : Act} {w : World} (i : Nat) (o : Oper) (hi : l[i]? = some o) (hs : Region.noSelect l.toArray = true) (hf : Region.free md l.toArray listed i = true)
    (hr : (Region.ready md l.toArray listed).contains i = true) (hw : Region.wanted o (yielded l.toArray a.tmps) = false)
    (h : Rest P md l Q f (listed.setIfInBounds i true) (a.put o.dst undef) w) : Rest P md l Q (f + 1) listed a w :=
  wpAnyH_take (by simpa using hi) hs hf hr (fun c a' w' h => h) (.inr ⟨hw, rfl⟩) (Below.refl _ _) h
end
theorem eqg (t : TypeId) (x y : Operand) (k : IntKind) (n m : Int) (w : World) (P : Program) : (eqGuard .eql t x y (.int k n) (.int k m)).run P w = .ok () w := by simp [go_sem]
end Go.Proofs.YtphifanacehppaaGreat.plan
