/- Lemmas of the claim HJournalKeeps. Each says its own conditions. -/
import Derived.Test.YtphifanacehppaaGreatClHJournalKeepsQ
import Derived.Test.YtphifanacehppaaGreatCmA
import Derived.Deep.Slices
import Derived.Deep.Strs
import Derived.Lib.SmallJoins
/- Contract of awake of layer 11's statements, and what is seen of a journal among others. No condition. -/
namespace Go.Proofs.YtphifanacehppaaGreat.journal
open Go Go.RowKit Go.Proofs.YtphifanacehppaaGreat.flash Go.Proofs.YtphifanacehppaaGreat.geom Go.Proofs.YtphifanacehppaaGreat.word
set_option linter.unusedVariables false

section
variable {w0 wr w' : World} {Q : Nat → Prop} {j d b r e c : Nat} {g : Geo} {F G : Fl} {J K : Jv}
theorem duo_change (h : Duo2 w0 Q j d b r e c g F J G K wr) (fits : Fits F g) (hcnt : F.count < 1152921504606846976) (hso : J.Sound g) (hq0 : J.p.seq ≠ 0) (x y : Option Addr) (n cx m cy : Nat) (L V : List Nat)
    (hr : Reads .u32 wr x n L) (hL : ∀ y ∈ L, y < 4294967296) (hr2 : Reads .u32 wr y m V) (hV : ∀ y ∈ V, y < 4294967296) (hn : n ≤ 4611686018427387904) (hm : m ≤ 4611686018427387904) :
    Calls Tryz.prog 26 #[.pointer (some ⟨j, 0, none⟩), .slice x n cx, .slice y m cy] wr fun o w' => o = .returned (.int .i64 (putV F g J 2 L V).1) ∧ Duo2 w0 Q j d b r e c g (putV F g J 2 L V).2.1 (putV F g J 2 L V).2.2 G K w' ∧ Stays Q wr w' := by
  obtain ⟨M, N, h, hq⟩ := h
  obtain ⟨S, X, wv, cv, hj⟩ := h.pj
  refine (change_this hj fits hcnt hso hq0 x y n cx m cy L V hr hL hr2 hV hn hm).mono ?_
  rintro o w' ⟨ho, ht⟩
  exact ⟨ho, h.act2 hq ht⟩
/-- what is seen of the program's journal -/
structure Sees (j : Nat) (J : Jv) (w : World) : Prop where
  seq : ∀ w', Below w.heap.size w w' → Calls Tryz.prog 17 #[.pointer (some ⟨j, 0, none⟩)] w' (Quiet (.int .i64 (J.p.seq : Int)) w')
  torn : ∀ w', Below w.heap.size w w' → Calls Tryz.prog 23 #[.pointer (some ⟨j, 0, none⟩)] w' (Quiet (.bool J.torn) w')
  whole : ∀ w', Below w.heap.size w w' → Calls Tryz.prog 19 #[.pointer (some ⟨j, 0, none⟩)] w' fun e w2 => ∃ x k, e = .returned (.slice x J.p.whole.length k) ∧ Reads .u32 w2 x J.p.whole.length J.p.whole ∧ Below w'.heap.size w' w2
  changes : ∀ w', Below w.heap.size w w' → Calls Tryz.prog 21 #[.pointer (some ⟨j, 0, none⟩)] w' fun e w2 => ∃ a, e = .returned (.slice a J.p.changes.length J.p.changes.length) ∧ LoadsRead w2 a J.p.changes ∧ Below w'.heap.size w' w2
theorem duo_sees (h : Duo2 w0 Q j d b r e c g F J G K wr) (fits : Fits F g) (hso : J.Sound g) : Sees j J wr := by
  obtain ⟨M, N, h, hq⟩ := h
  obtain ⟨S, X, wv, cv, hj⟩ := h.pj
  have hb := fits.bounds
  have hlen : J.p.changes.length ≤ 8192 := by have := hso.p.count; have := hso.tail; omega
  exact ⟨fun w' hb => seq_this (hj.later hb), fun w' hb => torn_this (hj.later hb), fun w' hb => (whole_this (hj.later hb) hso.p).mono fun e w2 ⟨x, k, h1, h2, _, h3⟩ => ⟨x, k, h1, h2, h3⟩, fun w' hb => (changes_this (hj.later hb) hso.p hlen).mono fun e w2 ⟨a, h1, h2, _, h3⟩ => ⟨a, h1, h2, h3⟩⟩
end
/-- the law file's own geometry -/
def g0 : Geo := ⟨64, 2, 5, 2, 1, 9⟩
theorem g0_right : g0.Right := by unfold Geo.Right g0; decide
theorem one_row (w : World) (v : Nat) : Reads .u32 (w.alloc (.cells #[.int .u32 (v : Int)] 43)) (some ⟨w.heap.size, 0, none⟩) 1 [v] :=
  (Block.new w 43 [.int .u32 (v : Int)]).reads 0 [v] (fun i hi => by
    have : i = 0 := by simp at hi; omega
    subst this
    rfl) 1 rfl
/-- what awake's Change makes -/
theorem awake_put {F : Fl} (inv : Inv F g0 ⟨0, ⟨1, [5], [], 4⟩, false⟩) (hd : F.dark = false) (hf : F.fuse = none) : (putV F g0 ⟨0, ⟨1, [5], [], 4⟩, false⟩ 2 [7] [6]).1 = 0 ∧ (putV F g0 ⟨0, ⟨1, [5], [], 4⟩, false⟩ 2 [7] [6]).2.2 = ⟨0, ⟨2, [5], [[7]], 8⟩, false⟩ ∧ Inv (putV F g0 ⟨0, ⟨1, [5], [], 4⟩, false⟩ 2 [7] [6]).2.1 g0 ⟨0, ⟨2, [5], [[7]], 8⟩, false⟩ := by
  have hfu : ¬ full g0 ⟨0, ⟨1, [5], [], 4⟩, false⟩ [7] := by unfold full g0; decide
  have hl : ¬ g0.life ≤ ((1 : Nat) : Int) := by unfold g0; decide
  have e : putV F g0 ⟨0, ⟨1, [5], [], 4⟩, false⟩ 2 [7] [6] = layV F g0 ⟨0, ⟨1, [5], [], 4⟩, false⟩ 2 [7] := by
    unfold putV
    rw [if_pos (by decide)]
    unfold addV
    rw [if_neg hl, if_neg hfu]
  rw [e]
  obtain ⟨h1, h2⟩ := lay_inv inv hd (by show ((1 : Nat) : Int) < g0.life; unfold g0; decide) (k := 2) (load := [7]) (.inr rfl) (by decide) (by decide) hfu
  have h3 := (h2 hf).1
  rcases h1 with ⟨_, _, h5, h6⟩ | ⟨h4, _⟩
  · exact ⟨h3, h5, h6⟩
  · rw [h3] at h4; cases h4
theorem loads_one {w : World} {a : Option Addr} {L : List Nat} (h : LoadsRead w a [L]) : ∃ q off x c, a = some ⟨q, off, none⟩ ∧ q < w.heap.size ∧ w.cell? ⟨q, off, none⟩ = some (.slice x L.length c) ∧ Reads .u32 w x L.length L := by
  rcases h with h | ⟨q, off, ha, hq, h⟩
  · cases h
  · obtain ⟨x, c, h1, h2⟩ := h 0 (by simp)
    exact ⟨q, off, x, c, ha, hq, h1, h2⟩
theorem one_row5 (w : World) : Reads .u32 (w.alloc (.cells #[.int .u32 5] 43)) (some ⟨w.heap.size, 0, none⟩) 1 [5] := by
  have := one_row w 5
  rwa [show ((5 : Nat) : Int) = 5 from rfl] at this
theorem one_row7 (w : World) : Reads .u32 (w.alloc (.cells #[.int .u32 7] 43)) (some ⟨w.heap.size, 0, none⟩) 1 [7] := by
  have := one_row w 7
  rwa [show ((7 : Nat) : Int) = 7 from rfl] at this
theorem seven_lt : ∀ y ∈ [7], y < 4294967296 := fun y hy => by simp at hy; omega
theorem six_lt : ∀ y ∈ [6], y < 4294967296 := fun y hy => by simp at hy; omega
theorem five_lt : ∀ y ∈ [5], y < 4294967296 := fun y hy => by simp at hy; omega
theorem one_le : 1 ≤ 4611686018427387904 := by omega
theorem load5 : loadB [5] = true := by decide
set_option maxRecDepth 20000 in
set_option maxHeartbeats 6400000 in
theorem awake_any (w : World) : Calls Tryz.prog 8 #[] w fun o w' => o = .returned (.bool true) ∧ Below w.heap.size w w' := by
  have cb := fun w' : World => begin_this g0 g0_right (some ⟨w'.heap.size, 0, none⟩) 1 1 [5] (w'.alloc (.cells #[.int .u32 ((5 : Nat) : Int)] 43)) (one_row w' 5) five_lt one_le load5
  rw [show ((5 : Nat) : Int) = 5 from rfl, show g0.sector = 64 from rfl, show g0.slot = 2 from rfl, show g0.data = 5 from rfl, show g0.quota = 2 from rfl, show g0.tries = 1 from rfl, show g0.life = 9 from rfl, show [5].length + 3 = 4 from rfl] at cb
  obtain ⟨wA, hwA⟩ : ∃ z, Hid ((w.alloc (.cells #[.int .i64 64, .int .i64 2, .int .i64 5, .int .i64 2, .int .i64 1, .int .i64 9] 23)).alloc (.cells #[.int .u32 5] 43) = z) := ⟨_, rfl⟩
  have hbA : Below w.heap.size w wA := by rw [← hwA.out]; exact ((Below.refl _ _).alloc (Nat.le_refl _) _).alloc (by simp) _
  have cbA := cb (w.alloc (.cells #[.int .i64 64, .int .i64 2, .int .i64 5, .int .i64 2, .int .i64 1, .int .i64 9] 23))
  rw [hwA.out, show (w.alloc (.cells #[.int .i64 64, .int .i64 2, .int .i64 5, .int .i64 2, .int .i64 1, .int .i64 9] 23)).heap.size = w.heap.size + 1 by simp] at cbA
  clear cb
  have HBA := hid hbA
  go_enter Tryz.func8, Tryz.ntmps8
  go_wp2_with fail
  rw [hwA.out]
  go_wp2_with (go_at_call 9; ((with_reducible refine cbA.mono ?_); rintro o w2 ⟨b, d, j, r, e, c, F, rfl, D2, inv, hd, hct, hf, hb2⟩; have HD2 := hid D2; have HINV := hid inv; have HDK := hid hd; have HCT := hid hct; have HF := hid hf; have HB2 := hid hb2; clear D2 inv hd hct hf hb2))
  obtain ⟨w3, hw3⟩ : ∃ z, Hid (((w2.alloc (.cells #[.pointer (some ⟨b, 0, none⟩), .pointer (some ⟨d, 0, none⟩), .pointer (some ⟨j, 0, none⟩), .pointer (some ⟨r, 0, none⟩)] 34)).alloc (.cells #[.int .u32 7] 43)).alloc (.cells #[.int .u32 6] 43) = z) := ⟨_, rfl⟩
  have hb23 : Below w2.heap.size w2 w3 := by rw [← hw3.out]; exact (((Below.refl _ _).alloc (Nat.le_refl _) _).alloc (by simp) _).alloc (by simp; omega) _
  have P3 : Block w3 w2.heap.size 34 [.pointer (some ⟨b, 0, none⟩), .pointer (some ⟨d, 0, none⟩), .pointer (some ⟨j, 0, none⟩), .pointer (some ⟨r, 0, none⟩)] := by
    rw [← hw3.out]
    exact ((Block.new w2 34 [.pointer (some ⟨b, 0, none⟩), .pointer (some ⟨d, 0, none⟩), .pointer (some ⟨j, 0, none⟩), .pointer (some ⟨r, 0, none⟩)]).alloc _).alloc _
  have r7 : Reads .u32 w3 (some ⟨w2.heap.size + 1, 0, none⟩) 1 [7] := by
    rw [← hw3.out]
    have := one_row (w2.alloc (.cells #[.pointer (some ⟨b, 0, none⟩), .pointer (some ⟨d, 0, none⟩), .pointer (some ⟨j, 0, none⟩), .pointer (some ⟨r, 0, none⟩)] 34)) 7
    rw [show (w2.alloc (.cells #[.pointer (some ⟨b, 0, none⟩), .pointer (some ⟨d, 0, none⟩), .pointer (some ⟨j, 0, none⟩), .pointer (some ⟨r, 0, none⟩)] 34)).heap.size = w2.heap.size + 1 by simp, show ((7 : Nat) : Int) = 7 from rfl] at this
    exact this.below ((Below.refl _ _).alloc (Nat.le_refl _) _)
  have r6 : Reads .u32 w3 (some ⟨w2.heap.size + 1 + 1, 0, none⟩) 1 [6] := by
    rw [← hw3.out]
    have := one_row ((w2.alloc (.cells #[.pointer (some ⟨b, 0, none⟩), .pointer (some ⟨d, 0, none⟩), .pointer (some ⟨j, 0, none⟩), .pointer (some ⟨r, 0, none⟩)] 34)).alloc (.cells #[.int .u32 7] 43)) 6
    rwa [show ((w2.alloc (.cells #[.pointer (some ⟨b, 0, none⟩), .pointer (some ⟨d, 0, none⟩), .pointer (some ⟨j, 0, none⟩), .pointer (some ⟨r, 0, none⟩)] 34)).alloc (.cells #[.int .u32 7] 43)).heap.size = w2.heap.size + 1 + 1 by simp, show ((6 : Nat) : Int) = 6 from rfl] at this
  have D3 := HD2.out.more (Q' := fun x => x = w2.heap.size) hb23 (fun x hx => by subst hx; exact .inr ⟨Nat.le_refl _, P3.lt⟩)
  have hap := awake_put HINV.out HDK.out HF.out
  have cch := duo_change D3 HINV.out.fits (by have := HCT.out; omega) HINV.out.sound HINV.out.seq (some ⟨w2.heap.size + 1, 0, none⟩) (some ⟨w2.heap.size + 1 + 1, 0, none⟩) 1 1 1 1 [7] [6] r7 seven_lt r6 six_lt one_le one_le
  rw [hap.1, hap.2.1] at cch
  have HI2 := hid hap.2.2
  have HP3 := hid P3
  generalize (putV F g0 ⟨0, ⟨1, [5], [], 4⟩, false⟩ 2 [7] [6]).2.1 = F2 at *
  clear P3 D3 r7 r6 hap
  rw [hw3.out]
  go_wp2_with (go_at_call 26; ((with_reducible refine cch.mono ?_); rintro o w4 ⟨rfl, D4, s4⟩; have P4 := s4.blk HP3.out rfl; have c2 : w4.cell? ⟨w2.heap.size, 2, none⟩ = some (.pointer (some ⟨j, 0, none⟩)) := P4.cell 2; have SE := duo_sees D4 HI2.out.fits HI2.out.sound; have HD4 := hid D4; have HP4 := hid P4; clear D4 s4 P4))
  have csq : ∀ w', Below w4.heap.size w4 w' → Calls Tryz.prog 17 #[.pointer (some ⟨j, 0, none⟩)] w' (Quiet (.int .i64 2) w') := fun w' hb => SE.seq w' hb
  have cwh : ∀ w', Below w4.heap.size w4 w' → Calls Tryz.prog 19 #[.pointer (some ⟨j, 0, none⟩)] w' fun e w2 => ∃ x k, e = .returned (.slice x 1 k) ∧ Reads .u32 w2 x 1 [5] ∧ Below w'.heap.size w' w2 := fun w' hb => SE.whole w' hb
  have cchg : ∀ w', Below w4.heap.size w4 w' → Calls Tryz.prog 21 #[.pointer (some ⟨j, 0, none⟩)] w' fun e w2 => ∃ a, e = .returned (.slice a 1 1) ∧ LoadsRead w2 a [[7]] ∧ Below w'.heap.size w' w2 := fun w' hb => SE.changes w' hb
  have cgo := cchg w4 (Below.refl _ _)
  have HPP : Hid (∀ w', Below w4.heap.size w4 w' → w'.cell? ⟨w2.heap.size, 2, none⟩ = some (.pointer (some ⟨j, 0, none⟩))) := hid fun w' hb => (HP4.out.later hb).cell 2
  clear SE cchg cch
  go_wp2_with (first
    | (go_at_call 21; ((with_reducible refine cgo.mono ?_); rintro o w5 ⟨a5, rfl, hl5, hb5⟩; obtain ⟨q5, o5, x5, c5, rfl, hq5, hc5, hr5⟩ := loads_one hl5; have p5 := HPP.out w5 hb5; have HC5 := hid hc5; have HR5 := hid hr5; clear hl5 hc5 hr5))
    | (go_at_call 17; ((with_reducible refine (csq _ hb5).mono ?_); rintro o w' ⟨rfl, m6, rfl⟩; have hb6 := below_drewN hb5 m6; have p6 := HPP.out _ hb6))
    | (go_at_call 19; ((with_reducible refine (cwh _ hb6).mono ?_); rintro o w7 ⟨x7, k7, rfl, hr7, hb7⟩; have hb57 : Below w5.heap.size w5 w7 := (below_drewN (Below.refl _ _) m6).trans (hb7.mono (Nat.le_refl _)); have hbn : Below w7.heap.size w7 (w7.alloc (.cells #[.int .u32 5] 43)) := (Below.refl _ _).alloc (Nat.le_refl _) _; have cs1 := same_any x7 (some ⟨w7.heap.size, 0, none⟩) 1 k7 1 [5] (w7.alloc (.cells #[.int .u32 5] 43)) (hr7.below hbn) (one_row5 w7) (by omega); have hb58 := hb57.trans (hbn.mono hb57.size)))
    | (go_at_call 18; ((with_reducible refine cs1.mono ?_); clear cs1; rintro o w' ⟨rfl, m8, rfl⟩; have hb59 := below_drewN hb58 m8; have hc9 : ((w7.alloc (.cells #[.int .u32 5] 43)).drewN m8).cell? ⟨q5, o5, none⟩ = some (.slice x5 1 c5) := (hb59.cell (p := ⟨q5, o5, none⟩) hq5).trans HC5.out; have HC9 := hid hc9; have hbm : ∀ z : World, Below z.heap.size z (z.alloc (.cells #[.int .u32 7] 43)) := (fun z => (Below.refl _ _).alloc (Nat.le_refl _) _); have cs2 : ∀ (z : World) (q : Nat), q = z.heap.size → Below w5.heap.size w5 z → Calls Tryz.prog 18 #[.slice x5 1 c5, .slice (some ⟨q, 0, none⟩) 1 1] (z.alloc (.cells #[.int .u32 7] 43)) (Quiet (.bool true) (z.alloc (.cells #[.int .u32 7] 43))) := (fun z q hq hz => hq ▸ same_any x5 (some ⟨z.heap.size, 0, none⟩) 1 c5 1 [7] (z.alloc (.cells #[.int .u32 7] 43)) (HR5.out.below (hz.trans ((hbm z).mono hz.size))) (one_row7 z) (by omega))))
    | (go_at_call 18; ((with_reducible refine (cs2 _ _ (by simp) hb59).mono ?_); rintro o w' ⟨rfl, m9, rfl⟩)))
  go_ret
  have hA4 : Below wA.heap.size wA w4 := HD4.out.below
  have hw4 := HBA.out.trans (hA4.mono HBA.out.size)
  have hw5 := hw4.trans (hb5.mono hw4.size)
  have hw9 := hw5.trans (hb59.mono hw5.size)
  exact ⟨rfl, below_drewN (hw9.alloc hw9.size _) m9⟩
end Go.Proofs.YtphifanacehppaaGreat.journal
/- What a slice of words that came in reads as. No condition. -/
namespace Go.Proofs.YtphifanacehppaaGreat
open Go.ChangeShapes Go.WideShapes Go.ChangeAt Go.RowKit Go.Deep
set_option linter.unusedVariables false

section
variable {H : Type} {enc : TypeId × Value → H} {P : Program} {W : World}
theorem open_words {t e : TypeId} {v : Value} {fuel : Nat} {y : DataW H × List MemPlace} (ht : P.underlying t = some (.slice e)) (he : P.underlying e = some (.int .u32)) (hc : P.cellsOf e = 1)
    (hf : DataW.trod enc P W 0 (fun _ => true) true fuel t [v] = some y) :
    ∃ (a : Option Addr) (len cap : Nat) (M : List Nat), v = .slice a len cap ∧ Reads .u32 W a len M ∧ (∀ x ∈ M, x < 4294967296) ∧ len ≤ cap ∧ cap ≤ maxLen := by
  rcases open_ints ht he hc hf with ⟨hcs, _⟩ | ⟨x, l, c, zs, hcs, _, hl, hm, hz, hx, hcell, hwz⟩
  · exact ⟨none, 0, 0, [], by simpa using hcs, Reads.nil, by simp, Nat.le_refl _, by unfold maxLen; omega⟩
  · simp only [if_true] at hz
    refine ⟨some x, l, c, (zs.take l).map Int.toNat, by simpa using hcs, ⟨by simp; omega, ?_⟩, ?_, hl, hm⟩
    · by_cases h : l = 0
      · exact .inl h
      · right
        obtain ⟨b, off, spot⟩ := x
        have hspot : spot = none := by simpa [Addr.add] using World.cell?_spot (hcell 0 (by omega))
        subst hspot
        have hb : b < W.heap.size := by
          have := World.block_lt_of_cell? W _ (hcell 0 (by omega))
          simpa [Addr.add] using this
        refine ⟨b, off, rfl, hb, fun i hi => ?_⟩
        have h1 := hcell i (by omega)
        rw [Addr.add_lit] at h1
        rw [h1]
        have hi' : i < zs.length := by omega
        have hn : 0 ≤ zs[i] := (wf_u32 _ (hwz _ (List.getElem_mem hi'))).1
        simp [List.getD, hi, hi']
        omega
    · intro y hy
      obtain ⟨z, hz', rfl⟩ := List.mem_map.1 hy
      have := wf_u32 z (hwz z (List.mem_of_mem_take hz'))
      omega
end
end Go.Proofs.YtphifanacehppaaGreat
/- What a struct of 4 fields, and a list of such structs, that came in read as. No condition. -/
namespace Go.Proofs.YtphifanacehppaaGreat.journal
open Go.ChangeShapes Go.WideShapes Go.ChangeAt Go.RowKit Go.Deep
set_option linter.unusedVariables false

structure JAct where
  (k : Int) (n : Int) (l : Option Addr) (lLen lCap : Nat) (lW : List Nat) (v : Option Addr) (vLen vCap : Nat) (vW : List Nat)
instance : Inhabited JAct := ⟨⟨0, 0, none, 0, 0, [], none, 0, 0, []⟩⟩
def JAct.val (p : JAct) : Value := .agg #[.int .i64 p.k, .int .i64 p.n, .slice p.l p.lLen p.lCap, .slice p.v p.vLen p.vCap]
structure JAct.Good (W : World) (p : JAct) : Prop where
  unit : True
  bk : -9223372036854775808 ≤ p.k ∧ p.k ≤ 9223372036854775807
  bn : -9223372036854775808 ≤ p.n ∧ p.n ≤ 9223372036854775807
  rl : Reads .u32 W p.l p.lLen p.lW
  ml : ∀ y ∈ p.lW, y < 4294967296
  cl : p.lLen ≤ p.lCap
  dl : p.lCap ≤ maxLen
  rv : Reads .u32 W p.v p.vLen p.vW
  mv : ∀ y ∈ p.vW, y < 4294967296
  cv : p.vLen ≤ p.vCap
  dv : p.vCap ≤ maxLen
theorem JAct.Good.below {W W' : World} {p : JAct} (h : p.Good W) (hb : Below W.heap.size W W') : p.Good W' := ⟨h.unit, h.bk, h.bn, h.rl.below hb, h.ml, h.cl, h.dl, h.rv.below hb, h.mv, h.cv, h.dv⟩
theorem JAct.Good.sepl {W : World} {p : JAct} (h : p.Good W) : p.lLen = 0 ∨ ∃ y, p.l = some y ∧ y.block < W.heap.size := by
  rcases h.rl.2 with h0 | ⟨b, off, ha, hlt, _⟩
  · exact .inl h0
  · exact .inr ⟨_, ha, hlt⟩
theorem JAct.Good.sepv {W : World} {p : JAct} (h : p.Good W) : p.vLen = 0 ∨ ∃ y, p.v = some y ∧ y.block < W.heap.size := by
  rcases h.rv.2 with h0 | ⟨b, off, ha, hlt, _⟩
  · exact .inl h0
  · exact .inr ⟨_, ha, hlt⟩
section
variable {H : Type} {enc : TypeId × Value → H} {P : Program} {W : World}
theorem JAct_cells {t0 t1 t2 t3 e2 e3 : TypeId} {n : Nat} {v0 v1 v2 v3 : Value} {y0 y1 y2 y3 : DataW H × List MemPlace} (u0 : P.underlying t0 = some (.int .i64)) (u1 : P.underlying t1 = some (.int .i64)) (u2 : P.underlying t2 = some (.slice e2)) (ue2 : P.underlying e2 = some (.int .u32)) (ce2 : P.cellsOf e2 = 1) (u3 : P.underlying t3 = some (.slice e3)) (ue3 : P.underlying e3 = some (.int .u32)) (ce3 : P.cellsOf e3 = 1)
    (h0 : DataW.trod enc P W 0 (fun _ => true) true n t0 [v0] = some y0) (h1 : DataW.trod enc P W 0 (fun _ => true) true n t1 [v1] = some y1) (h2 : DataW.trod enc P W 0 (fun _ => true) true n t2 [v2] = some y2) (h3 : DataW.trod enc P W 0 (fun _ => true) true n t3 [v3] = some y3) :
    ∃ p : JAct, p.Good W ∧ v0 = .int .i64 p.k ∧ v1 = .int .i64 p.n ∧ v2 = .slice p.l p.lLen p.lCap ∧ v3 = .slice p.v p.vLen p.vCap := by
  obtain ⟨x0, e0, _, w0⟩ := DataW.trod_int u0 h0
  have a0 := wf_i64 _ w0
  obtain ⟨x1, e1, _, w1⟩ := DataW.trod_int u1 h1
  have a1 := wf_i64 _ w1
  obtain ⟨q2, l2, c2, M2, rfl, hr2, hM2, hl2, hc2⟩ := open_words u2 ue2 ce2 h2
  obtain ⟨q3, l3, c3, M3, rfl, hr3, hM3, hl3, hc3⟩ := open_words u3 ue3 ce3 h3
  exact ⟨⟨x0, x1, q2, l2, c2, M2, q3, l3, c3, M3⟩, ⟨trivial, a0, a1, hr2, hM2, hl2, hc2, hr3, hM3, hl3, hc3⟩, by simpa using e0, by simpa using e1, rfl, rfl⟩
theorem open_JAct_arg {r : Reach} {b0 : Nat} {t e2 e3 : TypeId} {f0 f1 f2 f3 : Field} {v : Value} {d : DataW H} {pl : List MemPlace} (hs : P.underlying t = some (.struct #[f0, f1, f2, f3])) (hone : oneCellFields P #[f0, f1, f2, f3] = true) (hC : P.cellsOf t = 4)
    (u0 : P.underlying f0.type = some (.int .i64)) (u1 : P.underlying f1.type = some (.int .i64)) (u2 : P.underlying f2.type = some (.slice e2)) (ue2 : P.underlying e2 = some (.int .u32)) (ce2 : P.cellsOf e2 = 1) (u3 : P.underlying f3.type = some (.slice e3)) (ue3 : P.underlying e3 = some (.int .u32)) (ce3 : P.cellsOf e3 = 1)
    (hv : Value.okWide P W r b0 t v) (h : DataW.Trod enc P W 0 (fun _ => true) true t v d pl) : ∃ p : JAct, p.Good W ∧ v = p.val := by
  obtain ⟨cs, rfl, hsz⟩ := okWide_struct hs hv
  obtain ⟨fuel, hf⟩ := h
  rw [hC] at hsz
  obtain ⟨l⟩ := cs
  match l, hsz with
  | [c0, c1, c2, c3], _ =>
    obtain ⟨ys, m, _, _, hl, hlen, hx⟩ := DataW.trod_struct hs hf
    have each : ∀ (i : Nat) (f : Field) (c : Value), #[f0, f1, f2, f3][i]? = some f → [c0, c1, c2, c3][i]? = some c → ∃ y, DataW.trod enc P W 0 (fun _ => true) true m f.type [c] = some y := by
      intro i f c hi hc
      obtain ⟨o, k⟩ := hone_of hone i f hi
      have hi6 : i < 4 := by have := (Array.getElem?_eq_some_iff.1 hi).1; simpa using this
      have h1 := hx i f hi
      rw [o, k] at h1
      have e : (((Value.agg ⟨[c0, c1, c2, c3]⟩).cells.toList.drop i).take 1) = [c] := by
        rw [List.take_one]
        have : ((Value.agg ⟨[c0, c1, c2, c3]⟩).cells.toList.drop i).head? = some c := by
          rw [List.head?_drop]; simpa [Value.cells] using hc
        rw [this]; rfl
      rw [e] at h1
      have hy : ys[i]? = some (ys[i]'(by rw [hlen]; exact hi6)) := List.getElem?_eq_getElem _
      exact ⟨_, h1.trans hy⟩
    obtain ⟨y0, g0⟩ := each 0 f0 c0 rfl rfl
    obtain ⟨y1, g1⟩ := each 1 f1 c1 rfl rfl
    obtain ⟨y2, g2⟩ := each 2 f2 c2 rfl rfl
    obtain ⟨y3, g3⟩ := each 3 f3 c3 rfl rfl
    obtain ⟨p, hp, rfl, rfl, rfl, rfl⟩ := JAct_cells u0 u1 u2 ue2 ce2 u3 ue3 ce3 g0 g1 g2 g3
    exact ⟨p, hp, rfl⟩
/-- the slice at a reads as the list l -/
def JActs (w : World) (a : Option Addr) (l : List JAct) : Prop :=
  l = [] ∨ ∃ b off, a = some ⟨b, off, none⟩ ∧ b < w.heap.size ∧ ∀ i p, l[i]? = some p → w.cell? ⟨b, off + i * 4, none⟩ = some (.int .i64 p.k) ∧ w.cell? ⟨b, off + i * 4 + 1, none⟩ = some (.int .i64 p.n) ∧ w.cell? ⟨b, off + i * 4 + 2, none⟩ = some (.slice p.l p.lLen p.lCap) ∧ w.cell? ⟨b, off + i * 4 + 3, none⟩ = some (.slice p.v p.vLen p.vCap)
theorem open_JActs {t e e2 e3 : TypeId} {f0 f1 f2 f3 : Field} {a : Option Addr} {len cap : Nat} {d : DataW H} {pl : List MemPlace} (ht : P.underlying t = some (.slice e)) (he : P.underlying e = some (.struct #[f0, f1, f2, f3])) (hone : oneCellFields P #[f0, f1, f2, f3] = true) (hC : P.cellsOf e = 4)
    (u0 : P.underlying f0.type = some (.int .i64)) (u1 : P.underlying f1.type = some (.int .i64)) (u2 : P.underlying f2.type = some (.slice e2)) (ue2 : P.underlying e2 = some (.int .u32)) (ce2 : P.cellsOf e2 = 1) (u3 : P.underlying f3.type = some (.slice e3)) (ue3 : P.underlying e3 = some (.int .u32)) (ce3 : P.cellsOf e3 = 1)
    (h0 : DataW.Trod enc P W 0 (fun _ => true) true t (.slice a len cap) d pl) : ∃ l : List JAct, len = l.length ∧ JActs W a l ∧ (∀ p ∈ l, p.Good W) ∧ len ≤ cap ∧ cap ≤ maxLen := by
  obtain ⟨fuel, hf⟩ := h0
  have hf2 : DataW.trod enc P W 0 (fun _ => true) true fuel t [.slice a len cap] = some (d, pl) := by simpa [Value.cells] using hf
  rcases open_slice ht hf2 with ⟨hcs, _⟩ | ⟨A, len', cap', q, n, D, Pl, hcs, _, hlc, hcm, hm, hx0, hrow⟩
  · simp at hcs
    obtain ⟨rfl, rfl, rfl⟩ := hcs
    exact ⟨[], rfl, .inl rfl, by simp, Nat.le_refl _, by unfold maxLen; omega⟩
  · simp at hcs
    obtain ⟨rfl, rfl, rfl⟩ := hcs
    simp only [if_true] at hm
    have each : ∀ r, r < len → ∃ p : JAct, p.Good W ∧ W.cell? (A.add (r * 4)) = some (.int .i64 p.k) ∧ W.cell? (A.add (r * 4 + 1)) = some (.int .i64 p.n) ∧ W.cell? (A.add (r * 4 + 2)) = some (.slice p.l p.lLen p.lCap) ∧ W.cell? (A.add (r * 4 + 3)) = some (.slice p.v p.vLen p.vCap) := by
      intro r hr
      obtain ⟨cs', h1, h2⟩ := hrow r (by omega)
      rw [hC] at h1
      obtain ⟨_, hlen0, hcell⟩ := World.cells?_some h1
      obtain ⟨ys, m, _, _, hl, hlen, hx⟩ := DataW.trod_struct he h2
      rw [hC] at hl
      match cs', hl with
      | [c0, c1, c2, c3], _ =>
        have each : ∀ (i : Nat) (f : Field) (c : Value), #[f0, f1, f2, f3][i]? = some f → [c0, c1, c2, c3][i]? = some c → ∃ y, DataW.trod enc P W 0 (fun _ => true) true m f.type [c] = some y := by
          intro i f c hi hc
          obtain ⟨o, k⟩ := hone_of hone i f hi
          have hi6 : i < 4 := by have := (Array.getElem?_eq_some_iff.1 hi).1; simpa using this
          have h1 := hx i f hi
          rw [o, k] at h1
          have e : (([c0, c1, c2, c3].drop i).take 1) = [c] := by
            rw [List.take_one]
            have : ([c0, c1, c2, c3].drop i).head? = some c := by
              rw [List.head?_drop]; simpa using hc
            rw [this]; rfl
          rw [e] at h1
          have hy : ys[i]? = some (ys[i]'(by rw [hlen]; exact hi6)) := List.getElem?_eq_getElem _
          exact ⟨_, h1.trans hy⟩
        obtain ⟨y0, g0⟩ := each 0 f0 c0 rfl rfl
        obtain ⟨y1, g1⟩ := each 1 f1 c1 rfl rfl
        obtain ⟨y2, g2⟩ := each 2 f2 c2 rfl rfl
        obtain ⟨y3, g3⟩ := each 3 f3 c3 rfl rfl
        obtain ⟨p, hp, rfl, rfl, rfl, rfl⟩ := JAct_cells u0 u1 u2 ue2 ce2 u3 ue3 ce3 g0 g1 g2 g3
        have k0 := hcell 0 (by omega)
        have k1 := hcell 1 (by omega)
        have k2 := hcell 2 (by omega)
        have k3 := hcell 3 (by omega)
        rw [add_add] at k0 k1 k2 k3
        exact ⟨p, hp, by simpa using k0, by simpa using k1, by simpa using k2, by simpa using k3⟩
    obtain ⟨y, hy⟩ := choose_lt each
    refine ⟨(List.range len).map y, by simp, ?_, ?_, by omega, hcm⟩
    · by_cases hz : len = 0
      · subst hz; exact .inl rfl
      · right
        obtain ⟨b, off, spot⟩ := A
        have hc0 := (hy 0 (by omega)).2.1
        have hspot : spot = none := by simpa [Addr.add] using World.cell?_spot hc0
        subst hspot
        have hb : b < W.heap.size := by
          have := World.block_lt_of_cell? W _ hc0
          simpa [Addr.add] using this
        refine ⟨b, off, rfl, hb, fun i p hp => ?_⟩
        have hi : i < len := by have := (List.getElem?_eq_some_iff.1 hp).1; simpa using this
        simp [hi] at hp
        subst hp
        obtain ⟨_, e50, e51, e52, e53⟩ := hy i hi
        rw [Addr.add_lit] at e50 e51 e52 e53
        exact ⟨e50, by rw [Nat.add_assoc]; exact e51, by rw [Nat.add_assoc]; exact e52, by rw [Nat.add_assoc]; exact e53⟩
    · intro p hp
      obtain ⟨i, hi, rfl⟩ := List.mem_map.1 hp
      exact (hy i (List.mem_range.1 hi)).1
end
theorem JActs.below {w w' : World} {a : Option Addr} {l : List JAct} (h : JActs w a l) (hb : Below w.heap.size w w') : JActs w' a l := by
  rcases h with h | ⟨b, off, ha, hlt, hc⟩
  · exact .inl h
  · refine .inr ⟨b, off, ha, Nat.lt_of_lt_of_le hlt hb.size, fun i p hp => ?_⟩
    rw [hb.cell (p := ⟨b, off + i * 4, none⟩) hlt, hb.cell (p := ⟨b, off + i * 4 + 1, none⟩) hlt, hb.cell (p := ⟨b, off + i * 4 + 2, none⟩) hlt, hb.cell (p := ⟨b, off + i * 4 + 3, none⟩) hlt]
    exact hc i p hp
theorem JActs.at {w : World} {a : Option Addr} {l : List JAct} (h : JActs w a l) {i : Nat} (hi : i < l.length) :
    ∃ b off p, a = some ⟨b, off, none⟩ ∧ b < w.heap.size ∧ l[i]? = some p ∧ w.cell? ⟨b, off + i * 4, none⟩ = some (.int .i64 p.k) ∧ w.cell? ⟨b, off + i * 4 + 1, none⟩ = some (.int .i64 p.n) ∧ w.cell? ⟨b, off + i * 4 + 2, none⟩ = some (.slice p.l p.lLen p.lCap) ∧ w.cell? ⟨b, off + i * 4 + 3, none⟩ = some (.slice p.v p.vLen p.vCap) := by
  rcases h with rfl | ⟨b, off, ha, hlt, hc⟩
  · simp at hi
  · have hp := List.getElem?_eq_getElem hi
    exact ⟨b, off, _, ha, hlt, hp, hc i _ hp⟩
end Go.Proofs.YtphifanacehppaaGreat.journal
/- Contract of the law file's great of layer 11, for every list of acts. No condition. -/
namespace Go.Proofs.YtphifanacehppaaGreat.journal
open Go.RowKit
set_option linter.unusedVariables false

def bigA (q : JAct) : Bool := decide (100 < q.lLen) || decide (100 < q.vLen)
def bigL (l : List JAct) : Bool := (l.take 61).any bigA || decide (60 < l.length)
theorem not_big {l : List JAct} (h : bigL l = false) : l.length ≤ 60 ∧ ∀ q ∈ l, q.lLen ≤ 100 ∧ q.vLen ≤ 100 := by
  unfold bigL at h
  rw [Bool.or_eq_false_iff] at h
  obtain ⟨h1, h2⟩ := h
  have h3 : l.length ≤ 60 := by simpa using h2
  refine ⟨h3, fun q hq => ?_⟩
  rw [List.take_of_length_le (by omega), List.any_eq_false] at h1
  have := h1 q hq
  unfold bigA at this
  simpa using this
set_option maxHeartbeats 1600000 in
theorem great_any (a0 : Option Addr) (cap : Nat) (l : List JAct) (w : World) (ac : JActs w a0 l) (hcap : l.length ≤ maxLen) : Calls Tryz.prog 7 #[.slice a0 l.length cap] w (Quiet (.bool (bigL l)) w) := by
  have hml : (l.length : Int) ≤ 9223372036854775807 := by unfold maxLen at hcap; omega
  go_enter Tryz.func7, Tryz.ntmps7
  go_wp2
  go_loopw [3] (fun i wr => ∃ k : Nat, k ≤ l.length ∧ k ≤ 61 ∧ i = .int .i64 (k : Int) ∧ wr = w ∧ Hid ((l.take k).any bigA = false)) (fun i _ => 61 - (intOf i).toNat)
  case atStart => exact ⟨0, Nat.zero_le _, Nat.zero_le _, rfl, rfl, hid (by simp)⟩
  case round =>
    obtain ⟨k, hk, hk2, rfl, rfl, hno⟩ := hrel
    by_cases h1 : k < l.length
    · by_cases h2 : k < 61
      · obtain ⟨b, off, p, rfl, hlt, hp, c0, c1, c2, c3⟩ := ac.at h1
        have i1 : (k : Int) < l.length := by omega
        have hstep : (l.take (k + 1)).any bigA = ((l.take k).any bigA || bigA p) := by
          rw [List.take_add_one, hp]; simp
        rw [hno.out, Bool.false_or] at hstep
        have HST := hid hstep
        have HP := hid hp
        have HBG : Hid (bigA p = true → bigL l = true) := hid fun hb => by
          unfold bigL
          rw [show (l.take 61).any bigA = true from ?_, Bool.true_or]
          rw [List.any_eq_true]
          exact ⟨p, List.mem_of_getElem? (i := k) (by rw [List.getElem?_take, if_pos h2]; exact HP.out), hb⟩
        clear hstep hp ac c0 c1
        by_cases h3 : 100 < p.lLen
        · go_wp2
          go_ret
          exact ⟨ret_bool (HBG.out (by unfold bigA; rw [decide_eq_true h3, Bool.true_or])).symm, 0, rfl⟩
        · by_cases h4 : 100 < p.vLen
          · go_wp2
            go_ret
            exact ⟨ret_bool (HBG.out (by unfold bigA; rw [decide_eq_true h4, Bool.or_true])).symm, 0, rfl⟩
          · have HNO := hid (show bigA p = false by unfold bigA; rw [decide_eq_false h3, decide_eq_false h4]; rfl)
            go_wp2
            exact ⟨⟨k + 1, by omega, by omega, by go_num, trivial, hid (by rw [HST.out]; exact HNO.out)⟩, by simp [intOf]; omega⟩
      · obtain rfl : k = 61 := by omega
        have h4 : (60 : Int) < l.length := by omega
        have HE : Hid (bigL l = true) := hid (by unfold bigL; rw [show decide (60 < l.length) = true from decide_eq_true (by omega), Bool.or_true])
        clear ac
        go_wp2
        go_ret
        exact ⟨ret_bool HE.out.symm, 0, rfl⟩
    · obtain rfl : k = l.length := by omega
      have HE : Hid (bigL l = decide (60 < l.length)) := hid (by
        unfold bigL
        have := hno.out
        rw [List.take_of_length_le (Nat.le_refl _)] at this
        rw [List.take_of_length_le hk2, this, Bool.false_or])
      clear ac
      generalize l.length = n at *
      go_wp2
      go_ret
      exact ⟨ret_bool (by rw [HE.out]; by_cases h : 60 < n <;> simp <;> omega), 0, rfl⟩
end Go.Proofs.YtphifanacehppaaGreat.journal
