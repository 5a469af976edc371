/- Lemmas of the claim HJournalKeeps. Each says its own conditions. -/
import Derived.Test.YtphifanacehppaaGreatClHJournalKeepsA
import Derived.Test.YtphifanacehppaaGreatCmB
import Derived.Test.YtphifanacehppaaGreatCmD
import Derived.Test.YtphifanacehppaaGreatCmE
import Derived.Test.YtphifanacehppaaGreatCmG
import Derived.Test.YtphifanacehppaaGreatCmC
import Derived.Handy
import Derived.Test.YtphifanacehppaaGreatCmA
/- Contracts of the reference's Blank, Clean and Fresh of layer 9. No condition but a flash with fewer than 2^60 writes. -/
namespace Go.Proofs.YtphifanacehppaaGreat.drive
open Go.RowKit Go.Proofs.YtphifanacehppaaGreat.flash Go.Proofs.YtphifanacehppaaGreat.geom Go.Proofs.YtphifanacehppaaGreat.word
set_option linter.unusedVariables false

set_option maxHeartbeats 1600000 in
theorem refBlank_bad {S : Nat → Prop} {d b : Nat} {g : Geo} {F : Fl} {w : World} (h : RDriveAt S d b g F w) (hr : g.Right) (s a : Int) (ha : a ≤ 9223372036854775807) (hz : bad F g s a (g.sector - a) ≠ 0) :
    Calls Tryz.prog 79 #[.pointer (some ⟨d, 0, none⟩), .int .i64 s, .int .i64 a] w fun e w' => e = .returned (.tuple #[.bool false, .int .i64 (bad F g s a (g.sector - a))]) ∧ Below w.heap.size w w' := by
  have hk0 := h.cells
  obtain ⟨⟨r1, r2⟩, _⟩ := id hr
  by_cases h0 : a < 0
  · have hb3 : bad F g s a (g.sector - a) = 3 := by unfold bad; rw [if_neg (by omega)]
    rw [hb3]
    clear h hr hz hb3
    go_enter Tryz.func79, Tryz.ntmps79
    go_wp2
    go_ret2
    exact ⟨rfl, Below.refl _ _⟩
  by_cases h1 : g.sector < a
  · have hb3 : bad F g s a (g.sector - a) = 3 := by unfold bad; rw [if_neg (by omega)]
    rw [hb3]
    clear h hr hz hb3
    go_enter Tryz.func79, Tryz.ntmps79
    go_wp2
    go_ret2
    exact ⟨rfl, Below.refl _ _⟩
  have cr := refRead_bad h hr s a (g.sector - a) ha hz
  have ho := bad_or F g s a (g.sector - a)
  generalize bad F g s a (g.sector - a) = z at *
  clear h hr
  rcases ho with rfl | rfl | rfl
  · exact absurd rfl hz
  all_goals
    clear hz
    go_enter Tryz.func79, Tryz.ntmps79
    go_wp2_with (first
      | (go_at_call 82; (with_reducible refine cr.mono ?_); rintro e w2 ⟨rfl, hb2⟩))
    have HB := hid hb2
    clear hb2 cr
    go_loopw [10] (fun i wr => i = .int .i64 0 ∧ wr = w2) (fun i _ => 0)
    case atStart => exact ⟨rfl, rfl⟩
    case round =>
      obtain ⟨rfl, rfl⟩ := hrel
      go_wp2
      go_ret2
      exact ⟨rfl, HB.out⟩
set_option maxHeartbeats 1600000 in
theorem refBlank_good {S : Nat → Prop} {d b : Nat} {g : Geo} {F : Fl} {w : World} (h : RDriveAt S d b g F w) (ok : F.Ok) (ft : Fit F g) (s a : Int) (hz : bad F g s a (g.sector - a) = 0) :
    Calls Tryz.prog 79 #[.pointer (some ⟨d, 0, none⟩), .int .i64 s, .int .i64 a] w fun e w' => e = .returned (.tuple #[.bool (ones F (addr g s a) (g.sector - a).toNat), .int .i64 0]) ∧ Below w.heap.size w w' := by
  have hk0 := h.cells
  obtain ⟨hin, hd⟩ := bad_zero hz
  obtain ⟨hA, hlen, p0, p1, n1, a1⟩ := addr_in ok ft hin
  obtain ⟨q1, q2, q3, q4, q5⟩ := hin
  obtain ⟨N, hN⟩ : ∃ N : Nat, g.sector - a = (N : Int) := Int.eq_ofNat_of_zero_le q4
  rw [hN] at hz ⊢
  rw [Int.toNat_natCast]
  have cr : Calls Tryz.prog 82 #[.pointer (some ⟨d, 0, none⟩), .int .i64 s, .int .i64 a, .int .i64 (N : Int)] w fun e w2 => ∃ q c, e = .returned (.tuple #[.slice q N c, .int .i64 0]) ∧ Reads .u32 w2 q N (span F (addr g s a) N) ∧ Below w.heap.size w w2 := refRead_good h ok ft s a N hz
  have hws : ∀ j, F.ws.getD j 0 < 4294967296 := fun j => getD_lt ok.w (by decide) j
  have hs1 : g.sector ≤ 1024 := ft.right.1.2
  have HS := hid hws
  clear h ok ft hz hA hlen hd hws q1 q2 q5 p0 p1
  generalize addr g s a = A at *
  go_enter Tryz.func79, Tryz.ntmps79
  go_wp2_with (first
    | (go_at_call 82; (with_reducible refine cr.mono ?_); rintro e w2 ⟨q, qc, rfl, hq, hb2⟩))
  have HQ := hid hq
  have HB := hid hb2
  clear hq hb2 cr
  go_loopw [10] (fun i wr => ∃ k : Nat, k ≤ N ∧ i = .int .i64 (k : Int) ∧ Hid (Below w2.heap.size w2 wr) ∧ Hid (∀ j, j < k → F.ws.getD (A + j) 0 = 4294967295)) (fun i _ => N - (intOf i).toNat)
  case atStart => exact ⟨0, Nat.zero_le _, rfl, hid (Below.refl _ _), hid (fun i h => by omega)⟩
  case round =>
    obtain ⟨k, hk, rfl, hbr, hall⟩ := hrel
    have HBR : Hid (Below w.heap.size w wr) := hid (HB.out.trans (hbr.out.mono HB.out.size))
    by_cases hlt : k < N
    · obtain ⟨qb, qo, rfl, _, cQ⟩ := (HQ.out.below hbr.out).at hlt
      have c2 := cQ k hlt
      rw [span_getD _ _ _ _ hlt] at c2
      have i1 : (k : Int) < N := by omega
      have hxl := HS.out (A + k)
      clear cQ
      by_cases hx : F.ws.getD (A + k) 0 = 4294967295
      · have hnx : Hid (∀ j, j < k + 1 → F.ws.getD (A + j) 0 = 4294967295) := hid (fun i hi => by
          by_cases h : i < k
          · exact hall.out i h
          · rw [show i = k by omega]; exact hx)
        rw [hx] at c2
        clear hx hxl
        go_wp2
        exact ⟨⟨k + 1, by omega, by go_num, hbr, hnx⟩, by simp [intOf]; omega⟩
      · have hvf := hid (ones_no hlt hx)
        have hne : ((F.ws.getD (A + k) 0 : Nat) : Int) ≠ 4294967295 := by omega
        clear hx
        generalize F.ws.getD (A + k) 0 = x1 at *
        go_wp2
        go_ret2
        exact ⟨by rw [hvf.out]; rfl, HBR.out⟩
    · obtain rfl : N = k := by omega
      have hvt := hid (ones_yes hall.out)
      go_wp2
      go_ret2
      exact ⟨by rw [hvt.out]; rfl, HBR.out⟩
theorem refBlank_this {S : Nat → Prop} {d b : Nat} {g : Geo} {F : Fl} {w : World} (h : RDriveAt S d b g F w) (ok : F.Ok) (ft : Fit F g) (s a : Int) (ha : a ≤ 9223372036854775807) :
    Calls Tryz.prog 79 #[.pointer (some ⟨d, 0, none⟩), .int .i64 s, .int .i64 a] w fun e w' => e = .returned (.tuple #[.bool (blankAt F g s a).1, .int .i64 (blankAt F g s a).2]) ∧ Below w.heap.size w w' := by
  unfold blankAt
  by_cases hz : bad F g s a (g.sector - a) = 0
  · rw [if_neg (fun h => h hz)]
    exact refBlank_good h ok ft s a hz
  · rw [if_pos hz]
    exact refBlank_bad h ft.right s a ha hz
theorem refErase_did {S : Nat → Prop} {b : Nat} {F : Fl} {w : World} (h : RefAt S b F w) (ok : F.Ok) (hc : F.count < 4611686018427387904) (s : Int) :
    Calls Tryz.prog 80 #[.pointer (some ⟨b, 0, none⟩), .int .i64 s] w (RDid S b (F.erase s).2 (.int .i64 (F.erase s).1) w) := by
  obtain ⟨cm, gW, cW, gV, cV, h⟩ := h
  exact refErase_any h ok hc s
theorem refClean_this {S : Nat → Prop} {d b : Nat} {g : Geo} {F : Fl} {w : World} (h : RDriveAt S d b g F w) (ok : F.Ok) (ft : Fit F g) (hc : F.count < 2305843009213693952) (s : Int) :
    Calls Tryz.prog 59 #[.pointer (some ⟨d, 0, none⟩), .int .i64 s] w (RDid S b (clean F g s).2 (.int .i64 (clean F g s).1) w) := by
  have cb := refBlank_this h ok ft s 0 (by omega)
  have hbo := blank_or F g s 0
  have ce : ∀ w', Below w.heap.size w w' → Calls Tryz.prog 80 #[.pointer (some ⟨b, 0, none⟩), .int .i64 s] w' (RDid S b (F.erase s).2 (.int .i64 (F.erase s).1) w') := fun w' hb => refErase_did (h.later hb).fl ok (by omega) s
  have HS := h.seen
  have HF := hid h.fl
  have HD : Hid (∀ w' H, RTurn S b H w' w' → True) := hid fun _ _ _ => trivial
  unfold clean
  clear h ok ft HD
  generalize blankAt F g s 0 = R at *
  obtain ⟨v, z⟩ := R
  simp only at *
  by_cases hz : z = 0
  · subst hz
    clear hbo
    cases v with
    | true =>
      rw [if_pos (.inr rfl)]
      clear ce
      go_enter Tryz.func59, Tryz.ntmps59
      go_wp2_with (go_at_call 79; (with_reducible refine cb.mono ?_); rintro e w1 ⟨rfl, hb1⟩)
      go_ret
      exact ⟨rfl, RTurn.of HF.out hb1⟩
    | false =>
      rw [if_neg (by simp)]
      generalize F.erase s = E at *
      go_enter Tryz.func59, Tryz.ntmps59
      go_wp2_with (first
        | (go_at_call 79; (with_reducible refine cb.mono ?_); rintro e w1 ⟨rfl, hb1⟩; have hk1 := HS.out w1 hb1)
        | (go_at_call 80; (with_reducible refine (ce _ hb1).mono ?_); rintro e w2 ⟨rfl, ht⟩))
      go_ret
      exact ⟨rfl, RTurn.before hb1 ht⟩
  · rw [if_pos (.inl hz)]
    clear ce
    rcases hbo with rfl | rfl | rfl
    · exact absurd rfl hz
    all_goals
      clear hz
      go_enter Tryz.func59, Tryz.ntmps59
      go_wp2_with (go_at_call 79; (with_reducible refine cb.mono ?_); rintro e w1 ⟨rfl, hb1⟩)
      go_ret
      exact ⟨rfl, RTurn.of HF.out hb1⟩
/-- what a row of words that came in is still there behind a call that turned the flash -/
theorem RTurn.reads {S S' : Nat → Prop} {w w' : World} {x : Option Addr} {n : Nat} {W : List Nat} (hr : Reads .u32 w x n W) (hsep : n = 0 ∨ ∃ y, x = some y ∧ ¬ S y.block) (h2 : ∀ y, S' y → y < w'.heap.size ∧ (S y ∨ w.heap.size ≤ y)) (h3 : Only S w w') :
    Reads .u32 w' x n W ∧ (n = 0 ∨ ∃ y, x = some y ∧ ¬ S' y.block) := by
  refine ⟨reads_only hr h3 hsep, ?_⟩
  rcases hsep with h0 | ⟨y, hy, hn⟩
  · exact .inl h0
  · rcases hr.2 with h0 | ⟨b, off, hx, hlt, _⟩
    · exact .inl h0
    · rw [hy] at hx
      cases hx
      refine .inr ⟨_, hy, fun hs => ?_⟩
      rcases (h2 _ hs).2 with h | h
      · exact hn h
      · simp at h; omega
theorem refFresh_this {S : Nat → Prop} {d b : Nat} {g : Geo} {F : Fl} {w : World} (h : RDriveAt S d b g F w) (ok : F.Ok) (ft : Fit F g) (hc : F.count < 1152921504606846976) (s : Int) (x : Option Addr) (n c : Nat) (W : List Nat)
    (hr : Reads .u32 w x n W) (hW : ∀ y ∈ W, y < 4294967296) (hsep : n = 0 ∨ ∃ y, x = some y ∧ ¬ S y.block) :
    Calls Tryz.prog 81 #[.pointer (some ⟨d, 0, none⟩), .int .i64 s, .slice x n c] w (RDid S b (fresh F g s W).2 (.int .i64 (fresh F g s W).1) w) := by
  have hl := hr.1
  have cy := refBad_any h ft.right s 0 n (by omega)
  have hbo := bad_or F g s 0 n
  have st := clean_step ok g s
  have cc : ∀ w', Below w.heap.size w w' → Calls Tryz.prog 59 #[.pointer (some ⟨d, 0, none⟩), .int .i64 s] w' (RDid S b (clean F g s).2 (.int .i64 (clean F g s).1) w') := fun w' hb => refClean_this (h.later hb) ok ft (by omega) s
  have cw : ∀ w1 w2, Below w.heap.size w w1 → RTurn S b (clean F g s).2 w1 w2 → Calls Tryz.prog 64 #[.pointer (some ⟨d, 0, none⟩), .int .i64 s, .int .i64 0, .slice x n c] w2 fun e w' => e = .returned (.int .i64 (write (clean F g s).2 g s 0 W).1) ∧ RTurn S b (write (clean F g s).2 g s 0 W).2 w w' := fun w1 w2 hb ht => by
    obtain ⟨S', hD, h2, h3⟩ := (h.later hb).turn ht
    obtain ⟨r1, r2⟩ := RTurn.reads (hr.below hb) hsep h2 h3
    refine (refWrite_this hD st.ok (ft.like st.like) (by have := st.c2; omega) s 0 (by omega) x n c W r1 hW r2).mono ?_
    rintro e w' ⟨he, k⟩
    exact ⟨he, RTurn.before hb (RTurn.join h2 h3 k)⟩
  have HF := hid h.fl
  unfold fresh
  rw [hl]
  clear h ok ft hr hW hsep st hl hc
  by_cases hz : bad F g s 0 n = 0
  · rw [hz] at cy
    rw [if_neg (fun h => h hz)]
    clear hbo hz
    generalize clean F g s = C at *
    obtain ⟨z, G⟩ := C
    simp only at *
    by_cases hz : z = 0
    · subst hz
      rw [if_neg (fun h => h rfl)]
      generalize write G g s 0 W = R at *
      go_enter Tryz.func81, Tryz.ntmps81
      go_wp2_with (first
        | (go_at_call 86; (with_reducible refine cy.mono ?_); rintro e w1 ⟨rfl, hb1⟩)
        | (go_at_call 59; (with_reducible refine (cc _ hb1).mono ?_); rintro e w2 ⟨rfl, ht0⟩; have ht : RTurn S b G w1 w2 := ht0)
        | (go_at_call 64; (with_reducible refine (cw _ _ hb1 ht).mono ?_); rintro e w3 ⟨rfl, ht2⟩))
      go_ret
      exact ⟨rfl, ht2⟩
    · rw [if_pos hz]
      clear cw
      go_enter Tryz.func81, Tryz.ntmps81
      go_wp2_with (first
        | (go_at_call 86; (with_reducible refine cy.mono ?_); rintro e w1 ⟨rfl, hb1⟩)
        | (go_at_call 59; (with_reducible refine (cc _ hb1).mono ?_); rintro e w2 ⟨rfl, ht⟩))
      go_ret
      exact ⟨rfl, RTurn.before hb1 ht⟩
  · rw [if_pos hz]
    generalize bad F g s 0 n = z at *
    clear cc cw
    rcases hbo with rfl | rfl | rfl
    · exact absurd rfl hz
    all_goals
      clear hz
      go_enter Tryz.func81, Tryz.ntmps81
      go_wp2_with (go_at_call 86; (with_reducible refine cy.mono ?_); rintro e w1 ⟨rfl, hb1⟩)
      go_ret
      exact ⟨rfl, RTurn.of HF.out hb1⟩
end Go.Proofs.YtphifanacehppaaGreat.drive
/- The reference's journal in the memory: what it owns, and what stands of it when something else turns. No condition. -/
namespace Go.Proofs.YtphifanacehppaaGreat.journal
open Go.RowKit Go.Proofs.YtphifanacehppaaGreat.flash Go.Proofs.YtphifanacehppaaGreat.geom
set_option linter.unusedVariables false

/-- the journal at block j over the drive at d over the flash at b; S is the flash's, X the loads', M holds all -/
structure RJIn (M S X : Nat → Prop) (j d b : Nat) (g : Geo) (F : Fl) (J : Jv) (wv cv : Value) (w : World) : Prop where
  dr : drive.RDriveAt S d b g F w
  blk : Block w j 48 [.pointer (some ⟨d, 0, none⟩), .int .i64 (J.sector : Int), .int .i64 (J.p.tail : Int), .bool J.torn, .int .i64 (J.p.seq : Int), wv, cv]
  wh : LoadAt X w wv J.p.whole
  ch : LoadsAt X w cv J.p.changes
  sx : ∀ x, X x → ¬ S x
  sj : ¬ S j
  xj : ¬ X j
  xd : ¬ X d
  dj : d ≠ j
  sub : ∀ x, S x ∨ X x ∨ x = j ∨ x = d → M x
  lm : ∀ x, M x → x < w.heap.size
def RJAt (M : Nat → Prop) (j d b : Nat) (g : Geo) (F : Fl) (J : Jv) (w : World) : Prop := ∃ S X wv cv, RJIn M S X j d b g F J wv cv w
/-- the journal becomes J over the flash F; only what it had in M and T turns -/
def RJTurn (M T : Nat → Prop) (j d b : Nat) (g : Geo) (F : Fl) (J : Jv) (w w' : World) : Prop :=
  ∃ M', RJAt M' j d b g F J w' ∧ (∀ x, M' x → x < w'.heap.size ∧ (M x ∨ w.heap.size ≤ x)) ∧ Only (fun x => M x ∧ T x) w w'
section
variable {M S X T : Nat → Prop} {j d b : Nat} {g : Geo} {F G : Fl} {J K : Jv} {wv cv : Value} {w w1 w' : World}
theorem RJIn.later (h : RJIn M S X j d b g F J wv cv w) (k : Below w.heap.size w w') : RJIn M S X j d b g F J wv cv w' :=
  ⟨h.dr.later k, h.blk.later k, h.wh.stays (.below k), h.ch.stays (.below k), h.sx, h.sj, h.xj, h.xd, h.dj, h.sub, fun x hx => Nat.lt_of_lt_of_le (h.lm x hx) k.size⟩
theorem RJAt.later (h : RJAt M j d b g F J w) (k : Below w.heap.size w w') : RJAt M j d b g F J w' := by
  obtain ⟨S, X, wv, cv, h⟩ := h
  exact ⟨S, X, wv, cv, h.later k⟩
theorem RJAt.lt (h : RJAt M j d b g F J w) : ∀ x, M x → x < w.heap.size := by obtain ⟨S, X, wv, cv, h⟩ := h; exact h.lm
theorem RJIn.only (h : RJIn M S X j d b g F J wv cv w) (k : Only T w w') (hT : ∀ x, M x → ¬ T x) : RJIn M S X j d b g F J wv cv w' :=
  have hS : ∀ x, T x → ¬ S x := fun x hx hs => hT x (h.sub x (.inl hs)) hx
  have hX : ∀ x, X x → ¬ T x := fun x hs => hT x (h.sub x (.inr (.inl hs)))
  ⟨⟨h.dr.blk.only k (hT d (h.sub d (.inr (.inr (.inr rfl))))), h.dr.fl.only k hS, h.dr.nd⟩, h.blk.only k (hT j (h.sub j (.inr (.inr (.inl rfl))))), h.wh.stays (.only k hX), h.ch.stays (.only k hX), h.sx, h.sj, h.xj, h.xd, h.dj, h.sub, fun x hx => Nat.lt_of_lt_of_le (h.lm x hx) k.size⟩
theorem RJAt.only (h : RJAt M j d b g F J w) (k : Only T w w') (hT : ∀ x, M x → ¬ T x) : RJAt M j d b g F J w' := by
  obtain ⟨S, X, wv, cv, h⟩ := h
  exact ⟨S, X, wv, cv, h.only k hT⟩
theorem RJTurn.of (h : RJAt M j d b g F J w) (k : Below w.heap.size w w') : RJTurn M T j d b g F J w w' := ⟨M, h.later k, fun x hx => ⟨(h.later k).lt x hx, .inl hx⟩, Only.of k⟩
theorem RJTurn.before (hb : Below w.heap.size w w1) (k : RJTurn M T j d b g F J w1 w') : RJTurn M T j d b g F J w w' := by
  obtain ⟨M', h1, h2, h3⟩ := k
  exact ⟨M', h1, fun x hx => ⟨(h2 x hx).1, (h2 x hx).2.imp id fun h => Nat.le_trans hb.size h⟩, (Only.of hb).next h3 fun x hx _ => hx⟩
theorem RJTurn.later (k : RJTurn M T j d b g F J w w1) (hb : Below w1.heap.size w1 w') : RJTurn M T j d b g F J w w' := by
  obtain ⟨M', h1, h2, h3⟩ := k
  exact ⟨M', h1.later hb, fun x hx => ⟨Nat.lt_of_lt_of_le (h2 x hx).1 hb.size, (h2 x hx).2⟩, h3.later hb⟩
/-- behind a call that turned the drive's flash -/
theorem RJIn.turn (h : RJIn M S X j d b g F J wv cv w) (k : drive.RTurn S b G w w1) : ∃ S', RJIn (fun x => (M x ∨ w.heap.size ≤ x) ∧ x < w1.heap.size) S' X j d b g G J wv cv w1 ∧ (∀ x, S' x → x < w1.heap.size ∧ (S x ∨ w.heap.size ≤ x)) ∧ Only S w w1 := by
  obtain ⟨S', hD, k2, k3⟩ := h.dr.turn k
  have hX : ∀ x, X x → x < w.heap.size := fun x hx => h.lm x (h.sub x (.inr (.inl hx)))
  have hj := h.blk.lt
  refine ⟨S', ⟨hD, h.blk.only k3 h.sj, h.wh.stays (.only k3 h.sx), h.ch.stays (.only k3 h.sx), fun x hx hs => ?_, fun hs => ?_, h.xj, h.xd, h.dj, fun x hx => ?_, fun x hx => hx.2⟩, k2, k3⟩
  · rcases (k2 x hs).2 with h1 | h1
    · exact h.sx x hx h1
    · have := hX x hx; omega
  · rcases (k2 j hs).2 with h1 | h1
    · exact h.sj h1
    · omega
  · have hs := k3.size
    rcases hx with hx | hx | rfl | rfl
    · refine ⟨?_, (k2 x hx).1⟩
      rcases (k2 x hx).2 with h1 | h1
      · exact .inl (h.sub x (.inl h1))
      · exact .inr h1
    · exact ⟨.inl (h.sub x (.inr (.inl hx))), by have := hX x hx; omega⟩
    · exact ⟨.inl (h.sub _ (.inr (.inr (.inl rfl)))), by omega⟩
    · exact ⟨.inl (h.sub _ (.inr (.inr (.inr rfl)))), by have := h.dr.lt; omega⟩
theorem RJIn.turned (h : RJIn M S X j d b g F J wv cv w) (k : drive.RTurn S b G w w1) : RJTurn M (fun x => S x ∨ x = j) j d b g G J w w1 := by
  obtain ⟨S', h1, h2, h3⟩ := h.turn k
  exact ⟨_, ⟨_, _, _, _, h1⟩, fun x hx => ⟨hx.2, hx.1⟩, h3.mono fun x hx _ => ⟨h.sub x (.inl hx), .inl hx⟩⟩
theorem RJIn.cells (h : RJIn M S X j d b g F J wv cv w) : w.cell? ⟨j, 0, none⟩ = some (.pointer (some ⟨d, 0, none⟩)) ∧ w.cell? ⟨j, 1, none⟩ = some (.int .i64 (J.sector : Int)) ∧ w.cell? ⟨j, 2, none⟩ = some (.int .i64 (J.p.tail : Int)) ∧ w.cell? ⟨j, 3, none⟩ = some (.bool J.torn) ∧ w.cell? ⟨j, 4, none⟩ = some (.int .i64 (J.p.seq : Int)) ∧ w.cell? ⟨j, 5, none⟩ = some wv ∧ w.cell? ⟨j, 6, none⟩ = some cv := by
  simp only [h.blk.cell]
  exact ⟨rfl, rfl, rfl, rfl, rfl, rfl, rfl⟩
theorem RJIn.seen (h : RJIn M S X j d b g F J wv cv w) : Hid (∀ w', Below w.heap.size w w' → w'.cell? ⟨j, 0, none⟩ = some (.pointer (some ⟨d, 0, none⟩)) ∧ w'.cell? ⟨j, 1, none⟩ = some (.int .i64 (J.sector : Int)) ∧ w'.cell? ⟨j, 2, none⟩ = some (.int .i64 (J.p.tail : Int)) ∧ w'.cell? ⟨j, 3, none⟩ = some (.bool J.torn) ∧ w'.cell? ⟨j, 4, none⟩ = some (.int .i64 (J.p.seq : Int)) ∧ w'.cell? ⟨j, 5, none⟩ = some wv ∧ w'.cell? ⟨j, 6, none⟩ = some cv) :=
  hid fun w' hb => (h.later hb).cells
theorem RJTurn.join {M' T' : Nat → Prop} (h2 : ∀ x, M' x → x < w1.heap.size ∧ (M x ∨ w.heap.size ≤ x)) (h3 : Only M w w1) (k : RJTurn M' T' j d b g G K w1 w') : RJTurn M (fun _ => True) j d b g G K w w' := by
  obtain ⟨M2, k1, k2, k3⟩ := k
  refine ⟨M2, k1, fun x hx => ⟨(k2 x hx).1, ?_⟩, (h3.mono fun x hx _ => ⟨hx, trivial⟩).next k3 fun x hx hlt => ?_⟩
  · rcases (k2 x hx).2 with h | h
    · exact (h2 x h).2
    · exact .inr (Nat.le_trans h3.size h)
  · rcases (h2 x hx.1).2 with h | h
    · exact ⟨h, trivial⟩
    · omega
end
end Go.Proofs.YtphifanacehppaaGreat.journal
/- A journal and the reference's, side by side: what an act on one of them leaves of the other. No condition. -/
namespace Go.Proofs.YtphifanacehppaaGreat.journal
open Go.RowKit Go.Proofs.YtphifanacehppaaGreat.flash Go.Proofs.YtphifanacehppaaGreat.geom
set_option linter.unusedVariables false

/-- the journal at j over the drive at d over the flash at b; the reference's at r, e, c; apart, in memory of the call's own -/
structure Both (w0 : World) (M N : Nat → Prop) (j d b r e c : Nat) (g : Geo) (F : Fl) (J : Jv) (G : Fl) (K : Jv) (wr : World) : Prop where
  pj : JAt M j d b g F J wr
  rj : RJAt N r e c g G K wr
  ms : ∀ x, M x → w0.heap.size ≤ x
  ns : ∀ x, N x → w0.heap.size ≤ x
  ap : ∀ x, M x → ¬ N x
  bl : Below w0.heap.size w0 wr
def Duo (w0 : World) (j d b r e c : Nat) (g : Geo) (F : Fl) (J : Jv) (G : Fl) (K : Jv) (wr : World) : Prop := ∃ M N, Both w0 M N j d b r e c g F J G K wr
section
variable {w0 wr w' : World} {M N : Nat → Prop} {j d b r e c : Nat} {g : Geo} {F G H : Fl} {J K L : Jv}
theorem Both.later (h : Both w0 M N j d b r e c g F J G K wr) (k : Below wr.heap.size wr w') : Both w0 M N j d b r e c g F J G K w' :=
  ⟨h.pj.later k, h.rj.later k, h.ms, h.ns, h.ap, h.bl.trans (k.mono h.bl.size)⟩
theorem Duo.later (h : Duo w0 j d b r e c g F J G K wr) (k : Below wr.heap.size wr w') : Duo w0 j d b r e c g F J G K w' := by
  obtain ⟨M, N, h⟩ := h
  exact ⟨M, N, h.later k⟩
theorem Duo.below (h : Duo w0 j d b r e c g F J G K wr) : Below w0.heap.size w0 wr := by obtain ⟨M, N, h⟩ := h; exact h.bl
/-- behind what the program's journal did -/
theorem Both.act (h : Both w0 M N j d b r e c g F J G K wr) (k : JTurn M j d b g H L wr w') : Duo w0 j d b r e c g H L G K w' ∧ Below w0.heap.size w0 w' := by
  obtain ⟨M', k1, k2, k3⟩ := k
  have hs := h.bl.size
  have hb : Below w0.heap.size w0 w' := h.bl.trans (k3.below hs fun x hx => h.ms x hx)
  refine ⟨⟨M', N, k1, h.rj.only k3 fun x hx hm => h.ap x hm hx, fun x hx => ?_, h.ns, fun x hx hn => ?_, hb⟩, hb⟩
  · rcases (k2 x hx).2 with h1 | h1
    · exact h.ms x h1
    · omega
  · rcases (k2 x hx).2 with h1 | h1
    · exact h.ap x h1 hn
    · have := h.rj.lt x hn; omega
/-- behind what the reference's journal did -/
theorem Both.ract {T : Nat → Prop} (h : Both w0 M N j d b r e c g F J G K wr) (k : RJTurn N T r e c g H L wr w') : Duo w0 j d b r e c g F J H L w' ∧ Below w0.heap.size w0 w' := by
  obtain ⟨N', k1, k2, k3⟩ := k
  replace k3 : Only N wr w' := k3.mono fun x hx _ => hx.1
  have hs := h.bl.size
  have hb : Below w0.heap.size w0 w' := h.bl.trans (k3.below hs fun x hx => h.ns x hx)
  refine ⟨⟨M, N', h.pj.only k3 fun x hx hn => h.ap x hx hn, k1, h.ms, fun x hx => ?_, fun x hx hn => ?_, hb⟩, hb⟩
  · rcases (k2 x hx).2 with h1 | h1
    · exact h.ns x h1
    · omega
  · rcases (k2 x hn).2 with h1 | h1
    · exact h.ap x hx h1
    · have := h.pj.lt x hx; omega
end
end Go.Proofs.YtphifanacehppaaGreat.journal
/- Contract of Lay of layer 10 (frame), for every frame whose load is a row of words. -/
namespace Go.Proofs.YtphifanacehppaaGreat.frame
open Go.RowKit Go.Proofs.YtphifanacehppaaGreat.word Go.Proofs.YtphifanacehppaaGreat.zeros
set_option linter.unusedVariables false

theorem lay_no (k s : Int) (a : Option Addr) (len cap : Nat) (w : World) (hno : okB k s len = false) :
    Calls Tryz.prog 95 #[.agg #[.int .i64 k, .int .i64 s, .slice a len cap]] w fun e w' => e = .returned (.tuple #[.slice none 0 0, .int .i64 2]) ∧ Below w.heap.size w w' := by
  have cs := fun w' => size_any (len : Int) w'
  have cm := fun w' => marked_any k s w'
  unfold okB at hno
  by_cases h1 : 1 ≤ len ∧ len ≤ 56
  · have hm : markB k s = false := by simpa [h1.1, h1.2] using hno
    have hz : sizeI (len : Int) = (len : Int) + 3 := by unfold sizeI; rw [if_pos (by omega)]
    rw [hm] at cm
    rw [hz] at cs
    have q0 : ((len : Int) + 3 == 0) = false := by simp; omega
    clear hno hm hz
    go_enter Tryz.func95, Tryz.ntmps95
    go_wp2_with (first
      | (go_at_call 77; ((with_reducible refine (cs _).mono ?_); rintro e w' ⟨rfl, m1, rfl⟩))
      | (go_at_call 94; ((with_reducible refine (cm _).mono ?_); rintro e w' ⟨rfl, m2, rfl⟩)))
    go_returns
    exact ⟨rfl, below_drewN ((Below.refl _ _).alloc (Nat.le_refl _) _) _⟩
  · have hz : sizeI (len : Int) = 0 := by unfold sizeI; rw [if_neg (by omega)]
    rw [hz] at cs
    have hc : len = 0 ∨ 56 < len := by omega
    clear hno hz h1 cm
    go_enter Tryz.func95, Tryz.ntmps95
    go_wp2_with (first
      | (go_at_call 77; ((with_reducible refine (cs _).mono ?_); rintro e w' ⟨rfl, m1, rfl⟩)))
    go_returns
    exact ⟨rfl, below_drewN ((Below.refl _ _).alloc (Nat.le_refl _) _) _⟩
set_option maxHeartbeats 1600000 in
theorem lay_yes (k s : Nat) (a : Option Addr) (len cap : Nat) (L : List Nat) (w : World) (hr : Reads .u32 w a len L) (hL : ∀ x ∈ L, x < 4294967296) (hok : okB k s len = true) :
    Calls Tryz.prog 95 #[.agg #[.int .i64 k, .int .i64 s, .slice a len cap]] w fun e w' => ∃ g cap', e = .returned (.tuple #[.slice (some ⟨g, 0, none⟩) (len + 3) cap', .int .i64 0]) ∧
      w.heap.size ≤ g ∧ Row w' 43 .u32 g cap' (words k s L) ∧ Below w.heap.size w w' := by
  obtain ⟨i0, hi, hz0, hz1, hz2⟩ := info_parts Tryzinfo34
  have hlen := hr.1
  obtain ⟨hk, h1, h2, h3, h4⟩ := okB_true.1 hok
  have cs := fun w' => size_any (len : Int) w'
  have cm := fun w' => marked_any (k : Int) s w'
  have hz : sizeI (len : Int) = (len : Int) + 3 := by unfold sizeI; rw [if_pos (by omega)]
  have hm : markB (k : Int) s = true := markB_true.2 ⟨hk, h1, h2⟩
  rw [hm] at cm
  rw [hz] at cs
  have q0 : ((len : Int) + 3 == 0) = false := by simp; omega
  have ct := fun w' => twin_yes len (by omega) w'
  have HL := hid hL
  have HN := hid hlen
  have HB := hid (body_length k s L)
  have HS := hid (sealed_body k s L (by omega))
  have hw0 : Below w.heap.size w (w.alloc (.cells #[.int .i64 k, .int .i64 s, .slice a len cap] 127)) := (Below.refl _ _).alloc (Nat.le_refl _) _
  clear hz hm hL hlen hok
  go_enter Tryz.func95, Tryz.ntmps95
  go_wp2_with (first
    | (go_at_call 77; ((with_reducible refine (cs _).mono ?_); rintro e w' ⟨rfl, m1, rfl⟩))
    | (go_at_call 94; ((with_reducible refine (cm _).mono ?_); rintro e w' ⟨rfl, m2, rfl⟩))
    | (go_at_call 113; ((with_reducible refine (ct _).mono ?_); rintro e w' ⟨rfl, m3, rfl⟩))
    | (at_make; refine wpList_make_full _ rfl _ _ 24 rfl (w.heap.size + 1) 43 i0 (.int .u32 0) 1 Tryz.underlying24 hi hz0 hz1 _ _ _ _ (len + 2) rfl rfl (by go_num) (by go_num) (by rw [hz2]; omega) (by unfold maxLen; omega) (by simp) ?_))
  intro w1 hown hgrow
  rw [toList_madeCells_one] at hown
  have hb1 : Below (w.heap.size + 1) (w.alloc (.cells #[.int .i64 k, .int .i64 s, .slice a len cap] 127)) w1 := (below_drewN (Below.refl _ _) _).grown hgrow (by simp) (fun k h => by cases h)
  obtain ⟨g, cap', he, hg, hrow⟩ := Row.own (k := .u32) (xs := List.replicate (len + 2) 0) (by rw [List.map_replicate]; exact hown) (by omega)
  simp only [Value.slice.injEq, Option.some.injEq, Addr.mk.injEq, and_true, true_and] at he
  obtain ⟨rfl, rfl⟩ := he
  have d0 : w1.cell? ⟨w.heap.size, 0, none⟩ = some (.int .i64 k) := (hb1.cell (p := ⟨w.heap.size, 0, none⟩) (by simp)).trans (by simp)
  have d1 : w1.cell? ⟨w.heap.size, 1, none⟩ = some (.int .i64 s) := (hb1.cell (p := ⟨w.heap.size, 1, none⟩) (by simp)).trans (by simp)
  have d2 : w1.cell? ⟨w.heap.size, 2, none⟩ = some (.slice a len cap) := (hb1.cell (p := ⟨w.heap.size, 2, none⟩) (by simp)).trans (by simp)
  have c0 := hrow.get (i := 0) (by simp)
  have c1 := hrow.get (i := 1) (by simp)
  have f0 := hrow.frozen 0
  have f1 := hrow.frozen 1
  have HROW := hid hrow
  have HB1 := hid hb1
  have HR := hid hr
  clear hrow hb1 hr hown hgrow hw0 hg
  simp only [List.getD_eq_getElem?_getD, List.getElem?_replicate] at c0 c1
  obtain ⟨H, hH⟩ : ∃ H : Nat, H = k * 1073741824 + s := ⟨_, rfl⟩
  have hor : bits .or .u32 ((k : Int) * 1073741824) (s : Int) = (H : Int) := by
    have h := u32_or_nat (k * 1073741824) s (by omega) (by omega)
    rw [nat_join 30 (k * 1073741824) s (by omega) (by omega), ← hH, show ((k * 1073741824 : Nat) : Int) = (k : Int) * 1073741824 from by omega] at h
    exact h
  have HH := hid hH
  clear hH
  go_wp2
  have hrow2 : Row ((w1.setCell ⟨w.heap.size + 1, 0, none⟩ (.int .u32 (twinN len : Nat))).setCell ⟨w.heap.size + 1, 1, none⟩ (.int .u32 (H : Int))) 43 .u32 (w.heap.size + 1) (len + 2) (twinN len :: H :: List.replicate len 0) := by
    have h := (HROW.out.set (i := 0) (by simp) (twinN len)).set (i := 1) (by simp) H
    simpa [List.replicate_succ] using h
  have hb2 : Below (w.heap.size + 1) w1 ((w1.setCell ⟨w.heap.size + 1, 0, none⟩ (.int .u32 (twinN len : Nat))).setCell ⟨w.heap.size + 1, 1, none⟩ (.int .u32 (H : Int))) :=
    ((Below.refl (w.heap.size + 1) w1).setCell (p := ⟨w.heap.size + 1, 0, none⟩) (Nat.le_refl _) _).setCell (p := ⟨w.heap.size + 1, 1, none⟩) (Nat.le_refl _) _
  generalize (w1.setCell ⟨w.heap.size + 1, 0, none⟩ (.int .u32 (twinN len : Nat))).setCell ⟨w.heap.size + 1, 1, none⟩ (.int .u32 (H : Int)) = w2 at *
  have e2 : w2.cell? ⟨w.heap.size, 2, none⟩ = some (.slice a len cap) := (hb2.cell (p := ⟨w.heap.size, 2, none⟩) (by simp)).trans d2
  have hbw : Below w.heap.size w w2 := ((Below.refl _ _).alloc (Nat.le_refl _) _).trans ((HB1.out.trans hb2).mono (by omega))
  have hr2 := HR.out.below hbw
  obtain ⟨b, off, rfl, hbs, hc⟩ := hr2.at (show 0 < len by omega)
  obtain ⟨pad, hblk, _, _⟩ := hrow2
  have hnums : (L.map fun x : Nat => Value.int .u32 (x : Int)).length = len := by rw [List.length_map]; exact HN.out
  have HCS := hid (fun n => cells_of (hr2.drewN n))
  have HVL := hid hnums
  have HCN : Hid ((L.map fun x : Nat => Value.int .u32 (x : Int)).length = Nat.min len len) := hid (by rw [hnums]; exact (Nat.min_self _).symm)
  have hsz1 : (Tryz.prog.info? 43).map (·.size) = some 1 := by rw [hi]; simp [hz1]
  have H1 := hid (ints_one .u32 L)
  have HBLK := hid hblk
  have HBW := hid hbw
  have hput : put ((twinN len :: H :: List.replicate len 0).map (fun x : Nat => Value.int .u32 (x : Int)) ++ pad) 2 (L.map fun x : Nat => Value.int .u32 (x : Int)) = (body k s L).map (fun x : Nat => Value.int .u32 (x : Int)) ++ pad := by
    have h := put_mid [.int .u32 (twinN len : Nat), .int .u32 (H : Int)] ((List.replicate len 0).map (fun x : Nat => Value.int .u32 (x : Int))) pad (L.map fun x : Nat => Value.int .u32 (x : Int)) (by simp [HN.out])
    unfold body
    rw [HN.out, ← HH.out]
    exact h
  have HPUT := hid hput
  clear hnums hblk hbw hput hr2 hc c0 c1 f0 f1 d0 d1 d2 hor hb2
  generalize hgx : (L.map fun x : Nat => Value.int .u32 (x : Int)) = vs at *
  clear hgx
  refine tail.region 4 (by kernel_rfl) (by kernel_rfl) ?_
  simp only [List.take_succ_cons, List.take_zero, List.drop_succ_cons, List.drop_zero]
  repeat (go_big_quiet_step (fail))
  refine wpQuiet_nil ?_
  rintro _ ⟨nq, rfl⟩
  have HTH : Hid ((w2.drewN nq).there (w.heap.size + 1) 2 vs.length) := hid ((HBLK.out.drewN nq).there 2 vs.length (by rw [HVL.out]; simp; omega))
  go_wp2_with (with_reducible refine wpList_copy_block rfl (.tmp 47) (.tmp 49) 24 24 rfl 43 Tryz.underlying24 hsz1 (w.heap.size + 1) 2 len len ⟨b, off, none⟩ len cap rfl rfl vs HCN.out (HCS.out nq) HTH.out H1.out ?_)
  have hblk3 := (HBLK.out.drewN nq).setCells (vs := vs) (o := 2)
  rw [HPUT.out] at hblk3
  have hb3 : Below w.heap.size w ((w2.drewN nq).setCells (w.heap.size + 1) 2 vs) := below_setCells (below_drewN HBW.out nq) (by omega) 2 vs
  generalize (w2.drewN nq).setCells (w.heap.size + 1) 2 vs = w3 at *
  have hr3 : Reads .u32 w3 (some ⟨w.heap.size + 1, 0, none⟩) (len + 2) (body k s L) := hblk3.reads 0 (body k s L) (fun i hi => by
    rw [Nat.zero_add, List.getElem?_append_left (by simpa using hi), List.getElem?_map, List.getD_eq_getElem?_getD, List.getElem?_eq_getElem hi]; rfl) _ (by rw [HB.out, HN.out])
  have cse := seal_any (some ⟨w.heap.size + 1, 0, none⟩) (len + 2) (len + 2) (body k s L) w3 hr3 (body_lt k s L (by omega) (by omega) (by rw [HN.out]; omega) HL.out) (by omega)
  rw [HS.out] at cse
  have HS3 := hid hb3
  clear hblk3 hr3 hb3
  go_wp2_with (go_at_call 114; ((with_reducible refine cse.mono ?_); rintro e w4 ⟨v, rfl, hov, hbv⟩))
  go_ret2
  obtain ⟨g, cap', rfl, hg, hrow⟩ := Row.own hov (by omega)
  exact ⟨g, cap', rfl, by have := HS3.out.size; omega, hrow, HS3.out.trans (hbv.mono HS3.out.size)⟩
end Go.Proofs.YtphifanacehppaaGreat.frame
/- Contract of the reference's Same of layer 1 at two slices of the same length. -/
namespace Go.Proofs.YtphifanacehppaaGreat.word
open Go.RowKit
set_option linter.unusedVariables false

theorem take_succ_getD (xs : List Nat) (k : Nat) (h : k < xs.length) : xs.take (k + 1) = xs.take k ++ [xs.getD k 0] := by
  rw [List.take_succ_eq_append_getElem h, List.getD_eq_getElem?_getD, List.getElem?_eq_getElem h]; rfl
set_option maxHeartbeats 1600000 in
theorem sameB_any (a b : Option Addr) (len ca cb : Nat) (xs ys : List Nat) (w : World) (ha : Reads .u32 w a len xs) (hb : Reads .u32 w b len ys) (hl : len * 4 ≤ 140737488355328) :
    Calls Tryz.prog 18 #[.slice a len ca, .slice b len cb] w (Quiet (.bool (decide (xs = ys))) w) := by
  have hq : ((len : Int) != len) = false := by simp
  have hlx := ha.1
  have hly := hb.1
  generalize hd : decide (xs = ys) = d
  have HD := hid hd
  clear hd
  go_enter Tryz.func18, Tryz.ntmps18
  go_wp2
  go_loopw [5] (fun i wr => ∃ k : Nat, k ≤ len ∧ i = .int .i64 k ∧ Hid (xs.take k = ys.take k) ∧ ∃ m, wr = w.drewN m) (fun i _ => len - (intOf i).toNat)
  case atStart => exact ⟨0, Nat.zero_le _, rfl, hid (by simp), 0, rfl⟩
  case round =>
    obtain ⟨k, hk, rfl, HT, m, rfl⟩ := hrel
    by_cases hlt : k < len
    · obtain ⟨b1, o1, rfl, _, hc1⟩ := ha.at hlt
      obtain ⟨b2, o2, rfl, _, hc2⟩ := hb.at hlt
      have c1 := hc1 k hlt
      have c2 := hc2 k hlt
      have i1 : (k : Int) < len := by omega
      have HX := hid (take_succ_getD xs k (by omega))
      have HY := hid (take_succ_getD ys k (by omega))
      have HN : Hid (xs.getD k 0 ≠ ys.getD k 0 → d = false) := hid (fun h => by
        rw [← HD.out, decide_eq_false_iff_not]; intro he; exact h (by rw [he]))
      clear hc1 hc2
      generalize xs.getD k 0 = x1 at *
      generalize ys.getD k 0 = y1 at *
      have c1' : (w.drewN m).cell? ⟨b1, o1 + k, none⟩ = some (.int .u32 (x1 : Int)) := c1
      have c2' : (w.drewN m).cell? ⟨b2, o2 + k, none⟩ = some (.int .u32 (y1 : Int)) := c2
      by_cases he : x1 = y1
      · subst he
        have hn : ((x1 : Int) != x1) = false := by simp
        go_wp2
        go_quiet (fail)
        go_wp2
        exact ⟨⟨k + 1, by omega, by go_num, hid (by rw [HX.out, HY.out, HT.out]), ⟨_, rfl⟩⟩, by simp [intOf]; omega⟩
      · have hn : ((x1 : Int) != y1) = true := by rw [bne_iff_ne]; omega
        have HE := hid he
        clear he
        go_wp2
        go_quiet (fail)
        go_wp2
        go_ret
        exact ⟨ret_bool (HN.out HE.out).symm, m + nq, by rw [World.drewN_drewN]⟩
    · go_wp2
      go_ret
      refine ⟨ret_bool ?_, _, rfl⟩
      rw [← HD.out]
      symm
      rw [decide_eq_true_eq]
      have := HT.out
      rwa [List.take_of_length_le (by omega), List.take_of_length_le (by omega)] at this
end Go.Proofs.YtphifanacehppaaGreat.word
