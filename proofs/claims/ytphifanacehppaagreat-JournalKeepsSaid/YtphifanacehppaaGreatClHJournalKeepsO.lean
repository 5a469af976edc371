/- Lemmas of the claim HJournalKeeps. Each says its own conditions. -/
import Derived.Test.YtphifanacehppaaGreatClHJournalKeepsB
import Derived.Test.YtphifanacehppaaGreatClHJournalKeepsH
import Derived.Test.YtphifanacehppaaGreatClHJournalKeepsI
import Derived.Test.YtphifanacehppaaGreatClHJournalKeepsJ
import Derived.Test.YtphifanacehppaaGreatClHJournalKeepsM
import Derived.Test.YtphifanacehppaaGreatClHJournalKeepsN
import Derived.Test.YtphifanacehppaaGreatCmE
import Derived.Test.YtphifanacehppaaGreatCmG
import Derived.Test.YtphifanacehppaaGreatClHJournalKeepsF
import Derived.Test.YtphifanacehppaaGreatClHJournalKeepsG
/- What acts on a journal and on the reference's leave of the two, beside blocks of others. No condition but flashes with few writes. -/
namespace Go.Proofs.YtphifanacehppaaGreat.journal
open Go Go.RowKit Go.Proofs.YtphifanacehppaaGreat.flash Go.Proofs.YtphifanacehppaaGreat.geom Go.Proofs.YtphifanacehppaaGreat.word
set_option linter.unusedVariables false

/-- the counter of writes -/
theorem turn_step {F : Fl} {g : Geo} {J : Jv} (ok : F.Ok) (hq : J.p.seq < 1073741823) {whole : List Nat} (hb : loadB whole = true) (hw : ∀ x ∈ whole, x < 4294967296) : drive.Step F (turnV F g J whole).2.1 60 := by
  have hb' := of_decide_eq_true hb
  have hW := frame.words_lt 1 (J.p.seq + 1) whole (by decide) (by omega) hb'.2 hw
  have h := drive.fresh_step ok g ((1 - J.sector : Nat) : Int) hW
  rw [frame.words_length] at h
  unfold turnV
  split
  · exact h.more (by omega)
  · exact h.more (by omega)
theorem lay_step {F : Fl} {g : Geo} {J : Jv} (ok : F.Ok) (hq : J.p.seq < 1073741823) {k : Nat} (hk : k = 1 ∨ k = 2) {load : List Nat} (hb : loadB load = true) (hw : ∀ x ∈ load, x < 4294967296) : drive.Step F (layV F g J k load).2.1 60 := by
  have hb' := of_decide_eq_true hb
  have hW := frame.words_lt k (J.p.seq + 1) load (by omega) (by omega) hb'.2 hw
  have h := drive.write_step ok g (J.sector : Int) (J.p.tail : Int) hW
  rw [frame.words_length] at h
  unfold layV
  split
  · exact h.more (by omega)
  · exact h.more (by omega)
theorem put_step {F : Fl} {g : Geo} {J : Jv} (fits : Fits F g) {k : Nat} (hk : k = 1 ∨ k = 2) {load whole : List Nat} (hw : ∀ x ∈ load, x < 4294967296) (hw2 : ∀ x ∈ whole, x < 4294967296) : drive.Step F (putV F g J k load whole).2.1 60 := by
  have hb := fits.bounds
  unfold putV
  split
  · rename_i h
    unfold addV
    split
    · exact .refl fits.ok _
    · split
      · exact turn_step fits.ok (by omega) h.2 hw2
      · exact lay_step fits.ok (by omega) hk h.1 hw
  · exact .refl fits.ok _
theorem act_step {F : Fl} {g : Geo} {J : Jv} (fits : Fits F g) (k : Int) {load whole : List Nat} (hw : ∀ x ∈ load, x < 4294967296) (hw2 : ∀ x ∈ whole, x < 4294967296) : drive.Step F (actV F g J k load whole).2.1 60 := by
  have hb := fits.bounds
  unfold actV
  split
  · exact put_step fits (.inr rfl) hw hw2
  · split
    · exact put_step fits (.inl rfl) hw2 hw2
    · split
      · unfold mendV
        split
        · exact .refl fits.ok _
        · split
          · exact .refl fits.ok _
          · exact turn_step fits.ok (by omega) (by simpa using ‹¬ loadB whole = false›) hw2
      · exact .refl fits.ok _
/-- the two journals beside the blocks of Q -/
def Duo2 (w0 : World) (Q : Nat → Prop) (j d b r e c : Nat) (g : Geo) (F : Fl) (J : Jv) (G : Fl) (K : Jv) (wr : World) : Prop :=
  ∃ M N, Both w0 M N j d b r e c g F J G K wr ∧ ∀ x, Q x → x < wr.heap.size ∧ ¬ M x ∧ ¬ N x
section
variable {w0 wr w' : World} {Q : Nat → Prop} {M N : Nat → Prop} {j d b r e c : Nat} {g : Geo} {F G H : Fl} {J K L : Jv}
theorem Duo2.below (h : Duo2 w0 Q j d b r e c g F J G K wr) : Below w0.heap.size w0 wr := by obtain ⟨M, N, h, _⟩ := h; exact h.bl
theorem Duo2.later (h : Duo2 w0 Q j d b r e c g F J G K wr) (k : Below wr.heap.size wr w') : Duo2 w0 Q j d b r e c g F J G K w' := by
  obtain ⟨M, N, h, hq⟩ := h
  exact ⟨M, N, h.later k, fun x hx => ⟨Nat.lt_of_lt_of_le (hq x hx).1 k.size, (hq x hx).2⟩⟩
theorem Duo2.less {Q' : Nat → Prop} (h : Duo2 w0 Q j d b r e c g F J G K wr) (k : ∀ x, Q' x → Q x) : Duo2 w0 Q' j d b r e c g F J G K wr := by
  obtain ⟨M, N, h, hq⟩ := h
  exact ⟨M, N, h, fun x hx => hq x (k x hx)⟩
/-- blocks that were made behind -/
theorem Duo2.more {Q' : Nat → Prop} (h : Duo2 w0 Q j d b r e c g F J G K wr) (k : Below wr.heap.size wr w') (hQ : ∀ x, Q' x → Q x ∨ wr.heap.size ≤ x ∧ x < w'.heap.size) : Duo2 w0 Q' j d b r e c g F J G K w' := by
  obtain ⟨M, N, h, hq⟩ := h
  refine ⟨M, N, h.later k, fun x hx => ?_⟩
  rcases hQ x hx with h1 | h1
  · exact ⟨Nat.lt_of_lt_of_le (hq x h1).1 k.size, (hq x h1).2⟩
  · exact ⟨h1.2, fun hm => by have := h.pj.lt x hm; omega, fun hn => by have := h.rj.lt x hn; omega⟩
/-- a cell of one of the blocks of Q turned -/
theorem Duo2.set (h : Duo2 w0 Q j d b r e c g F J G K wr) {T : Nat → Prop} (k : Only T wr w') (hT : ∀ x, T x → Q x ∧ w0.heap.size ≤ x) : Duo2 w0 Q j d b r e c g F J G K w' := by
  obtain ⟨M, N, h, hq⟩ := h
  exact ⟨M, N, ⟨h.pj.only k fun x hm ht => (hq x (hT x ht).1).2.1 hm, h.rj.only k fun x hn ht => (hq x (hT x ht).1).2.2 hn, h.ms, h.ns, h.ap, h.bl.trans (k.below h.bl.size fun x hx => (hT x hx).2)⟩, fun x hx => ⟨Nat.lt_of_lt_of_le (hq x hx).1 k.size, (hq x hx).2⟩⟩
/-- behind a turn of the program's: the blocks of Q stand -/
theorem Both.act2 (h : Both w0 M N j d b r e c g F J G K wr) (hq : ∀ x, Q x → x < wr.heap.size ∧ ¬ M x ∧ ¬ N x) (k : JTurn M j d b g H L wr w') : Duo2 w0 Q j d b r e c g H L G K w' ∧ Stays Q wr w' := by
  obtain ⟨M', k1, k2, k3⟩ := k
  have hs := h.bl.size
  have hb : Below w0.heap.size w0 w' := h.bl.trans (k3.below hs fun x hx => h.ms x hx)
  refine ⟨⟨M', N, ⟨k1, h.rj.only k3 fun x hx hm => h.ap x hm hx, fun x hx => ?_, h.ns, fun x hx hn => ?_, hb⟩, fun x hx => ⟨Nat.lt_of_lt_of_le (hq x hx).1 k3.size, fun hm => ?_, (hq x hx).2.2⟩⟩, .only k3 fun x hx => (hq x hx).2.1⟩
  · rcases (k2 x hx).2 with h1 | h1
    · exact h.ms x h1
    · omega
  · rcases (k2 x hx).2 with h1 | h1
    · exact h.ap x h1 hn
    · have := h.rj.lt x hn; omega
  · rcases (k2 x hm).2 with h1 | h1
    · exact (hq x hx).2.1 h1
    · have := (hq x hx).1; omega
theorem Both.ract2 {T : Nat → Prop} (h : Both w0 M N j d b r e c g F J G K wr) (hq : ∀ x, Q x → x < wr.heap.size ∧ ¬ M x ∧ ¬ N x) (k : RJTurn N T r e c g H L wr w') : Duo2 w0 Q j d b r e c g F J H L w' ∧ Stays Q wr w' := by
  obtain ⟨N', k1, k2, k3⟩ := k
  replace k3 : Only N wr w' := k3.mono fun x hx _ => hx.1
  have hs := h.bl.size
  have hb : Below w0.heap.size w0 w' := h.bl.trans (k3.below hs fun x hx => h.ns x hx)
  refine ⟨⟨M, N', ⟨h.pj.only k3 fun x hx hn => h.ap x hx hn, k1, h.ms, fun x hx => ?_, fun x hx hn => ?_, hb⟩, fun x hx => ⟨Nat.lt_of_lt_of_le (hq x hx).1 k3.size, (hq x hx).2.1, fun hn => ?_⟩⟩, .only k3 fun x hx => (hq x hx).2.2⟩
  · rcases (k2 x hx).2 with h1 | h1
    · exact h.ns x h1
    · omega
  · rcases (k2 x hn).2 with h1 | h1
    · exact h.ap x hx h1
    · have := h.pj.lt x hx; omega
  · rcases (k2 x hn).2 with h1 | h1
    · exact (hq x hx).2.2 h1
    · have := (hq x hx).1; omega
theorem duo_do (h : Duo2 w0 Q j d b r e c g F J G K wr) (fits : Fits F g) (hcnt : F.count < 1152921504606846976) (hso : J.Sound g) (hq0 : J.p.seq ≠ 0) (k a : Int) (x y : Option Addr) (n cx m cy : Nat) (L V : List Nat)
    (hr : Reads .u32 wr x n L) (hL : ∀ y ∈ L, y < 4294967296) (hr2 : Reads .u32 wr y m V) (hV : ∀ y ∈ V, y < 4294967296) (hn : n ≤ 4611686018427387904) (hm : m ≤ 4611686018427387904) :
    Calls Tryz.prog 14 #[.pointer (some ⟨j, 0, none⟩), .agg #[.int .i64 k, .int .i64 a, .slice x n cx, .slice y m cy]] wr fun o w' => o = .returned (.int .i64 (actV F g J k L V).1) ∧ Duo2 w0 Q j d b r e c g (actV F g J k L V).2.1 (actV F g J k L V).2.2 G K w' ∧ Stays Q wr w' := by
  obtain ⟨M, N, h, hq⟩ := h
  obtain ⟨S, X, wv, cv, hj⟩ := h.pj
  refine (do_this hj fits hcnt hso hq0 k a x y n cx m cy L V hr hL hr2 hV hn hm).mono ?_
  rintro o w' ⟨ho, ht⟩
  exact ⟨ho, h.act2 hq ht⟩
theorem duo_told (h : Duo2 w0 Q j d b r e c g F J G K wr) (fits : Fits G g) (hcnt : G.count < 1152921504606846976) (hso : K.Sound g) (hq0 : K.p.seq ≠ 0) (k a : Int) (x y : Option Addr) (n cx m cy : Nat) (L V : List Nat)
    (hr : Reads .u32 wr x n L) (hL : ∀ y ∈ L, y < 4294967296) (hr2 : Reads .u32 wr y m V) (hV : ∀ y ∈ V, y < 4294967296) :
    Calls Tryz.prog 12 #[.pointer (some ⟨r, 0, none⟩), .agg #[.int .i64 k, .int .i64 a, .slice x n cx, .slice y m cy]] wr fun o w' => o = .returned (.int .i64 (actV G g K k L V).1) ∧ Duo2 w0 Q j d b r e c g F J (actV G g K k L V).2.1 (actV G g K k L V).2.2 w' ∧ Stays Q wr w' := by
  obtain ⟨M, N, h, hq⟩ := h
  obtain ⟨S, X, wv, cv, hj⟩ := h.rj
  refine (told_this hj fits hcnt hso hq0 k a x y n cx m cy L V hr hL hr2 hV).mono ?_
  rintro o w' ⟨ho, ht⟩
  exact ⟨ho, h.ract2 hq ht⟩
theorem duo_power (h : Duo2 w0 Q j d b r e c g F J G K wr) :
    Calls Tryz.prog 15 #[.pointer (some ⟨b, 0, none⟩)] wr fun o w' => o = .returned (.tuple #[]) ∧ Duo2 w0 Q j d b r e c g F.power J G K w' ∧ Stays Q wr w' := by
  obtain ⟨M, N, h, hq⟩ := h
  obtain ⟨S, X, wv, cv, hj⟩ := h.pj
  refine (power_did hj.dr.fl).mono ?_
  rintro o w' ⟨ho, ht⟩
  exact ⟨ho, h.act2 hq (hj.turned ht)⟩
theorem duo_rpower (h : Duo2 w0 Q j d b r e c g F J G K wr) :
    Calls Tryz.prog 38 #[.pointer (some ⟨c, 0, none⟩)] wr fun o w' => o = .returned (.tuple #[]) ∧ Duo2 w0 Q j d b r e c g F J G.power K w' ∧ Stays Q wr w' := by
  obtain ⟨M, N, h, hq⟩ := h
  obtain ⟨S, X, wv, cv, hj⟩ := h.rj
  obtain ⟨cm, gW, cW, gV, cV, hf⟩ := hj.dr.fl
  refine ((refPower_any hf).mono fun e w' k => k.did hf).mono ?_
  rintro o w' ⟨ho, ht⟩
  exact ⟨ho, h.ract2 hq (hj.turned ht)⟩
theorem duo_arm (h : Duo2 w0 Q j d b r e c g F J G K wr) (ok : F.Ok) (n : Int) (hn : n ≤ 9223372036854775807) (x : Option Addr) (len cap : Nat) (T : List Nat) (hr : Reads .u32 wr x len T) (hlc : len ≤ cap) (hlen : len ≤ 140737488355328) (hcap : cap ≤ maxLen) (hsep : len = 0 ∨ ∃ y, x = some y ∧ (y.block < w0.heap.size ∨ Q y.block)) :
    Calls Tryz.prog 13 #[.pointer (some ⟨b, 0, none⟩), .int .i64 n, .slice x len cap] wr fun o w' => o = .returned (.tuple #[]) ∧ Duo2 w0 Q j d b r e c g (F.arm n T) J G K w' ∧ Stays Q wr w' := by
  obtain ⟨M, N, h, hq⟩ := h
  obtain ⟨S, X, wv, cv, hj⟩ := h.pj
  have hsep2 : len = 0 ∨ ∃ y, x = some y ∧ ¬ S y.block := by
    rcases hsep with h0 | ⟨y, hy, hb⟩
    · exact .inl h0
    · refine .inr ⟨y, hy, fun hs => ?_⟩
      have hm := hj.sub _ (.inl hs)
      rcases hb with hb | hb
      · have := h.ms _ hm; omega
      · exact (hq _ hb).2.1 hm
  refine (arm_did hj.dr.fl ok n hn x len cap T hr hlc hlen hcap hsep2).mono ?_
  rintro o w' ⟨ho, ht⟩
  exact ⟨ho, h.act2 hq (hj.turned ht)⟩
theorem duo_rarm (h : Duo2 w0 Q j d b r e c g F J G K wr) (n : Int) (hn : n ≤ 9223372036854775807) (hn2 : -9223372036854775808 ≤ n) (x : Option Addr) (len cap : Nat) (T : List Nat) (hr : Reads .u32 wr x len T) (hlen : len * 4 ≤ 140737488355328) (hsep : len = 0 ∨ ∃ y, x = some y ∧ (y.block < w0.heap.size ∨ Q y.block)) :
    Calls Tryz.prog 35 #[.pointer (some ⟨c, 0, none⟩), .int .i64 n, .slice x len cap] wr fun o w' => o = .returned (.tuple #[]) ∧ Duo2 w0 Q j d b r e c g F J (G.arm n T) K w' ∧ Stays Q wr w' := by
  obtain ⟨M, N, h, hq⟩ := h
  obtain ⟨S, X, wv, cv, hj⟩ := h.rj
  obtain ⟨cm, gW, cW, gV, cV, hf⟩ := hj.dr.fl
  have hsep2 : len = 0 ∨ ∃ y, x = some y ∧ ¬ S y.block := by
    rcases hsep with h0 | ⟨y, hy, hb⟩
    · exact .inl h0
    · refine .inr ⟨y, hy, fun hs => ?_⟩
      have hm := hj.sub _ (.inl hs)
      rcases hb with hb | hb
      · have := h.ns _ hm; omega
      · exact (hq _ hb).2.2 hm
  refine (refArm_any hf n hn hn2 x len cap T hr hlen hsep2).mono ?_
  rintro o w' ⟨ho, ht⟩
  exact ⟨ho, h.ract2 hq (hj.turned ht)⟩
theorem duo_open (h : Duo2 w0 Q j d b r e c g F J G K wr) (fits : Fits F g) (hd : F.dark = false) {J2 : Jv} (hop : openV F g = some J2) :
    Calls Tryz.prog 16 #[.pointer (some ⟨d, 0, none⟩)] wr fun o w' => ∃ j2, o = .returned (.tuple #[.pointer (some ⟨j2, 0, none⟩), .int .i64 0]) ∧ Duo2 w0 Q j2 d b r e c g F J2 G K w' ∧ Below wr.heap.size wr w' := by
  obtain ⟨M, N, h, hq⟩ := h
  obtain ⟨S, X, wv, cv, hj⟩ := h.pj
  have ho := open_this hj.dr (fun x hx => hj.lm x (hj.sub x (.inl hx))) fits hd
  rw [hop] at ho
  refine ho.mono ?_
  rintro o w' ⟨j2, X2, wv2, cv2, ho, hj2, hb, hX, hn⟩
  have hs := h.bl.size
  have sub : ∀ x, ((S x ∨ x = d) ∨ X2 x ∨ x = j2) → M x ∨ wr.heap.size ≤ x := fun x hx => by
    rcases hx with (hx | hx) | hx | hx
    · exact .inl (hj.sub x (.inl hx))
    · exact .inl (hj.sub x (.inr (.inr (.inr hx))))
    · exact .inr (hX x hx).1
    · exact .inr (by omega)
  refine ⟨j2, ho, ⟨_, N, ⟨⟨_, _, _, _, hn⟩, h.rj.later hb, fun x hx => ?_, h.ns, fun x hx hN => ?_, h.bl.trans (hb.mono hs)⟩, fun x hx => ⟨Nat.lt_of_lt_of_le (hq x hx).1 hb.size, fun hm => ?_, (hq x hx).2.2⟩⟩, hb⟩
  · rcases sub x hx with h1 | h1
    · exact h.ms x h1
    · omega
  · rcases sub x hx with h1 | h1
    · exact h.ap x h1 hN
    · have := h.rj.lt x hN; omega
  · rcases sub x hm with h1 | h1
    · exact (hq x hx).2.1 h1
    · have := (hq x hx).1; omega
theorem duo_ropen (h : Duo2 w0 Q j d b r e c g F J G K wr) (fits : Fits G g) (hd : G.dark = false) {J2 : Jv} (hop : openV G g = some J2) :
    Calls Tryz.prog 39 #[.pointer (some ⟨e, 0, none⟩)] wr fun o w' => ∃ r2, o = .returned (.tuple #[.pointer (some ⟨r2, 0, none⟩), .int .i64 0]) ∧ Duo2 w0 Q j d b r2 e c g F J G J2 w' ∧ Below wr.heap.size wr w' := by
  obtain ⟨M, N, h, hq⟩ := h
  obtain ⟨S, X, wv, cv, hj⟩ := h.rj
  have ho := refOpen_this hj.dr (fun x hx => hj.lm x (hj.sub x (.inl hx))) fits hd
  rw [hop] at ho
  refine ho.mono ?_
  rintro o w' ⟨j2, X2, wv2, cv2, ho, hj2, hb, hX, hn⟩
  have hs := h.bl.size
  have sub : ∀ x, ((S x ∨ x = e) ∨ X2 x ∨ x = j2) → N x ∨ wr.heap.size ≤ x := fun x hx => by
    rcases hx with (hx | hx) | hx | hx
    · exact .inl (hj.sub x (.inl hx))
    · exact .inl (hj.sub x (.inr (.inr (.inr hx))))
    · exact .inr (hX x hx).1
    · exact .inr (by omega)
  refine ⟨j2, ho, ⟨M, _, ⟨h.pj.later hb, ⟨_, _, _, _, hn⟩, h.ms, fun x hx => ?_, fun x hM hx => ?_, h.bl.trans (hb.mono hs)⟩, fun x hx => ⟨Nat.lt_of_lt_of_le (hq x hx).1 hb.size, (hq x hx).2.1, fun hm => ?_⟩⟩, hb⟩
  · rcases sub x hx with h1 | h1
    · exact h.ns x h1
    · omega
  · rcases sub x hx with h1 | h1
    · exact h.ap x hM h1
    · have := h.pj.lt x hM; omega
  · rcases sub x hm with h1 | h1
    · exact (hq x hx).2.2 h1
    · have := (hq x hx).1; omega
theorem duo_same (h : Duo2 w0 Q j d b r e c g F J G J wr) (fits : Fits F g) (hso : J.Sound g) : Calls Tryz.prog 37 #[.pointer (some ⟨j, 0, none⟩), .pointer (some ⟨r, 0, none⟩)] wr fun o w' => o = .returned (.bool true) ∧ Below wr.heap.size wr w' := by
  obtain ⟨M, N, h, hq⟩ := h
  obtain ⟨S, X, wv, cv, hj⟩ := h.pj
  obtain ⟨S', X', wv', cv', hr⟩ := h.rj
  have := fits.bounds
  exact told_same hj hr hso.p (by have := hso.p.count; have := hso.tail; omega)
/-- what is seen of the two flashes -/
theorem duo_seen (h : Duo2 w0 Q j d b r e c g F J F K wr) (ok : F.Ok) : ∃ gW cW,
    (∀ w', Below wr.heap.size wr w' → w'.cell? ⟨r, 0, none⟩ = some (.pointer (some ⟨e, 0, none⟩)) ∧ w'.cell? ⟨e, 0, none⟩ = some (.pointer (some ⟨c, 0, none⟩)) ∧ w'.cell? ⟨c, 0, none⟩ = some (.slice (some ⟨gW, 0, none⟩) F.ws.length cW)) ∧
    (∀ w', Below wr.heap.size wr w' → Calls Tryz.prog 36 #[.pointer (some ⟨b, 0, none⟩)] w' fun e w2 => ∃ q c, e = .returned (.slice (some ⟨q, 0, none⟩) F.ws.length c) ∧ Reads .u32 w2 (some ⟨q, 0, none⟩) F.ws.length F.ws ∧ Below w'.heap.size w' w2) ∧
    (∀ q c w', Reads .u32 w' (some ⟨q, 0, none⟩) F.ws.length F.ws → Below wr.heap.size wr w' → Calls Tryz.prog 18 #[.slice (some ⟨q, 0, none⟩) F.ws.length c, .slice (some ⟨gW, 0, none⟩) F.ws.length cW] w' (Quiet (.bool true) w')) := by
  obtain ⟨M, N, h, hq⟩ := h
  obtain ⟨S, X, wv, cv, hj⟩ := h.pj
  obtain ⟨S', X', wv', cv', hr⟩ := h.rj
  obtain ⟨ca, cb, cm, bw, cw, bv, cv2, h1⟩ := hj.dr.fl
  obtain ⟨dm, gW, cW, gV, cV, h2⟩ := hr.dr.fl
  refine ⟨gW, cW, fun w' hb => ?_, fun w' hb => ?_, fun q c w' hr hb => ?_⟩
  · exact ⟨(hr.later hb).cells.1, (hr.dr.later hb).cells.1, (h2.later hb).cell.1⟩
  · refine (words_any (h1.later hb) ok).mono ?_
    rintro e w2 ⟨q, c, rfl, hq, hr, hb2⟩
    exact ⟨q, c, rfl, hr.reads, hb2⟩
  · exact same_any _ _ F.ws.length c cW F.ws w' hr (h2.later hb).ws.reads (by have := ok.ws_le; omega)
end
end Go.Proofs.YtphifanacehppaaGreat.journal
/- Contract of opened of layer 11's statements. No condition. -/
namespace Go.Proofs.YtphifanacehppaaGreat.journal
open Go Go.RowKit Go.Proofs.YtphifanacehppaaGreat.flash Go.Proofs.YtphifanacehppaaGreat.geom Go.Proofs.YtphifanacehppaaGreat.word
set_option linter.unusedVariables false

/-- results: a struct that lives in a variable, and a value -/
theorem results_pair {fn : Func} {p q : Tmp} {ty : TypeId} {tmps : Array Value} {P : Program} {w : World} {b o : Nat} {cs : List Value} {d : TypeDesc} {v : Value} (h : fn.results = #[.cell p ty, .tmp q])
    (hp : tmps.getD p undef = .pointer (some ⟨b, o, none⟩)) (hv : tmps.getD q undef = v) (hc : w.rangeAt b o cs) (hu : P.underlying ty = some d) (hd : d.isRow = true) (hi : (P.info? ty).map (·.size) = some cs.length) :
    (results fn tmps).run P w = .ok (.tuple #[.agg cs.toArray, v]) w := by
  simp only [results, h]
  simp at hp hv
  simp [hp, hv, asAddr, run_loadVar_mid w b o ty cs d hc hu hd hi]
theorem pair_size : (Tryz.prog.info? 34).map (·.size) = some 4 := by kernel_rfl
section
variable {w0 wr w' : World} {Q : Nat → Prop} {j d b r e c : Nat} {g : Geo} {F G : Fl} {J K : Jv}
theorem duo_rcells (h : Duo2 w0 Q j d b r e c g F J G K wr) : wr.cell? ⟨r, 0, none⟩ = some (.pointer (some ⟨e, 0, none⟩)) ∧ wr.cell? ⟨e, 0, none⟩ = some (.pointer (some ⟨c, 0, none⟩)) := by
  obtain ⟨M, N, h, hq⟩ := h
  obtain ⟨S', X', wv', cv', hr⟩ := h.rj
  exact ⟨hr.cells.1, hr.dr.cells.1⟩
theorem Stays.blk {g : Nat} {t : TypeId} {cs : List Value} (k : Stays Q wr w') (h : Block wr g t cs) (hq : Q g) : Block w' g t cs := (k.block g hq h.lt).trans h
/-- the blocks of Q, and two more -/
def AndTwo (Q : Nat → Prop) (p q : Nat) : Nat → Prop := fun x => Q x ∨ x = p ∨ x = q
set_option maxRecDepth 20000 in
set_option maxHeartbeats 3200000 in
theorem opened_this (h : Duo2 w0 Q j d b r e c g F J F K wr) {J2 : Jv} (inv : Inv F g J2) :
    Calls Tryz.prog 11 #[.agg #[.pointer (some ⟨b, 0, none⟩), .pointer (some ⟨d, 0, none⟩), .pointer (some ⟨j, 0, none⟩), .pointer (some ⟨r, 0, none⟩)]] wr fun o w' =>
      ∃ j2 r2, o = .returned (.tuple #[.agg #[.pointer (some ⟨b, 0, none⟩), .pointer (some ⟨d, 0, none⟩), .pointer (some ⟨j2, 0, none⟩), .pointer (some ⟨r2, 0, none⟩)], .bool true]) ∧ Duo2 w0 Q j2 d b r2 e c g F.power J2 F.power J2 w' ∧ Stays Q wr w' := by
  have inv2 := inv.power
  obtain ⟨w1, hw1⟩ : ∃ z, Hid ((wr.alloc (.cells #[.pointer (some ⟨b, 0, none⟩), .pointer (some ⟨d, 0, none⟩), .pointer (some ⟨j, 0, none⟩), .pointer (some ⟨r, 0, none⟩)] 34)).alloc (.cells #[.pointer none, .pointer none, .pointer none, .pointer none] 34) = z) := ⟨_, rfl⟩
  have hb1 : Below wr.heap.size wr w1 := by rw [← hw1.out]; exact ((Below.refl _ _).alloc (Nat.le_refl _) _).alloc (by simp) _
  have hP : Block w1 wr.heap.size 34 [.pointer (some ⟨b, 0, none⟩), .pointer (some ⟨d, 0, none⟩), .pointer (some ⟨j, 0, none⟩), .pointer (some ⟨r, 0, none⟩)] := by
    rw [← hw1.out]
    exact (Block.new wr 34 [.pointer (some ⟨b, 0, none⟩), .pointer (some ⟨d, 0, none⟩), .pointer (some ⟨j, 0, none⟩), .pointer (some ⟨r, 0, none⟩)]).alloc _
  have hR : Block w1 (wr.heap.size + 1) 34 [.pointer none, .pointer none, .pointer none, .pointer none] := by
    rw [← hw1.out]
    have := Block.new (wr.alloc (.cells #[.pointer (some ⟨b, 0, none⟩), .pointer (some ⟨d, 0, none⟩), .pointer (some ⟨j, 0, none⟩), .pointer (some ⟨r, 0, none⟩)] 34)) 34 [.pointer none, .pointer none, .pointer none, .pointer none]
    simpa using this
  have D1 := h.more (Q' := AndTwo Q wr.heap.size (wr.heap.size + 1)) hb1 (fun x hx => by
    rcases hx with hx | rfl | rfl
    · exact .inl hx
    · exact .inr ⟨Nat.le_refl _, hP.lt⟩
    · exact .inr ⟨Nat.le_succ _, hR.lt⟩)
  have hw0 : w0.heap.size ≤ wr.heap.size := h.below.size
  have hqlt : ∀ x, Q x → x < wr.heap.size := fun x hx => by obtain ⟨M, N, _, hq⟩ := h; exact (hq x hx).1
  have qp : Hid (AndTwo Q wr.heap.size (wr.heap.size + 1) wr.heap.size) := hid (.inr (.inl rfl))
  have qr : Hid (AndTwo Q wr.heap.size (wr.heap.size + 1) (wr.heap.size + 1)) := hid (.inr (.inr rfl))
  have c0 : w1.cell? ⟨wr.heap.size, 0, none⟩ = some (.pointer (some ⟨b, 0, none⟩)) := hP.cell 0
  have cpw := duo_power D1
  have HP := hid hP
  have HR := hid hR
  have HB1 := hid hb1
  clear h hb1 hP hR D1
  go_enter Tryz.func11, Tryz.ntmps11
  go_wp2_with fail
  rw [hw1.out]
  go_wp2_with (first
    | (go_at_call 15; ((with_reducible refine cpw.mono ?_); clear cpw; rintro o w2 ⟨rfl, D2, s2⟩; have P2 := s2.blk HP.out qp.out; have R2 := s2.blk HR.out qr.out; have k2 := duo_rcells D2; have c3 : w2.cell? ⟨wr.heap.size, 3, none⟩ = some (.pointer (some ⟨r, 0, none⟩)) := P2.cell 3; have crp := duo_rpower D2))
    | (go_at_call 38; ((with_reducible refine crp.mono ?_); clear crp; rintro o w3 ⟨rfl, D3, s3⟩; have P3 := s3.blk P2 qp.out; have R3 := s3.blk R2 qr.out; have S3 := s2.trans s3; have c1 : w3.cell? ⟨wr.heap.size, 1, none⟩ = some (.pointer (some ⟨d, 0, none⟩)) := P3.cell 1; have cop := duo_open D3 inv2.fits rfl inv2.op; clear s2 s3 P2 R2 D2 k2 c3))
    | (go_at_call 16; ((with_reducible refine cop.mono ?_); clear cop; rintro o w4 ⟨j2, rfl, D4, b4⟩; have P4 := P3.later b4; have R4 := R3.later b4; have k4 := duo_rcells D4; have c4 : w4.cell? ⟨wr.heap.size, 3, none⟩ = some (.pointer (some ⟨r, 0, none⟩)) := P4.cell 3; have cro := duo_ropen D4 inv2.fits rfl inv2.op; clear P3 R3 D3 c1))
    | (go_at_call 39; ((with_reducible refine cro.mono ?_); clear cro; rintro o w5 ⟨r2, rfl, D5, b5⟩; have P5 := P4.later b5; have R5 := R4.later b5; have S5 := S3.trans (.below (b4.trans (b5.mono b4.size))); have d2 : w5.cell? ⟨wr.heap.size, 2, none⟩ = some (.pointer (some ⟨j, 0, none⟩)) := P5.cell 2; have d3 : w5.cell? ⟨wr.heap.size, 3, none⟩ = some (.pointer (some ⟨r, 0, none⟩)) := P5.cell 3; have f2 := P5.frozen 2; have f3 := P5.frozen 3; have HP5 := hid P5; have HR5 := hid R5; have HD5 := hid D5; have HS5 := hid S5; clear P4 R4 D4 k4 c4 b4 b5 S3 P5 R5 D5 S5)))
  obtain ⟨w6, hw6⟩ : ∃ z, Hid ((w5.setCell ⟨wr.heap.size, 2, none⟩ (.pointer (some ⟨j2, 0, none⟩))).setCell ⟨wr.heap.size, 3, none⟩ (.pointer (some ⟨r2, 0, none⟩)) = z) := ⟨_, rfl⟩
  have hO6 : Only (fun x => x = wr.heap.size) w5 w6 := by
    rw [← hw6.out]
    exact ((Only.refl (fun x => x = wr.heap.size) w5).setCell (g := wr.heap.size) (.inl rfl) 2 _).setCell (g := wr.heap.size) (.inl rfl) 3 _
  have P6 : Block w6 wr.heap.size 34 [.pointer (some ⟨b, 0, none⟩), .pointer (some ⟨d, 0, none⟩), .pointer (some ⟨j2, 0, none⟩), .pointer (some ⟨r2, 0, none⟩)] := by
    rw [← hw6.out]
    exact (HP5.out.setCell 2 _).setCell 3 _
  have R6 := HR5.out.only hO6 (by omega)
  rw [hw6.out]
  have D6 := HD5.out.set hO6 (fun x hx => by subst hx; exact ⟨qp.out, hw0⟩)
  have hbd : Below w6.heap.size w6 w6.drew := below_drewN (Below.refl _ _) 1
  have cs := duo_same (D6.later hbd) inv2.fits inv2.sound
  have P7 := P6.later hbd
  have R7 := R6.later hbd
  have HP7 := hid P7
  have HR7 := hid R7
  have p0 : w6.drew.cell? ⟨wr.heap.size, 0, none⟩ = some (.pointer (some ⟨b, 0, none⟩)) := P7.cell 0
  have p1 : w6.drew.cell? ⟨wr.heap.size, 1, none⟩ = some (.pointer (some ⟨d, 0, none⟩)) := P7.cell 1
  have p2 : w6.drew.cell? ⟨wr.heap.size, 2, none⟩ = some (.pointer (some ⟨j2, 0, none⟩)) := P7.cell 2
  have p3 : w6.drew.cell? ⟨wr.heap.size, 3, none⟩ = some (.pointer (some ⟨r2, 0, none⟩)) := P7.cell 3
  have HD6 := hid D6
  have HO6 := hid hO6
  clear D6 P6 R6 P7 R7 d2 d3 f2 f3 hO6
  go_region_held3 (fun w' => w'.cell? ⟨wr.heap.size, 0, none⟩ = some (.pointer (some ⟨b, 0, none⟩)) ∧ w'.cell? ⟨wr.heap.size, 1, none⟩ = some (.pointer (some ⟨d, 0, none⟩)) ∧ w'.cell? ⟨wr.heap.size, 2, none⟩ = some (.pointer (some ⟨j2, 0, none⟩)) ∧ w'.cell? ⟨wr.heap.size, 3, none⟩ = some (.pointer (some ⟨r2, 0, none⟩))) (first | assumption | go_keep) (
    (go_at_call 37; (with_reducible refine cs.mono ?_); rintro o w7 ⟨rfl, hb7⟩; have q0 : w7.cell? ⟨wr.heap.size, 0, none⟩ = some (.pointer (some ⟨b, 0, none⟩)) := (HP7.out.later hb7).cell 0; have q1 : w7.cell? ⟨wr.heap.size, 1, none⟩ = some (.pointer (some ⟨d, 0, none⟩)) := (HP7.out.later hb7).cell 1; have q2 : w7.cell? ⟨wr.heap.size, 2, none⟩ = some (.pointer (some ⟨j2, 0, none⟩)) := (HP7.out.later hb7).cell 2; have q3 : w7.cell? ⟨wr.heap.size, 3, none⟩ = some (.pointer (some ⟨r2, 0, none⟩)) := (HP7.out.later hb7).cell 3; have R8 := HR7.out.later hb7; have z0 : w7.cell? ⟨wr.heap.size + 1, 0, none⟩ = some (.pointer none) := R8.cell 0; have z1 : w7.cell? ⟨wr.heap.size + 1, 1, none⟩ = some (.pointer none) := R8.cell 1; have z2 : w7.cell? ⟨wr.heap.size + 1, 2, none⟩ = some (.pointer none) := R8.cell 2; have z3 : w7.cell? ⟨wr.heap.size + 1, 3, none⟩ = some (.pointer none) := R8.cell 3; have f0 := R8.frozen 0; have f1 := R8.frozen 1; have f2 := R8.frozen 2; have f3 := R8.frozen 3; have HR8 := hid R8; clear R8))
  obtain ⟨w8, hw8⟩ : ∃ z, Hid ((((w7.setCell ⟨wr.heap.size + 1, 0, none⟩ (.pointer (some ⟨b, 0, none⟩))).setCell ⟨wr.heap.size + 1, 1, none⟩ (.pointer (some ⟨d, 0, none⟩))).setCell ⟨wr.heap.size + 1, 2, none⟩ (.pointer (some ⟨j2, 0, none⟩))).setCell ⟨wr.heap.size + 1, 3, none⟩ (.pointer (some ⟨r2, 0, none⟩)) = z) := ⟨_, rfl⟩
  rw [hw8.out]
  have R9 : Block w8 (wr.heap.size + 1) 34 [.pointer (some ⟨b, 0, none⟩), .pointer (some ⟨d, 0, none⟩), .pointer (some ⟨j2, 0, none⟩), .pointer (some ⟨r2, 0, none⟩)] := by
    rw [← hw8.out]
    exact (((HR8.out.setCell 0 _).setCell 1 _).setCell 2 _).setCell 3 _
  have hO8 : Only (fun x => x = wr.heap.size + 1) w7 w8 := by
    rw [← hw8.out]
    exact ((((Only.refl (fun x => x = wr.heap.size + 1) w7).setCell (g := wr.heap.size + 1) (.inl rfl) 0 _).setCell (g := wr.heap.size + 1) (.inl rfl) 1 _).setCell (g := wr.heap.size + 1) (.inl rfl) 2 _).setCell (g := wr.heap.size + 1) (.inl rfl) 3 _
  go_wp2
  refine bodyPost_ret (results_pair (b := wr.heap.size + 1) (o := 0) rfl rfl rfl R9.whole Tryz.underlying34 rfl pair_size) rfl ?_
  have hb67 : Below w6.heap.size w6 w7 := hbd.trans hb7
  have D8 := (HD6.out.later hb67).set hO8 (fun x hx => by subst hx; exact ⟨qr.out, by omega⟩)
  refine ⟨j2, r2, rfl, D8.less fun x hx => .inl hx, ?_⟩
  have s05 : Stays Q wr w5 := ((Stays.below HB1.out).trans ⟨HS5.out.size, fun x hx hl => HS5.out.block x (.inl hx) hl⟩)
  have s06 : Stays Q wr w6 := s05.trans (.only HO6.out fun x hx e => by have := hqlt x hx; omega)
  exact (s06.trans (.below hb67)).trans (.only hO8 fun x hx e => by have := hqlt x hx; omega)
end
end Go.Proofs.YtphifanacehppaaGreat.journal
/- Contract of the reference's New of layer 11. No condition but a flash with few writes. -/
namespace Go.Proofs.YtphifanacehppaaGreat.journal
open Go Go.RowKit Go.Proofs.YtphifanacehppaaGreat.flash Go.Proofs.YtphifanacehppaaGreat.geom
set_option linter.unusedVariables false

theorem refNew_bad (d : Nat) (y : Option Addr) (m e : Nat) (V : List Nat) (w : World) (hm : V.length = m) (hb : loadB V = false) :
    Calls Tryz.prog 33 #[.pointer (some ⟨d, 0, none⟩), .slice y m e] w (Quiet (.tuple #[.pointer none, .int .i64 2]) w) := by
  have c2 := fun w' => load_any y m e V w' hm
  rw [hb] at c2
  clear hm hb
  go_enter Tryz.func33, Tryz.ntmps33
  go_wp2_with (go_at_call 58; ((with_reducible refine (c2 _).mono ?_); rintro e w' ⟨rfl, m1, rfl⟩))
  go_ret2
  exact ⟨rfl, _, rfl⟩
/-- the empty journal that New begins with -/
theorem rjin_new {S : Nat → Prop} {d b : Nat} {g : Geo} {F : Fl} {w : World} (h : drive.RDriveAt S d b g F w) (hS : ∀ x, S x → x < w.heap.size) (A : Nat) :
    RJIn (fun x => (S x ∨ x = d) ∨ x = w.heap.size) S (fun _ => False) w.heap.size d b g F ⟨A, Part.zero, false⟩ (.slice none 0 0) (.slice none 0 0) (w.alloc (.cells #[.pointer (some ⟨d, 0, none⟩), .int .i64 (A : Int), .int .i64 0, .bool false, .int .i64 0, .slice none 0 0, .slice none 0 0] 48)) := by
  have hd := h.lt
  refine ⟨h.later ((Below.refl _ _).alloc (Nat.le_refl _) _), Block.new w 48 [.pointer (some ⟨d, 0, none⟩), .int .i64 (A : Int), .int .i64 0, .bool false, .int .i64 0, .slice none 0 0, .slice none 0 0], .nil, .nil, fun x hx => hx.elim, fun hx => by have := hS _ hx; omega, fun hx => hx, fun hx => hx, by omega, fun x hx => ?_, fun x hx => ?_⟩
  · rcases hx with hx | hx | hx | hx
    · exact .inl (.inl hx)
    · exact hx.elim
    · exact .inr hx
    · exact .inl (.inr hx)
  · have hsz : (w.alloc (.cells #[.pointer (some ⟨d, 0, none⟩), .int .i64 (A : Int), .int .i64 0, .bool false, .int .i64 0, .slice none 0 0, .slice none 0 0] 48)).heap.size = w.heap.size + 1 := by simp
    rw [hsz]
    rcases hx with (hx | rfl) | rfl
    · have := hS x hx; omega
    · omega
    · omega
theorem rjin_new1 {S : Nat → Prop} {d b : Nat} {g : Geo} {F : Fl} {w : World} (h : drive.RDriveAt S d b g F w) (hS : ∀ x, S x → x < w.heap.size) :
    RJIn (fun x => (S x ∨ x = d) ∨ x = w.heap.size) S (fun _ => False) w.heap.size d b g F ⟨1, Part.zero, false⟩ (.slice none 0 0) (.slice none 0 0) (w.alloc (.cells #[.pointer (some ⟨d, 0, none⟩), .int .i64 1, .int .i64 0, .bool false, .int .i64 0, .slice none 0 0, .slice none 0 0] 48)) := rjin_new h hS 1
set_option maxRecDepth 20000 in
theorem refNew_good {S : Nat → Prop} {d b : Nat} {g : Geo} {F G : Fl} {K : Jv} {w : World} (h : drive.RDriveAt S d b g F w) (hS : ∀ x, S x → x < w.heap.size) (fits : Fits F g) (hcnt : F.count < 1000000) (y : Option Addr) (m e : Nat) (V : List Nat)
    (hr2 : Reads .u32 w y m V) (hV : ∀ y ∈ V, y < 4294967296) (hsep : m = 0 ∨ ∃ z, y = some z ∧ ¬ S z.block) (hb : loadB V = true) (hnew : newV F g V = (0, G, some K)) :
    Calls Tryz.prog 33 #[.pointer (some ⟨d, 0, none⟩), .slice y m e] w fun o w' => ∃ j, o = .returned (.tuple #[.pointer (some ⟨j, 0, none⟩), .int .i64 0]) ∧ w.heap.size ≤ j ∧ RJTurn (fun x => S x ∨ x = d) (fun _ => True) j d b g G K w w' := by
  have c2 := fun w' => load_any y m e V w' hr2.1
  rw [hb] at c2
  have st := drive.clean_step fits.ok g 1
  have hbd := fits.bounds
  have cc : ∀ w1, Below w.heap.size w w1 → Calls Tryz.prog 59 #[.pointer (some ⟨d, 0, none⟩), .int .i64 1] w1 (RDid S b (drive.clean F g 1).2 (.int .i64 (drive.clean F g 1).1) w1) := fun w1 hb1 => drive.refClean_this (h.later hb1) fits.ok fits.ft (by omega) 1
  unfold newV at hnew
  rw [if_neg (by rw [hb]; decide)] at hnew
  have hz : (drive.clean F g 1).1 = 0 := Classical.byContradiction fun k => by rw [if_pos k] at hnew; simp at hnew
  rw [if_neg (fun k => k hz)] at hnew
  have f2 : Fits (drive.clean F g 1).2 g := ⟨st.ok, fits.ft.like st.like⟩
  have hc2 : (drive.clean F g 1).2.count < 1152921504606846976 := by have := st.c2; omega
  rw [hz] at cc
  generalize (drive.clean F g 1).2 = F2 at *
  have hz2 : (turnV F2 g ⟨1, Part.zero, false⟩ V).1 = 0 := Classical.byContradiction fun k => by rw [if_pos k] at hnew; simp at hnew
  rw [if_neg (fun k => k hz2)] at hnew
  simp only [Prod.mk.injEq, Option.some.injEq, true_and] at hnew
  have hso : (Jv.mk 1 Part.zero false).Sound g := ⟨Nat.le_refl _, .zero, by show ((0 : Nat) : Int) ≤ _; omega⟩
  have ct : ∀ (q : Nat) (w2 : World) (M S' : Nat → Prop), RJIn M S' (fun _ => False) q d b g F2 ⟨1, Part.zero, false⟩ (.slice none 0 0) (.slice none 0 0) w2 → Reads .u32 w2 y m V →
      Calls Tryz.prog 60 #[.pointer (some ⟨q, 0, none⟩), .slice y m e, .int .i64 1] w2 fun o w' => o = .returned (.int .i64 0) ∧ RJTurn M (fun x => S' x ∨ x = q) q d b g G K w2 w' := fun q w2 M S' hj hr => by
    have := refTurn_this hj f2 hc2 hso (by decide) y m e V hr hV hb
    rw [hz2, hnew.1, hnew.2] at this
    exact this
  have H := hid h
  have HS := hid hS
  have HR := hid hr2
  have HSEP := hid hsep
  have hb0 : ∀ m, Below w.heap.size w (w.drewN m) := fun m => below_drewN (Below.refl _ _) m
  clear h hS fits hcnt hr2 hV hb hnew hz hz2 st f2 hc2 hsep hso hbd
  go_enter Tryz.func33, Tryz.ntmps33
  go_wp2_with (first
    | (go_at_call 58; ((with_reducible refine (c2 _).mono ?_); rintro e w' ⟨rfl, m1, rfl⟩))
    | (go_at_call 59; ((with_reducible refine (cc _ (hb0 _)).mono ?_); rintro e w2 ⟨rfl, ht⟩; obtain ⟨S', h2, h3, h4⟩ := (H.out.later (hb0 m1)).turn ht; have hrd := reads_only (HR.out.below (hb0 m1)) h4 HSEP.out; have hj2 := rjin_new1 h2 (fun x hx => (h3 x hx).1); have hrd2 := hrd.below ((Below.refl _ _).alloc (Nat.le_refl _) (.cells #[.pointer (some ⟨d, 0, none⟩), .int .i64 1, .int .i64 0, .bool false, .int .i64 0, .slice none 0 0, .slice none 0 0] 48)); have H2 := hid hj2; have H3 := hid h3; have H4 := hid h4; have HRD := hid hrd2; clear hj2 h2 h3 h4 hrd hrd2))
    | (go_at_call 60; ((with_reducible refine (ct _ _ _ _ H2.out HRD.out).mono ?_); rintro e w3 ⟨rfl, ht3⟩)))
  go_ret2
  have hs2 := H4.out.size
  have hsw : w.heap.size ≤ w2.heap.size := hs2
  refine ⟨w2.heap.size, rfl, hsw, ?_⟩
  obtain ⟨M', k1, k2, k3⟩ := ht3
  have hO2 : Only S w w2 := (Only.of (hb0 m1)).next H4.out fun x hx _ => hx
  have hO3 := hO2.alloc (.cells #[.pointer (some ⟨d, 0, none⟩), .int .i64 1, .int .i64 0, .bool false, .int .i64 0, .slice none 0 0, .slice none 0 0] 48)
  refine ⟨M', k1, fun x hx => ⟨(k2 x hx).1, ?_⟩, (hO3.mono fun x hx _ => ⟨.inl hx, trivial⟩).next k3 fun x hx hlt => ⟨?_, trivial⟩⟩
  · rcases (k2 x hx).2 with (h | h) | h
    · rcases h with h | h
      · rcases (H3.out x h).2 with h | h
        · exact .inl (.inl h)
        · exact .inr h
      · exact .inl (.inr h)
    · right; omega
    · right; exact Nat.le_trans hO3.size h
  · rcases hx.1 with (h | h) | h
    · rcases (H3.out x h).2 with h | h
      · exact .inl h
      · have h5 : w.heap.size ≤ x := h
        omega
    · exact .inr h
    · omega
end Go.Proofs.YtphifanacehppaaGreat.journal
