/- Lemmas of the claim HJournalKeeps. Each says its own conditions. -/
import Derived.Test.YtphifanacehppaaGreatClHJournalKeepsR
import Derived.Test.YtphifanacehppaaGreatClHJournalKeepsT
import Derived.Test.YtphifanacehppaaGreatClHJournalKeepsS
/- A journal beside whatever is not its own; what the reference's journal leaves of what it said. No condition but flashes with few writes. -/
namespace Go.Proofs.YtphifanacehppaaGreat.journal
open Go Go.RowKit Go.Proofs.YtphifanacehppaaGreat.flash Go.Proofs.YtphifanacehppaaGreat.geom Go.Proofs.YtphifanacehppaaGreat.word
set_option linter.unusedVariables false

/-- the journal at j beside the blocks of R -/
def Solo (w0 : World) (R : Nat → Prop) (j d b : Nat) (g : Geo) (F : Fl) (J : Jv) (w : World) : Prop :=
  ∃ M, JAt M j d b g F J w ∧ (∀ x, M x → w0.heap.size ≤ x) ∧ (∀ x, R x → x < w.heap.size ∧ ¬ M x) ∧ Below w0.heap.size w0 w
section
variable {w0 w w' : World} {R Q M : Nat → Prop} {j d b r e c : Nat} {g : Geo} {F G H : Fl} {J K L : Jv}
theorem Solo.below (h : Solo w0 R j d b g F J w) : Below w0.heap.size w0 w := by obtain ⟨_, _, _, _, h⟩ := h; exact h
theorem Solo.later (h : Solo w0 R j d b g F J w) (k : Below w.heap.size w w') : Solo w0 R j d b g F J w' := by
  obtain ⟨M, h1, h2, h3, h4⟩ := h
  exact ⟨M, h1.later k, h2, fun x hx => ⟨Nat.lt_of_lt_of_le (h3 x hx).1 k.size, (h3 x hx).2⟩, h4.trans (k.mono h4.size)⟩
theorem solo_act (h1 : JAt M j d b g F J w) (h2 : ∀ x, M x → w0.heap.size ≤ x) (h3 : ∀ x, R x → x < w.heap.size ∧ ¬ M x) (h4 : Below w0.heap.size w0 w) (k : JTurn M j d b g H L w w') : Solo w0 R j d b g H L w' ∧ Stays R w w' := by
  obtain ⟨M', k1, k2, k3⟩ := k
  have hs := h4.size
  have hb : Below w0.heap.size w0 w' := h4.trans (k3.below hs fun x hx => h2 x hx)
  refine ⟨⟨M', k1, fun x hx => ?_, fun x hx => ⟨Nat.lt_of_lt_of_le (h3 x hx).1 k3.size, fun hm => ?_⟩, hb⟩, .only k3 fun x hx => (h3 x hx).2⟩
  · rcases (k2 x hx).2 with h | h
    · exact h2 x h
    · omega
  · rcases (k2 x hm).2 with h | h
    · exact (h3 x hx).2 h
    · have := (h3 x hx).1; omega
theorem solo_arm (h : Solo w0 R j d b g F J w) (ok : F.Ok) (n : Int) (hn : n ≤ 9223372036854775807) (x : Option Addr) (len cap : Nat) (T : List Nat) (hr : Reads .u32 w x len T) (hlc : len ≤ cap) (hlen : len ≤ 140737488355328) (hcap : cap ≤ maxLen) (hsep : len = 0 ∨ ∃ y, x = some y ∧ y.block < w0.heap.size) :
    Calls Tryz.prog 13 #[.pointer (some ⟨b, 0, none⟩), .int .i64 n, .slice x len cap] w fun o w' => o = .returned (.tuple #[]) ∧ Solo w0 R j d b g (F.arm n T) J w' ∧ Stays R w w' := by
  obtain ⟨M, h1, h2, h3, h4⟩ := h
  obtain ⟨S, X, wv, cv, hj⟩ := id h1
  have hsep2 : len = 0 ∨ ∃ y, x = some y ∧ ¬ S y.block := by
    rcases hsep with h0 | ⟨y, hy, hb⟩
    · exact .inl h0
    · exact .inr ⟨y, hy, fun hs => by have := h2 _ (hj.sub _ (.inl hs)); omega⟩
  refine (arm_did hj.dr.fl ok n hn x len cap T hr hlc hlen hcap hsep2).mono ?_
  rintro o w' ⟨ho, ht⟩
  exact ⟨ho, solo_act h1 h2 h3 h4 (hj.turned ht)⟩
theorem solo_power (h : Solo w0 R j d b g F J w) :
    Calls Tryz.prog 15 #[.pointer (some ⟨b, 0, none⟩)] w fun o w' => o = .returned (.tuple #[]) ∧ Solo w0 R j d b g F.power J w' ∧ Stays R w w' := by
  obtain ⟨M, h1, h2, h3, h4⟩ := h
  obtain ⟨S, X, wv, cv, hj⟩ := id h1
  refine (power_did hj.dr.fl).mono ?_
  rintro o w' ⟨ho, ht⟩
  exact ⟨ho, solo_act h1 h2 h3 h4 (hj.turned ht)⟩
theorem solo_do (h : Solo w0 R j d b g F J w) (fits : Fits F g) (hcnt : F.count < 1152921504606846976) (hso : J.Sound g) (hq0 : J.p.seq ≠ 0) (k a : Int) (x y : Option Addr) (n cx m cy : Nat) (L V : List Nat)
    (hr : Reads .u32 w x n L) (hL : ∀ y ∈ L, y < 4294967296) (hr2 : Reads .u32 w y m V) (hV : ∀ y ∈ V, y < 4294967296) (hn : n ≤ 4611686018427387904) (hm : m ≤ 4611686018427387904) :
    Calls Tryz.prog 14 #[.pointer (some ⟨j, 0, none⟩), .agg #[.int .i64 k, .int .i64 a, .slice x n cx, .slice y m cy]] w fun o w' => o = .returned (.int .i64 (actV F g J k L V).1) ∧ Solo w0 R j d b g (actV F g J k L V).2.1 (actV F g J k L V).2.2 w' ∧ Stays R w w' := by
  obtain ⟨M, h1, h2, h3, h4⟩ := h
  obtain ⟨S, X, wv, cv, hj⟩ := id h1
  refine (do_this hj fits hcnt hso hq0 k a x y n cx m cy L V hr hL hr2 hV hn hm).mono ?_
  rintro o w' ⟨ho, ht⟩
  exact ⟨ho, solo_act h1 h2 h3 h4 ht⟩
theorem solo_mend (h : Solo w0 R j d b g F J w) (fits : Fits F g) (hcnt : F.count < 1152921504606846976) (hso : J.Sound g) (y : Option Addr) (m cy : Nat) (V : List Nat) (hr2 : Reads .u32 w y m V) (hV : ∀ y ∈ V, y < 4294967296) (hm : m ≤ 4611686018427387904) :
    Calls Tryz.prog 22 #[.pointer (some ⟨j, 0, none⟩), .slice y m cy] w fun o w' => o = .returned (.int .i64 (mendV F g J V).1) ∧ Solo w0 R j d b g (mendV F g J V).2.1 (mendV F g J V).2.2 w' ∧ Stays R w w' := by
  obtain ⟨M, h1, h2, h3, h4⟩ := h
  obtain ⟨S, X, wv, cv, hj⟩ := id h1
  refine (mend_this hj fits hcnt hso y m cy V hr2 hV hm).mono ?_
  rintro o w' ⟨ho, ht⟩
  exact ⟨ho, solo_act h1 h2 h3 h4 ht⟩
theorem solo_open (h : Solo w0 R j d b g F J w) (fits : Fits F g) (hd : F.dark = false) {J2 : Jv} (hop : openV F g = some J2) :
    Calls Tryz.prog 16 #[.pointer (some ⟨d, 0, none⟩)] w fun o w' => ∃ j2, o = .returned (.tuple #[.pointer (some ⟨j2, 0, none⟩), .int .i64 0]) ∧ Solo w0 R j2 d b g F J2 w' ∧ Below w.heap.size w w' := by
  obtain ⟨M, h1, h2, h3, h4⟩ := h
  obtain ⟨S, X, wv, cv, hj⟩ := id h1
  have ho := open_this hj.dr (fun x hx => hj.lm x (hj.sub x (.inl hx))) fits hd
  rw [hop] at ho
  refine ho.mono ?_
  rintro o w' ⟨j2, X2, wv2, cv2, ho, hj2, hb, hX, hn⟩
  have hs := h4.size
  have sub : ∀ x, ((S x ∨ x = d) ∨ X2 x ∨ x = j2) → M x ∨ w.heap.size ≤ x := fun x hx => by
    rcases hx with (hx | hx) | hx | hx
    · exact .inl (hj.sub x (.inl hx))
    · exact .inl (hj.sub x (.inr (.inr (.inr hx))))
    · exact .inr (hX x hx).1
    · exact .inr (by omega)
  refine ⟨j2, ho, ⟨_, ⟨_, _, _, _, hn⟩, fun x hx => ?_, fun x hx => ⟨Nat.lt_of_lt_of_le (h3 x hx).1 hb.size, fun hm => ?_⟩, h4.trans (hb.mono hs)⟩, hb⟩
  · rcases sub x hx with h | h
    · exact h2 x h
    · omega
  · rcases sub x hm with h | h
    · exact (h3 x hx).2 h
    · have := (h3 x hx).1; omega
theorem solo_sees (h : Solo w0 R j d b g F J w) (fits : Fits F g) (hso : J.Sound g) : Sees j J w := by
  obtain ⟨M, ⟨S, X, wv, cv, hj⟩, _⟩ := h
  have hb := fits.bounds
  have hlen : J.p.changes.length ≤ 8192 := by have := hso.p.count; have := hso.tail; omega
  exact ⟨fun w' hb => seq_this (hj.later hb), fun w' hb => torn_this (hj.later hb), fun w' hb => (whole_this (hj.later hb) hso.p).mono fun e w2 ⟨x, k, h1, h2, _, h3⟩ => ⟨x, k, h1, h2, h3⟩, fun w' hb => (changes_this (hj.later hb) hso.p hlen).mono fun e w2 ⟨a, h1, h2, _, h3⟩ => ⟨a, h1, h2, h3⟩⟩
theorem solo_writes (h : Solo w0 R j d b g F J w) : Calls Tryz.prog 24 #[.pointer (some ⟨b, 0, none⟩)] w (Quiet (.int .i64 F.count) w) := by
  obtain ⟨M, ⟨S, X, wv, cv, hj⟩, _⟩ := h
  obtain ⟨ca, cb, cm, bw, cw, bv, cv, h⟩ := hj.dr.fl
  exact writes_any b _ w h.cell.2.2.2.2.2.2.1
/-- a journal that needs no mending is left alone -/
theorem solo_idle (h : Solo w0 R j d b g F J w) (fits : Fits F g) (hso : J.Sound g) (hi : J.torn = false ∨ g.life ≤ J.p.seq) (y : Option Addr) (m cy : Nat) (V : List Nat) (hr2 : Reads .u32 w y m V) (hb2 : loadB V = true) (hm : m ≤ 4611686018427387904) :
    Calls Tryz.prog 22 #[.pointer (some ⟨j, 0, none⟩), .slice y m cy] w fun o w' => o = .returned (.int .i64 0) ∧ Below w.heap.size w w' := by
  obtain ⟨M, ⟨S, X, wv, cv, h⟩, _⟩ := h
  have hlm : V.length = m := hr2.1
  have hb1 : Below w.heap.size w (w.alloc (.cells #[.slice y m cy] 24)) := (Below.refl _ _).alloc (Nat.le_refl _) _
  have cr := ready_this j w.heap.size 1 1 [m] _ (Lens.one w y m cy) rfl (by decide) (by intro z hz; simp at hz; subst hz; assumption)
  rw [show [m] = [V.length] by rw [hlm], allB_one] at cr
  have HS := h.seen
  have hlf := fits.bounds.2.2.2.2
  rw [hb2] at cr
  simp only [if_true] at cr
  by_cases htn : J.torn = false
  · rw [htn] at HS
    clear h fits hso hr2 hb2 hlm hi
    go_enter Tryz.func22, Tryz.ntmps22
    go_wp2_with (go_at_call 47; ((with_reducible refine cr.mono ?_); rintro e w' ⟨rfl, m1, rfl⟩; have hk1 := HS.out _ (below_drewN hb1 m1)))
    go_ret
    exact ⟨rfl, below_drewN hb1 m1⟩
  · have htn' : J.torn = true := by simpa using htn
    have hl : g.life ≤ J.p.seq := hi.resolve_left htn
    have cw : ∀ w1, Below w.heap.size w w1 → Calls Tryz.prog 48 #[.pointer (some ⟨j, 0, none⟩)] w1 fun e w' => e = .returned (.bool (decide (g.life ≤ J.p.seq))) ∧ Below w.heap.size w w' := fun w1 hb1 =>
      (worn_this (h.later hb1) hso.p.seq).mono fun o w' ⟨ho, k⟩ => ⟨ho, hb1.trans (k.mono hb1.size)⟩
    rw [htn'] at HS
    rw [decide_eq_true hl] at cw
    clear h fits hso hr2 hb2 hlm hi
    go_enter Tryz.func22, Tryz.ntmps22
    go_wp2_with (first
      | (go_at_call 47; ((with_reducible refine cr.mono ?_); rintro e w' ⟨rfl, m1, rfl⟩; have hk1 := HS.out _ (below_drewN hb1 m1)))
      | (go_at_call 48; ((with_reducible refine (cw _ (below_drewN hb1 _)).mono ?_); rintro e w2 ⟨rfl, hb2⟩)))
    go_ret
    exact ⟨rfl, hb2⟩
/-- the reference's loads, in R -/
def Rows (R : Nat → Prop) (w : World) (wv cv : Value) (K : Jv) : Prop := LoadAt R w wv K.p.whole ∧ LoadsAt R w cv K.p.changes
theorem Rows.stays {wv cv : Value} (h : Rows R w wv cv K) (s : Stays R w w') : Rows R w' wv cv K := ⟨h.1.stays s, h.2.stays s⟩
theorem Rows.reads {wv cv : Value} (h : Rows R w wv cv K) : ∃ wa wc ca cc, wv = .slice wa K.p.whole.length wc ∧ cv = .slice ca K.p.changes.length cc ∧ Reads .u32 w wa K.p.whole.length K.p.whole ∧ LoadsRead w ca K.p.changes := by
  obtain ⟨wa, wc, h1, _, _, h2, _⟩ := h.1.reads
  obtain ⟨ca, cc, h3, h4⟩ := h.2.short
  exact ⟨wa, wc, ca, cc, h1, h3, h2, h4⟩
/-- the two, and where the reference's loads lie -/
def DuoB (w0 : World) (Q : Nat → Prop) (j d b r e c : Nat) (g : Geo) (F : Fl) (J : Jv) (G : Fl) (K : Jv) (wv cv : Value) (w : World) : Prop :=
  ∃ M N S X, Both w0 M N j d b r e c g F J G K w ∧ RJIn N S X r e c g G K wv cv w ∧ ∀ x, Q x → x < w.heap.size ∧ ¬ M x ∧ ¬ N x
theorem duo2_b (h : Duo2 w0 Q j d b r e c g F J G K w) : ∃ wa wc ca cc, DuoB w0 Q j d b r e c g F J G K (.slice wa K.p.whole.length wc) (.slice ca K.p.changes.length cc) w := by
  obtain ⟨M, N, h, hq⟩ := h
  obtain ⟨S, X, wv, cv, hr⟩ := id h.rj
  obtain ⟨wa, wc, rfl, _⟩ := hr.wh.reads
  obtain ⟨ca, cc, rfl, _⟩ := hr.ch.short
  exact ⟨wa, wc, ca, cc, M, N, S, X, h, hr, hq⟩
theorem DuoB.below {wv cv : Value} (h : DuoB w0 Q j d b r e c g F J G K wv cv w) : Below w0.heap.size w0 w := by obtain ⟨_, _, _, _, h, _⟩ := h; exact h.bl
theorem DuoB.cells {wv cv : Value} (h : DuoB w0 Q j d b r e c g F J G K wv cv w) : Block w r 48 [.pointer (some ⟨e, 0, none⟩), .int .i64 (K.sector : Int), .int .i64 (K.p.tail : Int), .bool K.torn, .int .i64 (K.p.seq : Int), wv, cv] := by
  obtain ⟨_, _, _, _, _, h, _⟩ := h; exact h.blk
theorem DuoB.ne {x : Nat} {wv cv : Value} (h : DuoB w0 Q j d b r e c g F J G K wv cv w) (hx : Q x) : x ≠ r := by
  obtain ⟨M, N, S, X, h, hr, hq⟩ := h
  exact fun e => (hq x hx).2.2 (e ▸ hr.sub r (.inr (.inr (.inl rfl))))
theorem DuoB.more {Q' : Nat → Prop} {wv cv : Value} (h : DuoB w0 Q j d b r e c g F J G K wv cv w) (k : Below w.heap.size w w') (hQ : ∀ x, Q' x → Q x ∨ w.heap.size ≤ x ∧ x < w'.heap.size) : DuoB w0 Q' j d b r e c g F J G K wv cv w' := by
  obtain ⟨M, N, S, X, h, hr, hq⟩ := h
  refine ⟨M, N, S, X, h.later k, hr.later k, fun x hx => ?_⟩
  rcases hQ x hx with h1 | h1
  · exact ⟨Nat.lt_of_lt_of_le (hq x h1).1 k.size, (hq x h1).2⟩
  · exact ⟨h1.2, fun hm => by have := h.pj.lt x hm; omega, fun hn => by have := h.rj.lt x hn; omega⟩
theorem DuoB.set {wv cv : Value} (h : DuoB w0 Q j d b r e c g F J G K wv cv w) {T : Nat → Prop} (k : Only T w w') (hT : ∀ x, T x → Q x ∧ w0.heap.size ≤ x) : DuoB w0 Q j d b r e c g F J G K wv cv w' := by
  obtain ⟨M, N, S, X, h, hr, hq⟩ := h
  exact ⟨M, N, S, X, ⟨h.pj.only k fun x hm ht => (hq x (hT x ht).1).2.1 hm, h.rj.only k fun x hn ht => (hq x (hT x ht).1).2.2 hn, h.ms, h.ns, h.ap, h.bl.trans (k.below h.bl.size fun x hx => (hT x hx).2)⟩, hr.only k fun x hn ht => (hq x (hT x ht).1).2.2 hn, fun x hx => ⟨Nat.lt_of_lt_of_le (hq x hx).1 k.size, (hq x hx).2⟩⟩
/-- the reference's act: what it said stands, where it lay -/
theorem duo_told_b {wv cv : Value} (h : DuoB w0 Q j d b r e c g F J G K wv cv w) (fits : Fits G g) (hcnt : G.count < 1152921504606846976) (hso : K.Sound g) (hq0 : K.p.seq ≠ 0) (k a : Int) (x y : Option Addr) (n cx m cy : Nat) (L V : List Nat)
    (hrd : Reads .u32 w x n L) (hL : ∀ y ∈ L, y < 4294967296) (hr2 : Reads .u32 w y m V) (hV : ∀ y ∈ V, y < 4294967296) :
    Calls Tryz.prog 12 #[.pointer (some ⟨r, 0, none⟩), .agg #[.int .i64 k, .int .i64 a, .slice x n cx, .slice y m cy]] w fun o w' => (∃ z, o = .returned (.int .i64 z)) ∧ ∃ R wa wc ca cc, Solo w0 R j d b g F J w' ∧ (∀ x, Q x → R x) ∧ Stays Q w w' ∧ Rows R w' wv cv K ∧ R r ∧
      Block w' r 48 [.pointer (some ⟨e, 0, none⟩), .int .i64 ((actV G g K k L V).2.2.sector : Int), .int .i64 ((actV G g K k L V).2.2.p.tail : Int), .bool (actV G g K k L V).2.2.torn, .int .i64 ((actV G g K k L V).2.2.p.seq : Int), .slice wa (actV G g K k L V).2.2.p.whole.length wc, .slice ca (actV G g K k L V).2.2.p.changes.length cc] ∧ Rows R w' (.slice wa (actV G g K k L V).2.2.p.whole.length wc) (.slice ca (actV G g K k L V).2.2.p.changes.length cc) (actV G g K k L V).2.2 := by
  obtain ⟨M, N, S, X, hB, hr, hq⟩ := h
  refine (told_this hr fits hcnt hso hq0 k a x y n cx m cy L V hrd hL hr2 hV).mono ?_
  rintro o w' ⟨ho, N', k1, k2, k3⟩
  obtain ⟨S', X', wv', cv', hr'⟩ := id k1
  obtain ⟨wa, wc, rfl, _⟩ := hr'.wh.reads
  obtain ⟨ca, cc, rfl, _⟩ := hr'.ch.short
  have hs := hB.bl.size
  have hNM : ∀ x, N' x → ¬ M x := fun x hx hm => by
    rcases (k2 x hx).2 with h | h
    · exact hB.ap x hm h
    · have := hB.pj.lt x hm; omega
  have hX : ∀ x, X x → ¬ (N x ∧ (S x ∨ x = r)) := fun x hx h => h.2.elim (hr.sx x hx) fun e => hr.xj (e ▸ hx)
  have hrN : N' r := hr'.sub r (.inr (.inr (.inl rfl)))
  refine ⟨⟨_, ho⟩, fun x => x < w'.heap.size ∧ ¬ M x, wa, wc, ca, cc, ⟨M, hB.pj.only k3 fun x hx ht => hB.ap x hx ht.1, hB.ms, fun x hx => hx, hB.bl.trans (k3.below hs fun x hx => hB.ns x hx.1)⟩, fun x hx => ⟨Nat.lt_of_lt_of_le (hq x hx).1 k3.size, (hq x hx).2.1⟩, .only k3 fun x hx ht => (hq x hx).2.2 ht.1,
    ⟨(hr.wh.stays (.only k3 hX)).wide fun x hx hlt => ⟨hlt, fun hm => hB.ap x hm (hr.sub x (.inr (.inl hx)))⟩, (hr.ch.stays (.only k3 hX)).wide fun x hx hlt => ⟨hlt, fun hm => hB.ap x hm (hr.sub x (.inr (.inl hx)))⟩⟩, ⟨hr'.blk.lt, hNM r hrN⟩, hr'.blk,
    hr'.wh.wide fun x hx hlt => ⟨hlt, hNM x (hr'.sub x (.inr (.inl hx)))⟩, hr'.ch.wide fun x hx hlt => ⟨hlt, hNM x (hr'.sub x (.inr (.inl hx)))⟩⟩
end
end Go.Proofs.YtphifanacehppaaGreat.journal
/- What an act in which the power goes leaves of a journal: values. And the crash of layer 11's statements. No condition. -/
namespace Go.Proofs.YtphifanacehppaaGreat.journal
open Go Go.RowKit Go.Proofs.YtphifanacehppaaGreat.flash Go.Proofs.YtphifanacehppaaGreat.geom Go.Proofs.YtphifanacehppaaGreat.word
set_option linter.unusedVariables false

theorem add_seq (p : Part) (k s : Nat) (L : List Nat) : (p.add k s L).seq = s := by
  unfold Part.add
  split <;> rfl
theorem done_seq (g : Geo) (J : Jv) (k : Int) (load whole : List Nat) : (doneV g J k load whole).p = J.p ∨ (doneV g J k load whole).p.seq = J.p.seq + 1 := by
  have hp : ∀ (k : Nat) (load whole : List Nat), (donePut g J k load whole).p = J.p ∨ (donePut g J k load whole).p.seq = J.p.seq + 1 := fun k load whole => by
    unfold donePut doneAdd
    split
    · split
      · exact .inl rfl
      · split
        · exact .inr rfl
        · exact .inr (add_seq _ _ _ _)
    · exact .inl rfl
  unfold doneV
  split
  · exact hp _ _ _
  · split
    · exact hp _ _ _
    · split
      · unfold doneMend
        split
        · exact .inl rfl
        · split
          · exact .inl rfl
          · exact .inr rfl
      · exact .inl rfl
/-- what is found behind an act in which the power went, beside what the act would have made -/
theorem crash_vals {F : Fl} {g : Geo} {J : Jv} (h : Inv F g J) (hd : F.dark = false) (hf : F.fuse = none) (k : Int) {load whole masks : List Nat} {n : Int} (hn : n ≤ 9223372036854775807) (hm : masks.length ≤ 140737488355328) (hM : ∀ x ∈ masks, x < 4294967296) (hw : ∀ x ∈ load, x < 4294967296) (hw2 : ∀ x ∈ whole, x < 4294967296) :
    ∃ J2, Inv (actV (F.arm n masks) g J k load whole).2.1.power g J2 ∧ ((J2.p = J.p ∧ (actV F g J k load whole).2.2.p.seq ≠ J.p.seq ∧ (actV (F.arm n masks) g J k load whole).1 = 10) ∨ (J2.p = (actV F g J k load whole).2.2.p ∧ (J2.p = J.p ∨ J2.p.seq ≠ J.p.seq))) := by
  have l1 := act_leaves h hd k hw hw2
  have l2 := act_leaves (h.arm (n := n) hn hm hM) hd k hw hw2
  have hD : (actV F g J k load whole).2.2 = doneV g J k load whole := by
    rcases l1.1 with ⟨_, _, h3, _⟩ | ⟨h3, _⟩
    · exact h3
    · exact absurd h3 (l1.2 hf).1
  have hs := done_seq g J k load whole
  rw [hD]
  rcases l2.1 with ⟨h1, h2, h3, h4⟩ | ⟨h1, J2, h2, h3⟩
  · refine ⟨_, h4.power, .inr ⟨rfl, ?_⟩⟩
    rcases hs with hs | hs
    · exact .inl hs
    · exact .inr (by omega)
  · refine ⟨J2, h2.power, ?_⟩
    rcases hs with hs | hs
    · right
      rcases h3 with h3 | h3
      · exact ⟨h3.trans hs.symm, .inl h3⟩
      · exact ⟨h3, .inl (h3.trans hs)⟩
    · rcases h3 with h3 | h3
      · exact .inl ⟨h3, by omega, h1⟩
      · exact .inr ⟨h3, .inr (by rw [h3]; omega)⟩
theorem mend_vals {F : Fl} {g : Geo} {J : Jv} (h : Inv F g J) (hd : F.dark = false) (hf : F.fuse = none) : (mendV F g J J.p.whole).1 = 0 ∧ Inv (mendV F g J J.p.whole).2.1 g (mendV F g J J.p.whole).2.2 ∧ (mendV F g J J.p.whole).2.1.dark = false ∧ ((mendV F g J J.p.whole).2.2.torn = false ∨ g.life ≤ (mendV F g J J.p.whole).2.2.p.seq) := by
  obtain ⟨hb, hw, ht⟩ := mended h
  have l := mend_leaves h hd hw
  have h0 : (mendV F g J J.p.whole).1 = 0 := by
    unfold mendV
    rw [if_neg (by rw [hb]; decide)]
    split
    · rfl
    · rename_i hx
      exact ((turn_inv h hd (by omega) hb hw).2 hf).1
  rcases l.1 with ⟨_, h2, h3, h4⟩ | ⟨h3, _⟩
  · rw [h3]
    exact ⟨h0, h4, h2, ht⟩
  · exact absurd h3 (l.2 hf).1
structure Crash where
  (a : JAct) (N : Int) (m : Option Addr) (mLen mCap : Nat) (mW : List Nat)
def Crash.val (c : Crash) : Value := .agg #[.int .i64 c.a.k, .int .i64 c.a.n, .slice c.a.l c.a.lLen c.a.lCap, .slice c.a.v c.a.vLen c.a.vCap, .int .i64 c.N, .slice c.m c.mLen c.mCap]
structure Crash.Good (w : World) (c : Crash) : Prop where
  a : c.a.Good w
  bN : -9223372036854775808 ≤ c.N ∧ c.N ≤ 9223372036854775807
  rm : Reads .u32 w c.m c.mLen c.mW
  mm : ∀ y ∈ c.mW, y < 4294967296
  cm : c.mLen ≤ c.mCap
  dm : c.mCap ≤ maxLen
theorem Crash.Good.sepm {w : World} {c : Crash} (h : c.Good w) : c.mLen = 0 ∨ ∃ y, c.m = some y ∧ y.block < w.heap.size := by
  rcases h.rm.2 with h0 | ⟨b, off, ha, hlt, _⟩
  · exact .inl h0
  · exact .inr ⟨_, ha, hlt⟩
theorem Crash.Good.below {w w' : World} {c : Crash} (h : c.Good w) (hb : Below w.heap.size w w') : c.Good w' := ⟨h.a.below hb, h.bN, h.rm.below hb, h.mm, h.cm, h.dm⟩
end Go.Proofs.YtphifanacehppaaGreat.journal
/- JournalKeeps: if the power goes in a Change, a Put, or a Mend, a journal that is opened then says what it said ahead of it, or what it would say behind it; mended it is mended without a write. No condition. -/
namespace Go.Proofs.YtphifanacehppaaGreat.journalKeeps
open Go Go.RowKit Go.Proofs.YtphifanacehppaaGreat.journal Go.Proofs.YtphifanacehppaaGreat.geom Go.Proofs.YtphifanacehppaaGreat.flash Go.Proofs.YtphifanacehppaaGreat.word Go.Proofs.YtphifanacehppaaGreat.journalPlays
set_option linter.unusedVariables false

theorem boxes (g : Geo) (c : Crash) (w : World) : ∃ w0 w1, Hid ((w.alloc (.cells #[.int .i64 g.sector, .int .i64 g.slot, .int .i64 g.data, .int .i64 g.quota, .int .i64 g.tries, .int .i64 g.life] 23)) = w0) ∧ Hid (w0.alloc (.cells #[.int .i64 c.a.k, .int .i64 c.a.n, .slice c.a.l c.a.lLen c.a.lCap, .slice c.a.v c.a.vLen c.a.vCap, .int .i64 c.N, .slice c.m c.mLen c.mCap] 42) = w1) ∧ w0.heap.size = w.heap.size + 1 ∧ Below w.heap.size w w0 ∧ Hid (∀ w', Below w0.heap.size w0 w' → Below w.heap.size w w') ∧ Hid (∀ w', Below w0.heap.size w0 w' → (w'.cell? ⟨w.heap.size, 0, none⟩ = some (.int .i64 g.sector) ∧ w'.cell? ⟨w.heap.size, 1, none⟩ = some (.int .i64 g.slot) ∧ w'.cell? ⟨w.heap.size, 2, none⟩ = some (.int .i64 g.data) ∧ w'.cell? ⟨w.heap.size, 3, none⟩ = some (.int .i64 g.quota) ∧ w'.cell? ⟨w.heap.size, 4, none⟩ = some (.int .i64 g.tries) ∧ w'.cell? ⟨w.heap.size, 5, none⟩ = some (.int .i64 g.life))) ∧ Below w0.heap.size w0 w1 ∧ Block w1 (w.heap.size + 1) 42 [.int .i64 c.a.k, .int .i64 c.a.n, .slice c.a.l c.a.lLen c.a.lCap, .slice c.a.v c.a.vLen c.a.vCap, .int .i64 c.N, .slice c.m c.mLen c.mCap] := by
  have hb1 : Below w.heap.size w (w.alloc (.cells #[.int .i64 g.sector, .int .i64 g.slot, .int .i64 g.data, .int .i64 g.quota, .int .i64 g.tries, .int .i64 g.life] 23)) := (Below.refl _ _).alloc (Nat.le_refl _) _
  have hs : ((w.alloc (.cells #[.int .i64 g.sector, .int .i64 g.slot, .int .i64 g.data, .int .i64 g.quota, .int .i64 g.tries, .int .i64 g.life] 23))).heap.size = w.heap.size + 1 := by simp
  refine ⟨_, _, hid rfl, hid rfl, hs, hb1, hid fun w' hb => hb1.trans (hb.mono hb1.size), hid fun w' hb => six g w w' hb, (Below.refl _ _).alloc (Nat.le_refl _) _, ?_⟩
  have := Block.new (w.alloc (.cells #[.int .i64 g.sector, .int .i64 g.slot, .int .i64 g.data, .int .i64 g.quota, .int .i64 g.tries, .int .i64 g.life] 23)) 42 [.int .i64 c.a.k, .int .i64 c.a.n, .slice c.a.l c.a.lLen c.a.lCap, .slice c.a.v c.a.vLen c.a.vCap, .int .i64 c.N, .slice c.m c.mLen c.mCap]
  rwa [hs] at this
set_option maxHeartbeats 4000000 in
set_option maxRecDepth 20000 in
/-- where the awake function decides -/
theorem walk_awake (g : Geo) (a0 : Option Addr) (cap : Nat) (l : List JAct) (c : Crash) (w : World) (ac : JActs w a0 l) (hcap : l.length ≤ maxLen) (hm : c.mLen ≤ maxLen) (h : ¬ drive.Small g ∨ (drive.Small g ∧ bigL l = true) ∨ (drive.Small g ∧ bigL l = false ∧ bigA c.a = true) ∨ (drive.Small g ∧ bigL l = false ∧ bigA c.a = false ∧ 100 < c.mLen)) : Calls Tryz.prog 4 #[.agg #[.int .i64 g.sector, .int .i64 g.slot, .int .i64 g.data, .int .i64 g.quota, .int .i64 g.tries, .int .i64 g.life], .slice a0 l.length cap, c.val] w (Yes w) := by
  obtain ⟨w0, w1, hw0, hw1, hs0, hbw, HB, HS, hb1, hC⟩ := boxes g c w
  have ca := fun w' hb => awake_at w0 w' hb
  have hk0 := HS.out w1 hb1
  have HC := hid hC
  have HCC : Hid (∀ w', Below w1.heap.size w1 w' → w'.cell? ⟨w.heap.size + 1, 0, none⟩ = some (.int .i64 c.a.k) ∧ w'.cell? ⟨w.heap.size + 1, 1, none⟩ = some (.int .i64 c.a.n) ∧ w'.cell? ⟨w.heap.size + 1, 2, none⟩ = some (.slice c.a.l c.a.lLen c.a.lCap) ∧ w'.cell? ⟨w.heap.size + 1, 3, none⟩ = some (.slice c.a.v c.a.vLen c.a.vCap) ∧ w'.cell? ⟨w.heap.size + 1, 4, none⟩ = some (.int .i64 c.N) ∧ w'.cell? ⟨w.heap.size + 1, 5, none⟩ = some (.slice c.m c.mLen c.mCap)) := hid fun w' hb => by
    have hB := HC.out.later hb
    exact ⟨hB.cell 0, hB.cell 1, hB.cell 2, hB.cell 3, hB.cell 4, hB.cell 5⟩
  have hac := ac.below hbw
  have hml : (c.mLen : Int) ≤ 9223372036854775807 := by unfold maxLen at hm; omega
  have hgr := fun w' (hb : Below w0.heap.size w0 w') => great_any a0 cap l w' (hac.below hb) hcap
  have hgc : ∀ (q : Nat) (w1 : World), q = w1.heap.size → Calls Tryz.prog 7 #[.slice (some ⟨q, 0, none⟩) 1 1] (w1.alloc (.cells #[.int .i64 c.a.k, .int .i64 c.a.n, .slice c.a.l c.a.lLen c.a.lCap, .slice c.a.v c.a.vLen c.a.vCap] 40)) (Quiet (.bool (bigA c.a)) (w1.alloc (.cells #[.int .i64 c.a.k, .int .i64 c.a.n, .slice c.a.l c.a.lLen c.a.lCap, .slice c.a.v c.a.vLen c.a.vCap] 40))) := fun q w1 hq => by
    have := great_any (some ⟨w1.heap.size, 0, none⟩) 1 [c.a] _ (journalNone.acts_one c.a w1) (by unfold maxLen; simp)
    rw [hq]
    rwa [journalNone.big_one] at this
  unfold Crash.val
  clear ac hac hC hcap hbw hs0
  have HB1 := hid hb1
  have hbt : ∀ {x y : World}, Below w1.heap.size w1 x → Below x.heap.size x y → Below w1.heap.size w1 y := fun h k => h.trans (k.mono h.size)
  have hlow : ∀ {x : World}, Below w1.heap.size w1 x → Below w0.heap.size w0 x := fun h => hb1.trans (h.mono hb1.size)
  rcases h with h | ⟨h, h1⟩ | ⟨h, h1, h2⟩ | ⟨h, h1, h2, h3⟩
  · have cs := drive.small_this g false (hid ⟨fun k => (by cases k), fun k => absurd k h⟩) w1
    clear h hgr hgc
    go_enter Tryz.func4, Tryz.ntmps4
    go_wp2_with fail
    rw [hw0.out, hw1.out]
    go_wp2_with (first
      | (go_at_call 6; (with_reducible refine cs.mono ?_); rintro e w2 ⟨rfl, hb2⟩; obtain ⟨q0, q1, q2, q3, q4, q5⟩ := HCC.out w2 hb2)
      | (go_at_call 8; (with_reducible refine (ca _ (hlow hb2)).mono ?_); rintro e w3 ⟨rfl, hb3⟩))
    go_ret
    exact ⟨rfl, HB.out _ hb3⟩
  · have cs := drive.small_this g true (hid ⟨fun _ => h, fun _ => rfl⟩) w1
    rw [h1] at hgr
    clear h h1 hgc
    go_enter Tryz.func4, Tryz.ntmps4
    go_wp2_with fail
    rw [hw0.out, hw1.out]
    go_wp2_with (first
      | (go_at_call 6; (with_reducible refine cs.mono ?_); rintro e w2 ⟨rfl, hb2⟩; obtain ⟨q0, q1, q2, q3, q4, q5⟩ := HCC.out w2 hb2)
      | (go_at_call 7; (with_reducible refine (hgr _ (hlow hb2)).mono ?_); rintro e w3 ⟨rfl, m3, rfl⟩; have hb3 := below_drewN (hlow hb2) m3)
      | (go_at_call 8; (with_reducible refine (ca _ hb3).mono ?_); rintro e w4 ⟨rfl, hb4⟩))
    go_ret
    exact ⟨rfl, HB.out _ hb4⟩
  · have cs := drive.small_this g true (hid ⟨fun _ => h, fun _ => rfl⟩) w1
    rw [h1] at hgr
    rw [h2] at hgc
    clear h h1 h2
    go_enter Tryz.func4, Tryz.ntmps4
    go_wp2_with fail
    rw [hw0.out, hw1.out]
    go_wp2_with (first
      | (go_at_call 6; (with_reducible refine cs.mono ?_); rintro e w2 ⟨rfl, hb2⟩; obtain ⟨q0, q1, q2, q3, q4, q5⟩ := HCC.out w2 hb2)
      | (go_at_call 7; (first | ((with_reducible refine (hgr _ (hlow hb2)).mono ?_); clear hgr; rintro e w3 ⟨rfl, m3, rfl⟩; have hb3 := below_drewN (hlow hb2) m3) | ((with_reducible refine (hgc _ _ (by simp)).mono ?_); rintro e w4 ⟨rfl, m4, rfl⟩; have hb4 := below_drewN (hb3.alloc hb3.size (.cells #[.int .i64 c.a.k, .int .i64 c.a.n, .slice c.a.l c.a.lLen c.a.lCap, .slice c.a.v c.a.vLen c.a.vCap] 40)) m4)))
      | (go_at_call 8; (with_reducible refine (ca _ hb4).mono ?_); rintro e w5 ⟨rfl, hb5⟩))
    go_ret
    exact ⟨rfl, HB.out _ hb5⟩
  · have cs := drive.small_this g true (hid ⟨fun _ => h, fun _ => rfl⟩) w1
    rw [h1] at hgr
    rw [h2] at hgc
    have i3 : (100 : Int) < c.mLen := by omega
    clear h h1 h2
    go_enter Tryz.func4, Tryz.ntmps4
    go_wp2_with fail
    rw [hw0.out, hw1.out]
    go_wp2_with (first
      | (go_at_call 6; (with_reducible refine cs.mono ?_); rintro e w2 ⟨rfl, hb2⟩; obtain ⟨q0, q1, q2, q3, q4, q5⟩ := HCC.out w2 hb2; have hqs : w.heap.size + 1 < w2.heap.size := (by have := HC.out.lt; have := hb2.size; omega))
      | (go_at_call 7; (first | ((with_reducible refine (hgr _ (hlow hb2)).mono ?_); clear hgr; rintro e w3 ⟨rfl, m3, rfl⟩; have hb3 := below_drewN (hlow hb2) m3) | ((with_reducible refine (hgc _ _ (by simp)).mono ?_); clear hgc; rintro e w4 ⟨rfl, m4, rfl⟩; have hbq : Below w1.heap.size w1 ((w2.drewN m3).alloc (.cells #[.int .i64 c.a.k, .int .i64 c.a.n, .slice c.a.l c.a.lLen c.a.lCap, .slice c.a.v c.a.vLen c.a.vCap] 40)) := (below_drewN hb2 m3).alloc (below_drewN hb2 m3).size _; clear q0 q1 q2 q3 q4 q5 hb3; generalize (w2.drewN m3).alloc (.cells #[.int .i64 c.a.k, .int .i64 c.a.n, .slice c.a.l c.a.lLen c.a.lCap, .slice c.a.v c.a.vLen c.a.vCap] 40) = wq at *; obtain ⟨q0, q1, q2, q3, q4, q5⟩ := HCC.out wq hbq; have hb4 := below_drewN (hlow hbq) m4)))
      | (go_at_call 8; (with_reducible refine (ca _ hb4).mono ?_); rintro e w5 ⟨rfl, hb5⟩))
    go_ret
    exact ⟨rfl, HB.out _ hb5⟩
end Go.Proofs.YtphifanacehppaaGreat.journalKeeps
