/- Contracts and lemmas that the claims of this seat share: JournalSafe, JournalDuo, JournalOpened, JournalRefNew, DriveNew. Each says its own conditions. -/
import Derived.Test.YtphifanacehppaaGreatCmE
import Derived.Test.YtphifanacehppaaGreatCmN
import Derived.Test.YtphifanacehppaaGreatCmH
import Derived.Test.YtphifanacehppaaGreatCmK
import Derived.Test.YtphifanacehppaaGreatCmL
import Derived.Test.YtphifanacehppaaGreatCmG
import Derived.Test.YtphifanacehppaaGreatCmJ
import Derived.Test.YtphifanacehppaaGreatCmF
/- What a journal's calls leave of its sectors, with whatever fuse: a journal that is opened then says what was said before or what the whole call says. No condition. -/
namespace Go.Proofs.YtphifanacehppaaGreat.journal
open Go.Proofs.YtphifanacehppaaGreat.flash Go.Proofs.YtphifanacehppaaGreat.geom Go.Proofs.YtphifanacehppaaGreat.word
set_option linter.unusedVariables false

theorem torn_no {F : Fl} {g : Geo} (hs : 0 ≤ g.sector) {s a : Nat} (ha : a ≤ g.sector.toNat) (h : ∀ i, a ≤ i → i < g.sector.toNat → (sec F g s).getD i 0 = 4294967295) : tornV F g s a = false := by
  unfold tornV
  rw [drive.ones_yes (fun i hi => ?_)]
  · rfl
  · have := h (a + i) (by omega) (by omega)
    rwa [sec_getD hs (by omega), ← Nat.add_assoc, ← addr_nat g hs] at this
theorem torn_ones {F : Fl} {g : Geo} (hs : 0 ≤ g.sector) {s a : Nat} (h : tornV F g s a = false) {i : Nat} (hi : a ≤ i) (hl : i < g.sector.toNat) : (sec F g s).getD i 0 = 4294967295 := by
  unfold tornV at h
  have h1 : drive.ones F (drive.addr g s a) (g.sector - a).toNat = true := by simpa using h
  have := drive.ones_at h1 (i := i - a) (by omega)
  rw [addr_nat g hs, show s * g.sector.toNat + a + (i - a) = s * g.sector.toNat + i by omega] at this
  rw [sec_getD hs hl]
  exact this
/-- the sector s is the active one -/
def Wins (F : Fl) (g : Geo) (s : Nat) : Prop := (said F g s).seq ≠ 0 ∧ ((said F g (1 - s)).seq < (said F g s).seq ∨ (said F g (1 - s)).seq = (said F g s).seq ∧ s = 0)
theorem open_intro {F : Fl} {g : Geo} {s : Nat} (hs : s ≤ 1) (h : Wins F g s) : openV F g = some ⟨s, said F g s, tornV F g s (said F g s).tail⟩ := by
  obtain ⟨h1, h2⟩ := h
  have : s = 0 ∨ s = 1 := by omega
  rcases this with rfl | rfl
  · have hb : best F g = 0 := by unfold best; rw [if_neg (by simp only [Nat.sub_zero] at h2; omega)]
    unfold openV
    rw [if_neg (by omega), hb]
  · have hb : best F g = 1 := by unfold best; rw [if_pos (by simp only [Nat.sub_self] at h2; omega)]
    unfold openV
    rw [if_neg (by omega), hb]
theorem open_elim {F : Fl} {g : Geo} {J : Jv} (h : openV F g = some J) : J.sector ≤ 1 ∧ Wins F g J.sector ∧ J.p = said F g J.sector ∧ J.torn = tornV F g J.sector J.p.tail := by
  unfold openV at h
  split at h
  · cases h
  · rename_i hn
    cases h
    refine ⟨best_le F g, ?_, rfl, rfl⟩
    show Wins F g (best F g)
    by_cases hlt : (said F g 0).seq < (said F g 1).seq
    · have hb : best F g = 1 := by unfold best; rw [if_pos hlt]
      rw [hb]
      exact ⟨by omega, .inl hlt⟩
    · have hb : best F g = 0 := by unfold best; rw [if_neg hlt]
      rw [hb]
      exact ⟨by omega, by show (said F g 1).seq < _ ∨ (said F g 1).seq = _ ∧ _; omega⟩
structure Inv (F : Fl) (g : Geo) (J : Jv) : Prop where
  fits : Fits F g
  op : openV F g = some J
  good : ∀ s, s ≤ 1 → Good (sec F g s)
theorem Inv.power {F : Fl} {g : Geo} {J : Jv} (h : Inv F g J) : Inv F.power g J := ⟨⟨h.fits.ok.power, h.fits.ft.like ⟨rfl, rfl⟩⟩, h.op, h.good⟩
theorem Inv.arm {F : Fl} {g : Geo} {J : Jv} (h : Inv F g J) {n : Int} {M : List Nat} (hn : n ≤ 9223372036854775807) (hl : M.length ≤ 140737488355328) (hM : ∀ x ∈ M, x < 4294967296) : Inv (F.arm n M) g J :=
  ⟨⟨h.fits.ok.arm hn hl hM, h.fits.ft.like ⟨rfl, rfl⟩⟩, h.op, h.good⟩
theorem Inv.sound {F : Fl} {g : Geo} {J : Jv} (h : Inv F g J) : J.Sound g := openV_sound h.fits.ok (by have := h.fits.bounds; omega) h.op
theorem Inv.seq {F : Fl} {g : Geo} {J : Jv} (h : Inv F g J) : J.p.seq ≠ 0 := by
  obtain ⟨h1, h2, h3, h4⟩ := open_elim h.op
  rw [h3]; exact h2.1
theorem fresh_eq {F : Fl} {g : Geo} (h : Fits F g) (hd : F.dark = false) {s : Nat} {W : List Nat} (hs : s ≤ 1) (hl : W.length ≤ g.sector.toNat) :
    drive.fresh F g s W = if (drive.clean F g s).1 ≠ 0 then drive.clean F g s else drive.write (drive.clean F g s).2 g s 0 W := by
  have hb := bad_in h hd hs (a := 0) (n := W.length) (by omega)
  rw [drive.fresh, if_neg (fun k => k hb)]
theorem getD_ones {n i : Nat} (h : i < n) : (List.replicate n 4294967295).getD i 0 = 4294967295 := by
  rw [List.getD_eq_getElem?_getD, List.getElem?_replicate, if_pos h]; rfl
theorem mem_ones {ws : List Nat} {a : Nat} (h : ∀ i, a ≤ i → i < ws.length → ws.getD i 0 = 4294967295) : ∀ x ∈ ws.drop a, x = 4294967295 := by
  refine mem_of_getD fun j hj => ?_
  rw [List.length_drop] at hj
  rw [getD_drop]
  exact h _ (by omega) (by omega)
theorem zero_add_whole (s : Nat) (L : List Nat) : Part.zero.add 1 s L = ⟨s, L, [], L.length + 3⟩ := by
  unfold Part.add
  rw [if_pos rfl]
  show Part.mk s L [] (0 + (L.length + 3)) = _
  rw [Nat.zero_add]
/-- the words of sector o are those of a first frame, maybe torn; sector s is as it was -/
theorem first_frame {F : Fl} {g : Geo} (h : Fits F g) {o q : Nat} (ho : o ≤ 1) {whole V : List Nat} (hb : loadB whole = true) (hw : ∀ x ∈ whole, x < 4294967296) (h1 : 1 ≤ q) (hq : q ≤ 1073741823)
    (hV : V.length = whole.length + 3) (hVx : ∀ x ∈ V, x < 4294967296) (hsec : sec F g o = patch (List.replicate g.sector.toNat 4294967295) 0 V)
    (hup : ∀ i, i < V.length → le ((frame.words 1 q whole).getD i 0) (V.getD i 0)) :
    Good (sec F g o) ∧ (said F g o = Part.zero ∧ V ≠ frame.words 1 q whole ∨ said F g o = ⟨q, whole, [], whole.length + 3⟩ ∧ V = frame.words 1 q whole ∧ tornV F g o (whole.length + 3) = false) := by
  obtain ⟨b1, b2, b3, b4, b5⟩ := h.bounds
  have hb' := of_decide_eq_true hb
  have hok : frame.okB (((1 : Nat) : Int)) (q : Int) whole.length = true := frame.okB_true.2 ⟨.inl rfl, by omega, by omega, hb'.1, hb'.2⟩
  have hsc : scan g.sector.toNat Part.zero (List.replicate g.sector.toNat 4294967295) = Part.zero := scan_none (readN_ones (.inr (getD_ones (by omega))))
  have L := laid (n := g.sector.toNat) (ws := List.replicate g.sector.toNat 4294967295) (V := V) (T := (List.replicate g.sector.toNat 4294967295).drop V.length) (f := (1, q, whole)) (List.length_replicate ..)
    (fun x hx => by rw [(List.mem_replicate.1 hx).2]; decide) hok hw (by rw [hsc]; rfl) hV hVx hup (by rw [hsc, List.length_drop, List.length_replicate]; show 0 + _ + _ = _; omega)
    (fun x hx => (List.mem_replicate.1 (List.mem_of_mem_drop hx)).2)
  rw [hsc] at L
  have ep : (List.replicate g.sector.toNat 4294967295).take Part.zero.tail ++ V ++ (List.replicate g.sector.toNat 4294967295).drop V.length = patch (List.replicate g.sector.toNat 4294967295) 0 V := by
    unfold patch; rw [Nat.zero_add]; rfl
  rw [ep, ← hsec] at L
  refine ⟨L.1, ?_⟩
  rcases L.2 with ⟨l1, l2⟩ | ⟨l1, l2⟩
  · exact .inl ⟨l1, l2⟩
  · right
    refine ⟨l1.trans (zero_add_whole q whole), l2, torn_no (by omega) (by omega) fun i hi hl => ?_⟩
    rw [hsec, patch_getD (by rw [List.length_replicate]; omega), if_neg (by omega), getD_ones hl]
/-- the journal is turned over -/
theorem turn_inv {F : Fl} {g : Geo} {J : Jv} (h : Inv F g J) (hd : F.dark = false) (hl : J.p.seq < g.life) {whole : List Nat} (hb : loadB whole = true) (hw : ∀ x ∈ whole, x < 4294967296) :
    ((turnV F g J whole).1 = 0 ∧ (turnV F g J whole).2.1.dark = false ∧ (turnV F g J whole).2.2 = turned J whole ∧ Inv (turnV F g J whole).2.1 g (turned J whole) ∨
     (turnV F g J whole).1 = 10 ∧ ∃ J2, Inv (turnV F g J whole).2.1 g J2 ∧ (J2.p = J.p ∨ J2.p = (turned J whole).p)) ∧
    (F.fuse = none → (turnV F g J whole).1 = 0 ∧ (turnV F g J whole).2.1.fuse = none) := by
  obtain ⟨b1, b2, b3, b4, b5⟩ := h.fits.bounds
  obtain ⟨o1, ⟨o2, o3⟩, o4, o5⟩ := open_elim h.op
  have hb' := of_decide_eq_true hb
  obtain ⟨s, p, tn⟩ := J
  simp only at o1 o2 o3 o4 o5 hl
  have hso : 1 - (1 - s) = s := by omega
  have hwl : (frame.words 1 (p.seq + 1) whole).length = whole.length + 3 := frame.words_length _ _ _
  have hWx := frame.words_lt 1 (p.seq + 1) whole (by decide) (by omega) hb'.2 hw
  have fe := fresh_eq (W := frame.words 1 (p.seq + 1) whole) h.fits hd (show 1 - s ≤ 1 by omega) (by omega)
  obtain ⟨c1, c2, c3, c4⟩ := clean_fuse h.fits hd (show 1 - s ≤ 1 by omega)
  rw [hso] at c2
  -- a journal over a flash whose sector s is as it was
  have keep : ∀ G : Fl, Fits G g → sec G g s = sec F g s → Good (sec G g (1 - s)) → (said G g (1 - s)).seq ≤ (said F g (1 - s)).seq → ∃ J2, Inv G g J2 ∧ J2.p = p := fun G k1 k2 k3 k4 => by
    have e : said G g s = said F g s := by unfold said; rw [k2]
    refine ⟨⟨s, said G g s, tornV G g s (said G g s).tail⟩, ⟨k1, open_intro o1 ⟨by rw [e]; exact o2, by rw [e]; omega⟩, fun t ht => ?_⟩, by rw [e]; exact o4.symm⟩
    have : t = s ∨ t = 1 - s := by omega
    rcases this with rfl | rfl
    · rw [k2]; exact h.good _ o1
    · exact k3
  unfold turnV turned
  simp only
  rcases c4 with ⟨z, d, hs1⟩ | ⟨z, hr⟩
  · have fe2 : drive.fresh F g ((1 - s : Nat) : Int) (frame.words 1 (p.seq + 1) whole) = drive.write (drive.clean F g ((1 - s : Nat) : Int)).2 g ((1 - s : Nat) : Int) ((0 : Nat) : Int) (frame.words 1 (p.seq + 1) whole) := by
      rw [fe, if_neg (fun k => k z)]; rfl
    obtain ⟨w1, w2, w3, V, v1, v2, v3, v4⟩ := write_fuse c1 d (show 1 - s ≤ 1 by omega) (a := 0) (W := frame.words 1 (p.seq + 1) whole) (by omega) hWx (fun i hi => by rw [hs1, Nat.zero_add]; exact getD_ones (by omega))
    rw [fe2]
    rw [hso] at w2
    rw [hs1] at v3
    rw [hwl] at v1
    generalize drive.write (drive.clean F g ((1 - s : Nat) : Int)).2 g ((1 - s : Nat) : Int) ((0 : Nat) : Int) (frame.words 1 (p.seq + 1) whole) = R at *
    obtain ⟨e, G⟩ := R
    simp only at w1 w2 w3 v3 v4 ⊢
    have hup : ∀ i, i < V.length → le ((frame.words 1 (p.seq + 1) whole).getD i 0) (V.getD i 0) := fun i hi => by
      rcases v4 with ⟨_, _, v5⟩ | ⟨_, v5⟩
      · rw [v5]; exact le.refl _
      · exact v5 i (by omega)
    obtain ⟨f1, f2⟩ := first_frame w1 (show 1 - s ≤ 1 by omega) hb hw (show 1 ≤ p.seq + 1 by omega) (by omega) v1 v2 v3 hup
    have whole2 : said G g (1 - s) = ⟨p.seq + 1, whole, [], whole.length + 3⟩ → tornV G g (1 - s) (whole.length + 3) = false → Inv G g ⟨1 - s, ⟨p.seq + 1, whole, [], whole.length + 3⟩, false⟩ := fun k1 k2 => by
      have e : said G g s = said F g s := by unfold said; rw [w2, c2]
      have hW : Wins G g (1 - s) := ⟨by rw [k1]; show p.seq + 1 ≠ 0; omega, .inl (by rw [hso, e, k1, ← o4]; show p.seq < p.seq + 1; omega)⟩
      have ho := open_intro (show 1 - s ≤ 1 by omega) hW
      rw [k1] at ho
      simp only at ho
      rw [k2] at ho
      refine ⟨w1, ho, fun t ht => ?_⟩
      have : t = s ∨ t = 1 - s := by omega
      rcases this with rfl | rfl
      · rw [w2, c2]; exact h.good _ o1
      · exact f1
    refine ⟨?_, fun k => ?_⟩
    · rcases v4 with ⟨z2, d2, v5⟩ | ⟨z2, v5⟩
      · left
        subst z2
        simp only [ne_eq, not_true_eq_false, if_false]
        refine ⟨trivial, d2, trivial, ?_⟩
        rcases f2 with ⟨_, k⟩ | ⟨k1, _, k2⟩
        · exact absurd v5 k
        · exact whole2 k1 k2
      · right
        subst z2
        rw [if_pos (by decide)]
        refine ⟨rfl, ?_⟩
        rcases f2 with ⟨k1, _⟩ | ⟨k1, _, k2⟩
        · obtain ⟨J2, i1, i2⟩ := keep G w1 (w2.trans c2) f1 (by rw [k1]; exact Nat.zero_le _)
          exact ⟨J2, i1, .inl i2⟩
        · exact ⟨_, whole2 k1 k2, .inr rfl⟩
    · obtain ⟨k1, k2⟩ := c3 k
      obtain ⟨k3, k4⟩ := w3 k1
      subst k4
      simp only [ne_eq, not_true_eq_false, if_false]
      exact ⟨trivial, k3⟩
  · have fe2 : drive.fresh F g ((1 - s : Nat) : Int) (frame.words 1 (p.seq + 1) whole) = drive.clean F g ((1 - s : Nat) : Int) := by rw [fe, if_pos (by rw [z]; decide)]
    rw [fe2, z, if_pos (by decide)]
    refine ⟨.inr ⟨rfl, ?_⟩, fun k => ?_⟩
    · have hg := h.good (1 - s) (by omega)
      obtain ⟨J2, i1, i2⟩ := keep _ c1 c2 (hg.raised hr) (hg.mono hr (sec_lt h.fits.ok g _) (sec_lt c1.ok g _) _)
      exact ⟨J2, i1, .inl i2⟩
    · have := (c3 k).2
      rw [z] at this
      cases this
/-- a frame is laid at the tail -/
theorem lay_inv {F : Fl} {g : Geo} {J : Jv} (h : Inv F g J) (hd : F.dark = false) (hl : J.p.seq < g.life) {k : Nat} {load : List Nat} (hk : k = 1 ∨ k = 2) (hb : loadB load = true) (hw : ∀ x ∈ load, x < 4294967296) (hf : ¬ full g J load) :
    ((layV F g J k load).1 = 0 ∧ (layV F g J k load).2.1.dark = false ∧ (layV F g J k load).2.2 = ⟨J.sector, J.p.add k (J.p.seq + 1) load, J.torn⟩ ∧ Inv (layV F g J k load).2.1 g ⟨J.sector, J.p.add k (J.p.seq + 1) load, J.torn⟩ ∨
     (layV F g J k load).1 = 10 ∧ ∃ J2, Inv (layV F g J k load).2.1 g J2 ∧ (J2.p = J.p ∨ J2.p = J.p.add k (J.p.seq + 1) load)) ∧
    (F.fuse = none → (layV F g J k load).1 = 0 ∧ (layV F g J k load).2.1.fuse = none) := by
  obtain ⟨b1, b2, b3, b4, b5⟩ := h.fits.bounds
  obtain ⟨o1, ⟨o2, o3⟩, o4, o5⟩ := open_elim h.op
  have hb' := of_decide_eq_true hb
  obtain ⟨s, p, tn⟩ := J
  simp only at o1 o2 o3 o4 o5 hl
  unfold full at hf
  simp only at hf
  have htn : tn = false := by cases tn with
    | true => exact absurd (.inl rfl) hf
    | false => rfl
  subst htn
  have hfit : p.tail + (load.length + 3) ≤ g.sector.toNat := by
    have : ¬ g.sector - p.tail < ((load.length + 3 : Nat) : Int) := fun k => hf (.inr k)
    omega
  have hwl : (frame.words k (p.seq + 1) load).length = load.length + 3 := frame.words_length _ _ _
  have hWx := frame.words_lt k (p.seq + 1) load (by omega) (by omega) hb'.2 hw
  have hones : ∀ i, p.tail ≤ i → i < g.sector.toNat → (sec F g s).getD i 0 = 4294967295 := fun i hi hl => torn_ones (by omega) o5.symm hi hl
  obtain ⟨w1, w2, w3, V, v1, v2, v3, v4⟩ := write_fuse h.fits hd o1 (a := p.tail) (W := frame.words k (p.seq + 1) load) (by omega) hWx (fun i hi => hones _ (by omega) (by omega))
  have hok : frame.okB ((k : Nat) : Int) ((p.seq + 1 : Nat) : Int) load.length = true := frame.okB_true.2 ⟨by omega, by omega, by omega, hb'.1, hb'.2⟩
  have hseq : p.seq ≠ 0 := by rw [o4]; exact o2
  have htk : p.takes k (p.seq + 1) = true := by unfold Part.takes; rw [if_neg hseq]; simp
  unfold layV
  simp only
  generalize drive.write F g s p.tail (frame.words k (p.seq + 1) load) = R at *
  obtain ⟨e, G⟩ := R
  simp only at w1 w2 w3 v3 v4 ⊢
  rw [hwl] at v1
  have hsc : scan g.sector.toNat Part.zero (sec F g s) = p := o4.symm
  have hup : ∀ i, i < V.length → le ((frame.words k (p.seq + 1) load).getD i 0) (V.getD i 0) := fun i hi => by
    rcases v4 with ⟨_, _, v5⟩ | ⟨_, v5⟩
    · rw [v5]; exact le.refl _
    · exact v5 i (by omega)
  have L := laid (n := g.sector.toNat) (ws := sec F g s) (V := V) (T := (sec F g s).drop (p.tail + V.length)) (f := (k, p.seq + 1, load)) (sec_length F g s) (sec_lt h.fits.ok g s) hok hw (by rw [hsc]; exact htk) v1 v2 hup
    (by rw [hsc, List.length_drop, sec_length]; omega) (mem_ones fun i hi hl => hones i (by omega) (by rwa [sec_length] at hl))
  rw [hsc] at L
  have ep : (sec F g s).take p.tail ++ V ++ (sec F g s).drop (p.tail + V.length) = sec G g s := v3.symm
  rw [ep] at L
  have eo : said G g (1 - s) = said F g (1 - s) := by unfold said; rw [w2]
  have hgood : ∀ t, t ≤ 1 → Good (sec G g t) := fun t ht => by
    have : t = s ∨ t = 1 - s := by omega
    rcases this with rfl | rfl
    · exact L.1
    · rw [w2]; exact h.good _ ht
  have whole2 : said G g s = p.add k (p.seq + 1) load → Inv G g ⟨s, p.add k (p.seq + 1) load, false⟩ := fun k1 => by
    have hW : Wins G g s := ⟨by rw [k1, Part.add_seq]; omega, .inl (by rw [eo, k1, Part.add_seq]; rw [← o4] at o3; omega)⟩
    have ho := open_intro o1 hW
    rw [k1] at ho
    have ht : tornV G g s (p.add k (p.seq + 1) load).tail = false := torn_no (by omega) (by rw [Part.add_tail]; omega) fun i hi hl => by
      rw [Part.add_tail] at hi
      rw [v3, patch_getD (by rw [sec_length]; omega), if_neg (by omega)]
      exact hones i (by omega) hl
    rw [ht] at ho
    exact ⟨w1, ho, hgood⟩
  have part2 : said G g s = p → ∃ J2, Inv G g J2 ∧ J2.p = p := fun k1 => by
    have hW : Wins G g s := ⟨by rw [k1]; exact hseq, by rw [eo, k1, o4]; exact o3⟩
    exact ⟨_, ⟨w1, open_intro o1 hW, hgood⟩, k1⟩
  refine ⟨?_, fun k => ?_⟩
  · rcases v4 with ⟨z2, d2, v5⟩ | ⟨z2, v5⟩
    · left
      subst z2
      simp only [ne_eq, not_true_eq_false, if_false]
      refine ⟨trivial, d2, trivial, ?_⟩
      rcases L.2 with ⟨_, k⟩ | ⟨k1, _⟩
      · exact absurd v5 k
      · exact whole2 k1
    · right
      subst z2
      rw [if_pos (by decide)]
      refine ⟨rfl, ?_⟩
      rcases L.2 with ⟨k1, _⟩ | ⟨k1, _⟩
      · obtain ⟨J2, i1, i2⟩ := part2 k1
        exact ⟨J2, i1, .inl i2⟩
      · exact ⟨_, whole2 k1, .inr rfl⟩
  · obtain ⟨k3, k4⟩ := w3 k
    subst k4
    simp only [ne_eq, not_true_eq_false, if_false]
    exact ⟨trivial, k3⟩
/-- what the whole call makes of a journal -/
def doneAdd (g : Geo) (J : Jv) (k : Nat) (load whole : List Nat) : Jv := if g.life ≤ J.p.seq then J else if full g J load then turned J whole else ⟨J.sector, J.p.add k (J.p.seq + 1) load, J.torn⟩
def donePut (g : Geo) (J : Jv) (k : Nat) (load whole : List Nat) : Jv := if loadB load = true ∧ loadB whole = true then doneAdd g J k load whole else J
def doneMend (g : Geo) (J : Jv) (whole : List Nat) : Jv := if loadB whole = false then J else if J.torn = false ∨ g.life ≤ J.p.seq then J else turned J whole
def doneV (g : Geo) (J : Jv) (k : Int) (load whole : List Nat) : Jv :=
  if k = 0 ∨ k = 1 then donePut g J 2 load whole else if k = 2 then donePut g J 1 whole whole else if k = 3 then doneMend g J whole else J
/-- what a call leaves -/
def Leaves (F : Fl) (g : Geo) (J D : Jv) (R : Int × Fl × Jv) : Prop :=
  (R.1 ≠ 10 ∧ R.2.1.dark = false ∧ R.2.2 = D ∧ Inv R.2.1 g D ∨ R.1 = 10 ∧ ∃ J2, Inv R.2.1 g J2 ∧ (J2.p = J.p ∨ J2.p = D.p)) ∧ (F.fuse = none → R.1 ≠ 10 ∧ R.2.1.fuse = none)
theorem leaves_same {F : Fl} {g : Geo} {J : Jv} (h : Inv F g J) (hd : F.dark = false) {z : Int} (hz : z ≠ 10) : Leaves F g J J (z, F, J) := ⟨.inl ⟨hz, hd, rfl, h⟩, fun k => ⟨hz, k⟩⟩
theorem leaves_turn {F : Fl} {g : Geo} {J : Jv} (h : Inv F g J) (hd : F.dark = false) (hl : J.p.seq < g.life) {whole : List Nat} (hb : loadB whole = true) (hw : ∀ x ∈ whole, x < 4294967296) : Leaves F g J (turned J whole) (turnV F g J whole) := by
  obtain ⟨h1, h2⟩ := turn_inv h hd hl hb hw
  refine ⟨?_, fun k => ⟨by rw [(h2 k).1]; decide, (h2 k).2⟩⟩
  rcases h1 with ⟨z, h3⟩ | h3
  · exact .inl ⟨by rw [z]; decide, h3⟩
  · exact .inr h3
theorem leaves_lay {F : Fl} {g : Geo} {J : Jv} (h : Inv F g J) (hd : F.dark = false) (hl : J.p.seq < g.life) {k : Nat} {load : List Nat} (hk : k = 1 ∨ k = 2) (hb : loadB load = true) (hw : ∀ x ∈ load, x < 4294967296) (hf : ¬ full g J load) :
    Leaves F g J ⟨J.sector, J.p.add k (J.p.seq + 1) load, J.torn⟩ (layV F g J k load) := by
  obtain ⟨h1, h2⟩ := lay_inv h hd hl hk hb hw hf
  refine ⟨?_, fun k => ⟨by rw [(h2 k).1]; decide, (h2 k).2⟩⟩
  rcases h1 with ⟨z, h3⟩ | h3
  · exact .inl ⟨by rw [z]; decide, h3⟩
  · exact .inr h3
theorem put_leaves {F : Fl} {g : Geo} {J : Jv} (h : Inv F g J) (hd : F.dark = false) {k : Nat} {load whole : List Nat} (hk : k = 1 ∨ k = 2) (hw : ∀ x ∈ load, x < 4294967296) (hw2 : ∀ x ∈ whole, x < 4294967296) : Leaves F g J (donePut g J k load whole) (putV F g J k load whole) := by
  unfold putV donePut
  split
  · rename_i hb
    unfold addV doneAdd
    split
    · exact leaves_same h hd (by decide)
    · split
      · exact leaves_turn h hd (by omega) hb.2 hw2
      · rename_i hf
        exact leaves_lay h hd (by omega) hk hb.1 hw hf
  · exact leaves_same h hd (by decide)
theorem mend_leaves {F : Fl} {g : Geo} {J : Jv} (h : Inv F g J) (hd : F.dark = false) {whole : List Nat} (hw2 : ∀ x ∈ whole, x < 4294967296) : Leaves F g J (doneMend g J whole) (mendV F g J whole) := by
  unfold mendV doneMend
  split
  · exact leaves_same h hd (by decide)
  · split
    · exact leaves_same h hd (by decide)
    · rename_i hb hf
      exact leaves_turn h hd (by omega) (by simpa using hb) hw2
theorem act_leaves {F : Fl} {g : Geo} {J : Jv} (h : Inv F g J) (hd : F.dark = false) (k : Int) {load whole : List Nat} (hw : ∀ x ∈ load, x < 4294967296) (hw2 : ∀ x ∈ whole, x < 4294967296) : Leaves F g J (doneV g J k load whole) (actV F g J k load whole) := by
  unfold actV doneV
  split
  · exact put_leaves h hd (.inr rfl) hw hw2
  · split
    · exact put_leaves h hd (.inl rfl) hw2 hw2
    · split
      · exact mend_leaves h hd hw2
      · exact leaves_same h hd (by decide)
/-- a new journal -/
theorem new_inv {g : Geo} (hr : g.Right) {whole : List Nat} (hb : loadB whole = true) (hw : ∀ x ∈ whole, x < 4294967296) :
    ∃ F, newV (drive.first g) g whole = (0, F, some ⟨0, ⟨1, whole, [], whole.length + 3⟩, false⟩) ∧ F.dark = false ∧ F.fuse = none ∧ Inv F g ⟨0, ⟨1, whole, [], whole.length + 3⟩, false⟩ := by
  have h0 : Fits (drive.first g) g := ⟨drive.first_ok hr, drive.first_fit hr⟩
  obtain ⟨b1, b2, b3, b4, b5⟩ := h0.bounds
  have hb' := of_decide_eq_true hb
  obtain ⟨c1, c2, c3, c4⟩ := clean_fuse h0 rfl (s := 1) (by decide)
  obtain ⟨c5, c6⟩ := c3 rfl
  have c7 : (drive.clean (drive.first g) g ((1 : Nat) : Int)).2.dark = false ∧ sec (drive.clean (drive.first g) g ((1 : Nat) : Int)).2 g 1 = List.replicate g.sector.toNat 4294967295 := by
    rcases c4 with ⟨_, d, k⟩ | ⟨z, _⟩
    · exact ⟨d, k⟩
    · rw [c6] at z; cases z
  rw [show ((1 : Nat) : Int) = 1 from rfl] at c1 c2 c5 c6 c7
  unfold newV
  rw [if_neg (by rw [hb]; decide), if_neg (fun k => k c6)]
  generalize (drive.clean (drive.first g) g 1).2 = G at *
  obtain ⟨d1, d2, d3, d4⟩ := clean_fuse c1 c7.1 (s := 0) (by decide)
  obtain ⟨d5, d6⟩ := d3 c5
  have d7 : (drive.clean G g ((0 : Nat) : Int)).2.dark = false ∧ sec (drive.clean G g ((0 : Nat) : Int)).2 g 0 = List.replicate g.sector.toNat 4294967295 := by
    rcases d4 with ⟨_, d, k⟩ | ⟨z, _⟩
    · exact ⟨d, k⟩
    · rw [d6] at z; cases z
  have hwl : (frame.words 1 1 whole).length = whole.length + 3 := frame.words_length _ _ _
  have hWx := frame.words_lt 1 1 whole (by decide) (by decide) hb'.2 hw
  have fe := fresh_eq (W := frame.words 1 1 whole) c1 c7.1 (show 0 ≤ 1 by decide) (by omega)
  rw [if_neg (fun k => k d6)] at fe
  obtain ⟨w1, w2, w3, V, v1, v2, v3, v4⟩ := write_fuse d1 d7.1 (show 0 ≤ 1 by decide) (a := 0) (W := frame.words 1 1 whole) (by omega) hWx (fun i hi => by rw [d7.2, Nat.zero_add]; exact getD_ones (by omega))
  obtain ⟨w4, w5⟩ := w3 d5
  have fe2 : drive.fresh G g ((1 - 1 : Nat) : Int) (frame.words 1 (Part.zero.seq + 1) whole) = drive.write (drive.clean G g ((0 : Nat) : Int)).2 g ((0 : Nat) : Int) ((0 : Nat) : Int) (frame.words 1 1 whole) := fe
  have ht : turnV G g ⟨1, Part.zero, false⟩ whole = (0, (drive.write (drive.clean G g ((0 : Nat) : Int)).2 g ((0 : Nat) : Int) ((0 : Nat) : Int) (frame.words 1 1 whole)).2, ⟨0, ⟨1, whole, [], whole.length + 3⟩, false⟩) := by
    unfold turnV turned
    simp only
    rw [fe2, w5]
    rfl
  rw [ht]
  have v5 : (drive.write (drive.clean G g ((0 : Nat) : Int)).2 g ((0 : Nat) : Int) ((0 : Nat) : Int) (frame.words 1 1 whole)).2.dark = false ∧ V = frame.words 1 1 whole := by
    rcases v4 with ⟨_, d, k⟩ | ⟨z, _⟩
    · exact ⟨d, k⟩
    · rw [w5] at z; cases z
  rw [d7.2] at v3
  generalize (drive.write (drive.clean G g ((0 : Nat) : Int)).2 g ((0 : Nat) : Int) ((0 : Nat) : Int) (frame.words 1 1 whole)).2 = H at *
  obtain ⟨f1, f2⟩ := first_frame w1 (show 0 ≤ 1 by decide) hb hw (show 1 ≤ 1 by decide) (by decide) (by omega) v2 v3 (fun i hi => by rw [v5.2]; exact le.refl _)
  have f3 : said H g 0 = ⟨1, whole, [], whole.length + 3⟩ ∧ tornV H g 0 (whole.length + 3) = false := by
    rcases f2 with ⟨_, k⟩ | ⟨k1, _, k2⟩
    · exact absurd v5.2 k
    · exact ⟨k1, k2⟩
  have hs1 : sec H g 1 = List.replicate g.sector.toNat 4294967295 := w2.trans (d2.trans c7.2)
  have hsd : said H g 1 = Part.zero := by unfold said; rw [hs1]; exact scan_none (readN_ones (.inr (getD_ones (by omega))))
  have hW : Wins H g 0 := ⟨by rw [f3.1]; exact Nat.one_ne_zero, .inl (by rw [show 1 - 0 = 1 from rfl, hsd, f3.1]; exact Nat.zero_lt_one)⟩
  have ho := open_intro (show 0 ≤ 1 by decide) hW
  rw [f3.1] at ho
  simp only at ho
  rw [f3.2] at ho
  refine ⟨H, rfl, v5.1, w4, w1, ho, fun t ht => ?_⟩
  have : t = 0 ∨ t = 1 := by omega
  rcases this with rfl | rfl
  · exact f1
  · rw [hs1]; exact .blank _
/-- a journal that is mended is mended -/
theorem mended {F : Fl} {g : Geo} {J : Jv} (h : Inv F g J) : loadB J.p.whole = true ∧ (∀ x ∈ J.p.whole, x < 4294967296) ∧ ((doneMend g J J.p.whole).torn = false ∨ g.life ≤ (doneMend g J J.p.whole).p.seq) := by
  have hs := h.sound.p
  have hw : loadB J.p.whole = true := by
    rcases hs.whole with k | k
    · exact absurd k.1 h.seq
    · exact decide_eq_true k
  refine ⟨hw, hs.words, ?_⟩
  unfold doneMend
  rw [if_neg (by rw [hw]; decide)]
  split
  · assumption
  · exact .inl rfl
end Go.Proofs.YtphifanacehppaaGreat.journal
/- What acts on a journal and on the reference's leave of the two, beside blocks of others. No condition but flashes with few writes. -/
namespace Go.Proofs.YtphifanacehppaaGreat.journal
open Go Go.RowKit Go.Proofs.YtphifanacehppaaGreat.flash Go.Proofs.YtphifanacehppaaGreat.geom Go.Proofs.YtphifanacehppaaGreat.word
set_option linter.unusedVariables false

/-- the counter of writes -/
theorem turn_step {F : Fl} {g : Geo} {J : Jv} (ok : F.Ok) (hq : J.p.seq < 1073741823) {whole : List Nat} (hb : loadB whole = true) (hw : ∀ x ∈ whole, x < 4294967296) : drive.Step F (turnV F g J whole).2.1 60 := by
  have hb' := of_decide_eq_true hb
  have hW := frame.words_lt 1 (J.p.seq + 1) whole (by decide) (by omega) hb'.2 hw
  have h := drive.fresh_step ok g ((1 - J.sector : Nat) : Int) hW
  rw [frame.words_length] at h
  unfold turnV
  split
  · exact h.more (by omega)
  · exact h.more (by omega)
theorem lay_step {F : Fl} {g : Geo} {J : Jv} (ok : F.Ok) (hq : J.p.seq < 1073741823) {k : Nat} (hk : k = 1 ∨ k = 2) {load : List Nat} (hb : loadB load = true) (hw : ∀ x ∈ load, x < 4294967296) : drive.Step F (layV F g J k load).2.1 60 := by
  have hb' := of_decide_eq_true hb
  have hW := frame.words_lt k (J.p.seq + 1) load (by omega) (by omega) hb'.2 hw
  have h := drive.write_step ok g (J.sector : Int) (J.p.tail : Int) hW
  rw [frame.words_length] at h
  unfold layV
  split
  · exact h.more (by omega)
  · exact h.more (by omega)
theorem put_step {F : Fl} {g : Geo} {J : Jv} (fits : Fits F g) {k : Nat} (hk : k = 1 ∨ k = 2) {load whole : List Nat} (hw : ∀ x ∈ load, x < 4294967296) (hw2 : ∀ x ∈ whole, x < 4294967296) : drive.Step F (putV F g J k load whole).2.1 60 := by
  have hb := fits.bounds
  unfold putV
  split
  · rename_i h
    unfold addV
    split
    · exact .refl fits.ok _
    · split
      · exact turn_step fits.ok (by omega) h.2 hw2
      · exact lay_step fits.ok (by omega) hk h.1 hw
  · exact .refl fits.ok _
theorem act_step {F : Fl} {g : Geo} {J : Jv} (fits : Fits F g) (k : Int) {load whole : List Nat} (hw : ∀ x ∈ load, x < 4294967296) (hw2 : ∀ x ∈ whole, x < 4294967296) : drive.Step F (actV F g J k load whole).2.1 60 := by
  have hb := fits.bounds
  unfold actV
  split
  · exact put_step fits (.inr rfl) hw hw2
  · split
    · exact put_step fits (.inl rfl) hw2 hw2
    · split
      · unfold mendV
        split
        · exact .refl fits.ok _
        · split
          · exact .refl fits.ok _
          · exact turn_step fits.ok (by omega) (by simpa using ‹¬ loadB whole = false›) hw2
      · exact .refl fits.ok _
/-- the two journals beside the blocks of Q -/
def Duo2 (w0 : World) (Q : Nat → Prop) (j d b r e c : Nat) (g : Geo) (F : Fl) (J : Jv) (G : Fl) (K : Jv) (wr : World) : Prop :=
  ∃ M N, Both w0 M N j d b r e c g F J G K wr ∧ ∀ x, Q x → x < wr.heap.size ∧ ¬ M x ∧ ¬ N x
section
variable {w0 wr w' : World} {Q : Nat → Prop} {M N : Nat → Prop} {j d b r e c : Nat} {g : Geo} {F G H : Fl} {J K L : Jv}
theorem Duo2.below (h : Duo2 w0 Q j d b r e c g F J G K wr) : Below w0.heap.size w0 wr := by obtain ⟨M, N, h, _⟩ := h; exact h.bl
theorem Duo2.later (h : Duo2 w0 Q j d b r e c g F J G K wr) (k : Below wr.heap.size wr w') : Duo2 w0 Q j d b r e c g F J G K w' := by
  obtain ⟨M, N, h, hq⟩ := h
  exact ⟨M, N, h.later k, fun x hx => ⟨Nat.lt_of_lt_of_le (hq x hx).1 k.size, (hq x hx).2⟩⟩
theorem Duo2.less {Q' : Nat → Prop} (h : Duo2 w0 Q j d b r e c g F J G K wr) (k : ∀ x, Q' x → Q x) : Duo2 w0 Q' j d b r e c g F J G K wr := by
  obtain ⟨M, N, h, hq⟩ := h
  exact ⟨M, N, h, fun x hx => hq x (k x hx)⟩
/-- blocks that were made behind -/
theorem Duo2.more {Q' : Nat → Prop} (h : Duo2 w0 Q j d b r e c g F J G K wr) (k : Below wr.heap.size wr w') (hQ : ∀ x, Q' x → Q x ∨ wr.heap.size ≤ x ∧ x < w'.heap.size) : Duo2 w0 Q' j d b r e c g F J G K w' := by
  obtain ⟨M, N, h, hq⟩ := h
  refine ⟨M, N, h.later k, fun x hx => ?_⟩
  rcases hQ x hx with h1 | h1
  · exact ⟨Nat.lt_of_lt_of_le (hq x h1).1 k.size, (hq x h1).2⟩
  · exact ⟨h1.2, fun hm => by have := h.pj.lt x hm; omega, fun hn => by have := h.rj.lt x hn; omega⟩
/-- a cell of one of the blocks of Q turned -/
theorem Duo2.set (h : Duo2 w0 Q j d b r e c g F J G K wr) {T : Nat → Prop} (k : Only T wr w') (hT : ∀ x, T x → Q x ∧ w0.heap.size ≤ x) : Duo2 w0 Q j d b r e c g F J G K w' := by
  obtain ⟨M, N, h, hq⟩ := h
  exact ⟨M, N, ⟨h.pj.only k fun x hm ht => (hq x (hT x ht).1).2.1 hm, h.rj.only k fun x hn ht => (hq x (hT x ht).1).2.2 hn, h.ms, h.ns, h.ap, h.bl.trans (k.below h.bl.size fun x hx => (hT x hx).2)⟩, fun x hx => ⟨Nat.lt_of_lt_of_le (hq x hx).1 k.size, (hq x hx).2⟩⟩
/-- behind a turn of the program's: the blocks of Q stand -/
theorem Both.act2 (h : Both w0 M N j d b r e c g F J G K wr) (hq : ∀ x, Q x → x < wr.heap.size ∧ ¬ M x ∧ ¬ N x) (k : JTurn M j d b g H L wr w') : Duo2 w0 Q j d b r e c g H L G K w' ∧ Stays Q wr w' := by
  obtain ⟨M', k1, k2, k3⟩ := k
  have hs := h.bl.size
  have hb : Below w0.heap.size w0 w' := h.bl.trans (k3.below hs fun x hx => h.ms x hx)
  refine ⟨⟨M', N, ⟨k1, h.rj.only k3 fun x hx hm => h.ap x hm hx, fun x hx => ?_, h.ns, fun x hx hn => ?_, hb⟩, fun x hx => ⟨Nat.lt_of_lt_of_le (hq x hx).1 k3.size, fun hm => ?_, (hq x hx).2.2⟩⟩, .only k3 fun x hx => (hq x hx).2.1⟩
  · rcases (k2 x hx).2 with h1 | h1
    · exact h.ms x h1
    · omega
  · rcases (k2 x hx).2 with h1 | h1
    · exact h.ap x h1 hn
    · have := h.rj.lt x hn; omega
  · rcases (k2 x hm).2 with h1 | h1
    · exact (hq x hx).2.1 h1
    · have := (hq x hx).1; omega
theorem Both.ract2 (h : Both w0 M N j d b r e c g F J G K wr) (hq : ∀ x, Q x → x < wr.heap.size ∧ ¬ M x ∧ ¬ N x) (k : RJTurn N r e c g H L wr w') : Duo2 w0 Q j d b r e c g F J H L w' ∧ Stays Q wr w' := by
  obtain ⟨N', k1, k2, k3⟩ := k
  have hs := h.bl.size
  have hb : Below w0.heap.size w0 w' := h.bl.trans (k3.below hs fun x hx => h.ns x hx)
  refine ⟨⟨M, N', ⟨h.pj.only k3 fun x hx hn => h.ap x hx hn, k1, h.ms, fun x hx => ?_, fun x hx hn => ?_, hb⟩, fun x hx => ⟨Nat.lt_of_lt_of_le (hq x hx).1 k3.size, (hq x hx).2.1, fun hn => ?_⟩⟩, .only k3 fun x hx => (hq x hx).2.2⟩
  · rcases (k2 x hx).2 with h1 | h1
    · exact h.ns x h1
    · omega
  · rcases (k2 x hn).2 with h1 | h1
    · exact h.ap x hx h1
    · have := h.pj.lt x hx; omega
  · rcases (k2 x hn).2 with h1 | h1
    · exact (hq x hx).2.2 h1
    · have := (hq x hx).1; omega
theorem duo_do (h : Duo2 w0 Q j d b r e c g F J G K wr) (fits : Fits F g) (hcnt : F.count < 1152921504606846976) (hso : J.Sound g) (hq0 : J.p.seq ≠ 0) (k a : Int) (x y : Option Addr) (n cx m cy : Nat) (L V : List Nat)
    (hr : Reads .u32 wr x n L) (hL : ∀ y ∈ L, y < 4294967296) (hr2 : Reads .u32 wr y m V) (hV : ∀ y ∈ V, y < 4294967296) (hn : n ≤ 4611686018427387904) (hm : m ≤ 4611686018427387904) :
    Calls Tryz.prog 14 #[.pointer (some ⟨j, 0, none⟩), .agg #[.int .i64 k, .int .i64 a, .slice x n cx, .slice y m cy]] wr fun o w' => o = .returned (.int .i64 (actV F g J k L V).1) ∧ Duo2 w0 Q j d b r e c g (actV F g J k L V).2.1 (actV F g J k L V).2.2 G K w' ∧ Stays Q wr w' := by
  obtain ⟨M, N, h, hq⟩ := h
  obtain ⟨S, X, wv, cv, hj⟩ := h.pj
  refine (do_this hj fits hcnt hso hq0 k a x y n cx m cy L V hr hL hr2 hV hn hm).mono ?_
  rintro o w' ⟨ho, ht⟩
  exact ⟨ho, h.act2 hq ht⟩
theorem duo_told (h : Duo2 w0 Q j d b r e c g F J G K wr) (fits : Fits G g) (hcnt : G.count < 1152921504606846976) (hso : K.Sound g) (hq0 : K.p.seq ≠ 0) (k a : Int) (x y : Option Addr) (n cx m cy : Nat) (L V : List Nat)
    (hr : Reads .u32 wr x n L) (hL : ∀ y ∈ L, y < 4294967296) (hr2 : Reads .u32 wr y m V) (hV : ∀ y ∈ V, y < 4294967296) :
    Calls Tryz.prog 12 #[.pointer (some ⟨r, 0, none⟩), .agg #[.int .i64 k, .int .i64 a, .slice x n cx, .slice y m cy]] wr fun o w' => o = .returned (.int .i64 (actV G g K k L V).1) ∧ Duo2 w0 Q j d b r e c g F J (actV G g K k L V).2.1 (actV G g K k L V).2.2 w' ∧ Stays Q wr w' := by
  obtain ⟨M, N, h, hq⟩ := h
  obtain ⟨S, X, wv, cv, hj⟩ := h.rj
  refine (told_this hj fits hcnt hso hq0 k a x y n cx m cy L V hr hL hr2 hV).mono ?_
  rintro o w' ⟨ho, ht⟩
  exact ⟨ho, h.ract2 hq ht⟩
theorem duo_power (h : Duo2 w0 Q j d b r e c g F J G K wr) :
    Calls Tryz.prog 15 #[.pointer (some ⟨b, 0, none⟩)] wr fun o w' => o = .returned (.tuple #[]) ∧ Duo2 w0 Q j d b r e c g F.power J G K w' ∧ Stays Q wr w' := by
  obtain ⟨M, N, h, hq⟩ := h
  obtain ⟨S, X, wv, cv, hj⟩ := h.pj
  refine (power_did hj.dr.fl).mono ?_
  rintro o w' ⟨ho, ht⟩
  exact ⟨ho, h.act2 hq (hj.turned ht)⟩
theorem duo_rpower (h : Duo2 w0 Q j d b r e c g F J G K wr) :
    Calls Tryz.prog 38 #[.pointer (some ⟨c, 0, none⟩)] wr fun o w' => o = .returned (.tuple #[]) ∧ Duo2 w0 Q j d b r e c g F J G.power K w' ∧ Stays Q wr w' := by
  obtain ⟨M, N, h, hq⟩ := h
  obtain ⟨S, X, wv, cv, hj⟩ := h.rj
  obtain ⟨cm, gW, cW, gV, cV, hf⟩ := hj.dr.fl
  refine ((refPower_any hf).mono fun e w' k => k.did hf).mono ?_
  rintro o w' ⟨ho, ht⟩
  exact ⟨ho, h.ract2 hq (hj.turned ht)⟩
theorem duo_arm (h : Duo2 w0 Q j d b r e c g F J G K wr) (ok : F.Ok) (n : Int) (hn : n ≤ 9223372036854775807) (x : Option Addr) (len cap : Nat) (T : List Nat) (hr : Reads .u32 wr x len T) (hlc : len ≤ cap) (hlen : len ≤ 140737488355328) (hcap : cap ≤ maxLen) (hsep : len = 0 ∨ ∃ y, x = some y ∧ (y.block < w0.heap.size ∨ Q y.block)) :
    Calls Tryz.prog 13 #[.pointer (some ⟨b, 0, none⟩), .int .i64 n, .slice x len cap] wr fun o w' => o = .returned (.tuple #[]) ∧ Duo2 w0 Q j d b r e c g (F.arm n T) J G K w' ∧ Stays Q wr w' := by
  obtain ⟨M, N, h, hq⟩ := h
  obtain ⟨S, X, wv, cv, hj⟩ := h.pj
  have hsep2 : len = 0 ∨ ∃ y, x = some y ∧ ¬ S y.block := by
    rcases hsep with h0 | ⟨y, hy, hb⟩
    · exact .inl h0
    · refine .inr ⟨y, hy, fun hs => ?_⟩
      have hm := hj.sub _ (.inl hs)
      rcases hb with hb | hb
      · have := h.ms _ hm; omega
      · exact (hq _ hb).2.1 hm
  refine (arm_did hj.dr.fl ok n hn x len cap T hr hlc hlen hcap hsep2).mono ?_
  rintro o w' ⟨ho, ht⟩
  exact ⟨ho, h.act2 hq (hj.turned ht)⟩
theorem duo_rarm (h : Duo2 w0 Q j d b r e c g F J G K wr) (n : Int) (hn : n ≤ 9223372036854775807) (hn2 : -9223372036854775808 ≤ n) (x : Option Addr) (len cap : Nat) (T : List Nat) (hr : Reads .u32 wr x len T) (hlen : len * 4 ≤ 140737488355328) (hsep : len = 0 ∨ ∃ y, x = some y ∧ (y.block < w0.heap.size ∨ Q y.block)) :
    Calls Tryz.prog 35 #[.pointer (some ⟨c, 0, none⟩), .int .i64 n, .slice x len cap] wr fun o w' => o = .returned (.tuple #[]) ∧ Duo2 w0 Q j d b r e c g F J (G.arm n T) K w' ∧ Stays Q wr w' := by
  obtain ⟨M, N, h, hq⟩ := h
  obtain ⟨S, X, wv, cv, hj⟩ := h.rj
  obtain ⟨cm, gW, cW, gV, cV, hf⟩ := hj.dr.fl
  have hsep2 : len = 0 ∨ ∃ y, x = some y ∧ ¬ S y.block := by
    rcases hsep with h0 | ⟨y, hy, hb⟩
    · exact .inl h0
    · refine .inr ⟨y, hy, fun hs => ?_⟩
      have hm := hj.sub _ (.inl hs)
      rcases hb with hb | hb
      · have := h.ns _ hm; omega
      · exact (hq _ hb).2.2 hm
  refine (refArm_any hf n hn hn2 x len cap T hr hlen hsep2).mono ?_
  rintro o w' ⟨ho, ht⟩
  exact ⟨ho, h.ract2 hq (hj.turned ht)⟩
theorem duo_open (h : Duo2 w0 Q j d b r e c g F J G K wr) (fits : Fits F g) (hd : F.dark = false) {J2 : Jv} (hop : openV F g = some J2) :
    Calls Tryz.prog 16 #[.pointer (some ⟨d, 0, none⟩)] wr fun o w' => ∃ j2, o = .returned (.tuple #[.pointer (some ⟨j2, 0, none⟩), .int .i64 0]) ∧ Duo2 w0 Q j2 d b r e c g F J2 G K w' ∧ Below wr.heap.size wr w' := by
  obtain ⟨M, N, h, hq⟩ := h
  obtain ⟨S, X, wv, cv, hj⟩ := h.pj
  have ho := open_this hj.dr (fun x hx => hj.lm x (hj.sub x (.inl hx))) fits hd
  rw [hop] at ho
  refine ho.mono ?_
  rintro o w' ⟨j2, X2, wv2, cv2, ho, hj2, hb, hX, hn⟩
  have hs := h.bl.size
  have sub : ∀ x, ((S x ∨ x = d) ∨ X2 x ∨ x = j2) → M x ∨ wr.heap.size ≤ x := fun x hx => by
    rcases hx with (hx | hx) | hx | hx
    · exact .inl (hj.sub x (.inl hx))
    · exact .inl (hj.sub x (.inr (.inr (.inr hx))))
    · exact .inr (hX x hx).1
    · exact .inr (by omega)
  refine ⟨j2, ho, ⟨_, N, ⟨⟨_, _, _, _, hn⟩, h.rj.later hb, fun x hx => ?_, h.ns, fun x hx hN => ?_, h.bl.trans (hb.mono hs)⟩, fun x hx => ⟨Nat.lt_of_lt_of_le (hq x hx).1 hb.size, fun hm => ?_, (hq x hx).2.2⟩⟩, hb⟩
  · rcases sub x hx with h1 | h1
    · exact h.ms x h1
    · omega
  · rcases sub x hx with h1 | h1
    · exact h.ap x h1 hN
    · have := h.rj.lt x hN; omega
  · rcases sub x hm with h1 | h1
    · exact (hq x hx).2.1 h1
    · have := (hq x hx).1; omega
theorem duo_ropen (h : Duo2 w0 Q j d b r e c g F J G K wr) (fits : Fits G g) (hd : G.dark = false) {J2 : Jv} (hop : openV G g = some J2) :
    Calls Tryz.prog 39 #[.pointer (some ⟨e, 0, none⟩)] wr fun o w' => ∃ r2, o = .returned (.tuple #[.pointer (some ⟨r2, 0, none⟩), .int .i64 0]) ∧ Duo2 w0 Q j d b r2 e c g F J G J2 w' ∧ Below wr.heap.size wr w' := by
  obtain ⟨M, N, h, hq⟩ := h
  obtain ⟨S, X, wv, cv, hj⟩ := h.rj
  have ho := refOpen_this hj.dr (fun x hx => hj.lm x (hj.sub x (.inl hx))) fits hd
  rw [hop] at ho
  refine ho.mono ?_
  rintro o w' ⟨j2, X2, wv2, cv2, ho, hj2, hb, hX, hn⟩
  have hs := h.bl.size
  have sub : ∀ x, ((S x ∨ x = e) ∨ X2 x ∨ x = j2) → N x ∨ wr.heap.size ≤ x := fun x hx => by
    rcases hx with (hx | hx) | hx | hx
    · exact .inl (hj.sub x (.inl hx))
    · exact .inl (hj.sub x (.inr (.inr (.inr hx))))
    · exact .inr (hX x hx).1
    · exact .inr (by omega)
  refine ⟨j2, ho, ⟨M, _, ⟨h.pj.later hb, ⟨_, _, _, _, hn⟩, h.ms, fun x hx => ?_, fun x hM hx => ?_, h.bl.trans (hb.mono hs)⟩, fun x hx => ⟨Nat.lt_of_lt_of_le (hq x hx).1 hb.size, (hq x hx).2.1, fun hm => ?_⟩⟩, hb⟩
  · rcases sub x hx with h1 | h1
    · exact h.ns x h1
    · omega
  · rcases sub x hx with h1 | h1
    · exact h.ap x hM h1
    · have := h.pj.lt x hM; omega
  · rcases sub x hm with h1 | h1
    · exact (hq x hx).2.2 h1
    · have := (hq x hx).1; omega
theorem duo_same (h : Duo2 w0 Q j d b r e c g F J G J wr) (fits : Fits F g) (hso : J.Sound g) : Calls Tryz.prog 37 #[.pointer (some ⟨j, 0, none⟩), .pointer (some ⟨r, 0, none⟩)] wr fun o w' => o = .returned (.bool true) ∧ Below wr.heap.size wr w' := by
  obtain ⟨M, N, h, hq⟩ := h
  obtain ⟨S, X, wv, cv, hj⟩ := h.pj
  obtain ⟨S', X', wv', cv', hr⟩ := h.rj
  have := fits.bounds
  exact told_same hj hr hso.p (by have := hso.p.count; have := hso.tail; omega)
/-- what is seen of the two flashes -/
theorem duo_seen (h : Duo2 w0 Q j d b r e c g F J F K wr) (ok : F.Ok) : ∃ gW cW,
    (∀ w', Below wr.heap.size wr w' → w'.cell? ⟨r, 0, none⟩ = some (.pointer (some ⟨e, 0, none⟩)) ∧ w'.cell? ⟨e, 0, none⟩ = some (.pointer (some ⟨c, 0, none⟩)) ∧ w'.cell? ⟨c, 0, none⟩ = some (.slice (some ⟨gW, 0, none⟩) F.ws.length cW)) ∧
    (∀ w', Below wr.heap.size wr w' → Calls Tryz.prog 36 #[.pointer (some ⟨b, 0, none⟩)] w' fun e w2 => ∃ q c, e = .returned (.slice (some ⟨q, 0, none⟩) F.ws.length c) ∧ Reads .u32 w2 (some ⟨q, 0, none⟩) F.ws.length F.ws ∧ Below w'.heap.size w' w2) ∧
    (∀ q c w', Reads .u32 w' (some ⟨q, 0, none⟩) F.ws.length F.ws → Below wr.heap.size wr w' → Calls Tryz.prog 18 #[.slice (some ⟨q, 0, none⟩) F.ws.length c, .slice (some ⟨gW, 0, none⟩) F.ws.length cW] w' (Quiet (.bool true) w')) := by
  obtain ⟨M, N, h, hq⟩ := h
  obtain ⟨S, X, wv, cv, hj⟩ := h.pj
  obtain ⟨S', X', wv', cv', hr⟩ := h.rj
  obtain ⟨ca, cb, cm, bw, cw, bv, cv2, h1⟩ := hj.dr.fl
  obtain ⟨dm, gW, cW, gV, cV, h2⟩ := hr.dr.fl
  refine ⟨gW, cW, fun w' hb => ?_, fun w' hb => ?_, fun q c w' hr hb => ?_⟩
  · exact ⟨(hr.later hb).cells.1, (hr.dr.later hb).cells.1, (h2.later hb).cell.1⟩
  · refine (words_any (h1.later hb) ok).mono ?_
    rintro e w2 ⟨q, c, rfl, hq, hr, hb2⟩
    exact ⟨q, c, rfl, hr.reads, hb2⟩
  · exact same_any _ _ F.ws.length c cW F.ws w' hr (h2.later hb).ws.reads (by have := ok.ws_le; omega)
end
end Go.Proofs.YtphifanacehppaaGreat.journal
/- Contract of opened of layer 11's statements. No condition. -/
namespace Go.Proofs.YtphifanacehppaaGreat.journal
open Go Go.RowKit Go.Proofs.YtphifanacehppaaGreat.flash Go.Proofs.YtphifanacehppaaGreat.geom Go.Proofs.YtphifanacehppaaGreat.word
set_option linter.unusedVariables false

/-- results: a struct that lives in a variable, and a value -/
theorem results_pair {fn : Func} {p q : Tmp} {ty : TypeId} {tmps : Array Value} {P : Program} {w : World} {b o : Nat} {cs : List Value} {d : TypeDesc} {v : Value} (h : fn.results = #[.cell p ty, .tmp q])
    (hp : tmps.getD p undef = .pointer (some ⟨b, o, none⟩)) (hv : tmps.getD q undef = v) (hc : w.rangeAt b o cs) (hu : P.underlying ty = some d) (hd : d.isRow = true) (hi : (P.info? ty).map (·.size) = some cs.length) :
    (results fn tmps).run P w = .ok (.tuple #[.agg cs.toArray, v]) w := by
  simp only [results, h]
  simp at hp hv
  simp [hp, hv, asAddr, run_loadVar_mid w b o ty cs d hc hu hd hi]
theorem pair_size : (Tryz.prog.info? 34).map (·.size) = some 4 := by kernel_rfl
section
variable {w0 wr w' : World} {Q : Nat → Prop} {j d b r e c : Nat} {g : Geo} {F G : Fl} {J K : Jv}
theorem duo_rcells (h : Duo2 w0 Q j d b r e c g F J G K wr) : wr.cell? ⟨r, 0, none⟩ = some (.pointer (some ⟨e, 0, none⟩)) ∧ wr.cell? ⟨e, 0, none⟩ = some (.pointer (some ⟨c, 0, none⟩)) := by
  obtain ⟨M, N, h, hq⟩ := h
  obtain ⟨S', X', wv', cv', hr⟩ := h.rj
  exact ⟨hr.cells.1, hr.dr.cells.1⟩
theorem Stays.blk {g : Nat} {t : TypeId} {cs : List Value} (k : Stays Q wr w') (h : Block wr g t cs) (hq : Q g) : Block w' g t cs := (k.block g hq h.lt).trans h
/-- the blocks of Q, and two more -/
def AndTwo (Q : Nat → Prop) (p q : Nat) : Nat → Prop := fun x => Q x ∨ x = p ∨ x = q
set_option maxRecDepth 20000 in
set_option maxHeartbeats 3200000 in
theorem opened_this (h : Duo2 w0 Q j d b r e c g F J F K wr) {J2 : Jv} (inv : Inv F g J2) :
    Calls Tryz.prog 11 #[.agg #[.pointer (some ⟨b, 0, none⟩), .pointer (some ⟨d, 0, none⟩), .pointer (some ⟨j, 0, none⟩), .pointer (some ⟨r, 0, none⟩)]] wr fun o w' =>
      ∃ j2 r2, o = .returned (.tuple #[.agg #[.pointer (some ⟨b, 0, none⟩), .pointer (some ⟨d, 0, none⟩), .pointer (some ⟨j2, 0, none⟩), .pointer (some ⟨r2, 0, none⟩)], .bool true]) ∧ Duo2 w0 Q j2 d b r2 e c g F.power J2 F.power J2 w' ∧ Stays Q wr w' := by
  have inv2 := inv.power
  obtain ⟨w1, hw1⟩ : ∃ z, Hid ((wr.alloc (.cells #[.pointer (some ⟨b, 0, none⟩), .pointer (some ⟨d, 0, none⟩), .pointer (some ⟨j, 0, none⟩), .pointer (some ⟨r, 0, none⟩)] 34)).alloc (.cells #[.pointer none, .pointer none, .pointer none, .pointer none] 34) = z) := ⟨_, rfl⟩
  have hb1 : Below wr.heap.size wr w1 := by rw [← hw1.out]; exact ((Below.refl _ _).alloc (Nat.le_refl _) _).alloc (by simp) _
  have hP : Block w1 wr.heap.size 34 [.pointer (some ⟨b, 0, none⟩), .pointer (some ⟨d, 0, none⟩), .pointer (some ⟨j, 0, none⟩), .pointer (some ⟨r, 0, none⟩)] := by
    rw [← hw1.out]
    exact (Block.new wr 34 [.pointer (some ⟨b, 0, none⟩), .pointer (some ⟨d, 0, none⟩), .pointer (some ⟨j, 0, none⟩), .pointer (some ⟨r, 0, none⟩)]).alloc _
  have hR : Block w1 (wr.heap.size + 1) 34 [.pointer none, .pointer none, .pointer none, .pointer none] := by
    rw [← hw1.out]
    have := Block.new (wr.alloc (.cells #[.pointer (some ⟨b, 0, none⟩), .pointer (some ⟨d, 0, none⟩), .pointer (some ⟨j, 0, none⟩), .pointer (some ⟨r, 0, none⟩)] 34)) 34 [.pointer none, .pointer none, .pointer none, .pointer none]
    simpa using this
  have D1 := h.more (Q' := AndTwo Q wr.heap.size (wr.heap.size + 1)) hb1 (fun x hx => by
    rcases hx with hx | rfl | rfl
    · exact .inl hx
    · exact .inr ⟨Nat.le_refl _, hP.lt⟩
    · exact .inr ⟨Nat.le_succ _, hR.lt⟩)
  have hw0 : w0.heap.size ≤ wr.heap.size := h.below.size
  have hqlt : ∀ x, Q x → x < wr.heap.size := fun x hx => by obtain ⟨M, N, _, hq⟩ := h; exact (hq x hx).1
  have qp : Hid (AndTwo Q wr.heap.size (wr.heap.size + 1) wr.heap.size) := hid (.inr (.inl rfl))
  have qr : Hid (AndTwo Q wr.heap.size (wr.heap.size + 1) (wr.heap.size + 1)) := hid (.inr (.inr rfl))
  have c0 : w1.cell? ⟨wr.heap.size, 0, none⟩ = some (.pointer (some ⟨b, 0, none⟩)) := hP.cell 0
  have cpw := duo_power D1
  have HP := hid hP
  have HR := hid hR
  have HB1 := hid hb1
  clear h hb1 hP hR D1
  go_enter Tryz.func11, Tryz.ntmps11
  go_wp2_with fail
  rw [hw1.out]
  go_wp2_with (first
    | (go_at_call 15; ((with_reducible refine cpw.mono ?_); clear cpw; rintro o w2 ⟨rfl, D2, s2⟩; have P2 := s2.blk HP.out qp.out; have R2 := s2.blk HR.out qr.out; have k2 := duo_rcells D2; have c3 : w2.cell? ⟨wr.heap.size, 3, none⟩ = some (.pointer (some ⟨r, 0, none⟩)) := P2.cell 3; have crp := duo_rpower D2))
    | (go_at_call 38; ((with_reducible refine crp.mono ?_); clear crp; rintro o w3 ⟨rfl, D3, s3⟩; have P3 := s3.blk P2 qp.out; have R3 := s3.blk R2 qr.out; have S3 := s2.trans s3; have c1 : w3.cell? ⟨wr.heap.size, 1, none⟩ = some (.pointer (some ⟨d, 0, none⟩)) := P3.cell 1; have cop := duo_open D3 inv2.fits rfl inv2.op; clear s2 s3 P2 R2 D2 k2 c3))
    | (go_at_call 16; ((with_reducible refine cop.mono ?_); clear cop; rintro o w4 ⟨j2, rfl, D4, b4⟩; have P4 := P3.later b4; have R4 := R3.later b4; have k4 := duo_rcells D4; have c4 : w4.cell? ⟨wr.heap.size, 3, none⟩ = some (.pointer (some ⟨r, 0, none⟩)) := P4.cell 3; have cro := duo_ropen D4 inv2.fits rfl inv2.op; clear P3 R3 D3 c1))
    | (go_at_call 39; ((with_reducible refine cro.mono ?_); clear cro; rintro o w5 ⟨r2, rfl, D5, b5⟩; have P5 := P4.later b5; have R5 := R4.later b5; have S5 := S3.trans (.below (b4.trans (b5.mono b4.size))); have d2 : w5.cell? ⟨wr.heap.size, 2, none⟩ = some (.pointer (some ⟨j, 0, none⟩)) := P5.cell 2; have d3 : w5.cell? ⟨wr.heap.size, 3, none⟩ = some (.pointer (some ⟨r, 0, none⟩)) := P5.cell 3; have f2 := P5.frozen 2; have f3 := P5.frozen 3; have HP5 := hid P5; have HR5 := hid R5; have HD5 := hid D5; have HS5 := hid S5; clear P4 R4 D4 k4 c4 b4 b5 S3 P5 R5 D5 S5)))
  obtain ⟨w6, hw6⟩ : ∃ z, Hid ((w5.setCell ⟨wr.heap.size, 2, none⟩ (.pointer (some ⟨j2, 0, none⟩))).setCell ⟨wr.heap.size, 3, none⟩ (.pointer (some ⟨r2, 0, none⟩)) = z) := ⟨_, rfl⟩
  have hO6 : Only (fun x => x = wr.heap.size) w5 w6 := by
    rw [← hw6.out]
    exact ((Only.refl (fun x => x = wr.heap.size) w5).setCell (g := wr.heap.size) (.inl rfl) 2 _).setCell (g := wr.heap.size) (.inl rfl) 3 _
  have P6 : Block w6 wr.heap.size 34 [.pointer (some ⟨b, 0, none⟩), .pointer (some ⟨d, 0, none⟩), .pointer (some ⟨j2, 0, none⟩), .pointer (some ⟨r2, 0, none⟩)] := by
    rw [← hw6.out]
    exact (HP5.out.setCell 2 _).setCell 3 _
  have R6 := HR5.out.only hO6 (by omega)
  rw [hw6.out]
  have D6 := HD5.out.set hO6 (fun x hx => by subst hx; exact ⟨qp.out, hw0⟩)
  have hbd : Below w6.heap.size w6 w6.drew := below_drewN (Below.refl _ _) 1
  have cs := duo_same (D6.later hbd) inv2.fits inv2.sound
  have P7 := P6.later hbd
  have R7 := R6.later hbd
  have HP7 := hid P7
  have HR7 := hid R7
  have p0 : w6.drew.cell? ⟨wr.heap.size, 0, none⟩ = some (.pointer (some ⟨b, 0, none⟩)) := P7.cell 0
  have p1 : w6.drew.cell? ⟨wr.heap.size, 1, none⟩ = some (.pointer (some ⟨d, 0, none⟩)) := P7.cell 1
  have p2 : w6.drew.cell? ⟨wr.heap.size, 2, none⟩ = some (.pointer (some ⟨j2, 0, none⟩)) := P7.cell 2
  have p3 : w6.drew.cell? ⟨wr.heap.size, 3, none⟩ = some (.pointer (some ⟨r2, 0, none⟩)) := P7.cell 3
  have HD6 := hid D6
  have HO6 := hid hO6
  clear D6 P6 R6 P7 R7 d2 d3 f2 f3 hO6
  go_region_held3 (fun w' => w'.cell? ⟨wr.heap.size, 0, none⟩ = some (.pointer (some ⟨b, 0, none⟩)) ∧ w'.cell? ⟨wr.heap.size, 1, none⟩ = some (.pointer (some ⟨d, 0, none⟩)) ∧ w'.cell? ⟨wr.heap.size, 2, none⟩ = some (.pointer (some ⟨j2, 0, none⟩)) ∧ w'.cell? ⟨wr.heap.size, 3, none⟩ = some (.pointer (some ⟨r2, 0, none⟩))) (first | assumption | go_keep) (
    (go_at_call 37; (with_reducible refine cs.mono ?_); rintro o w7 ⟨rfl, hb7⟩; have q0 : w7.cell? ⟨wr.heap.size, 0, none⟩ = some (.pointer (some ⟨b, 0, none⟩)) := (HP7.out.later hb7).cell 0; have q1 : w7.cell? ⟨wr.heap.size, 1, none⟩ = some (.pointer (some ⟨d, 0, none⟩)) := (HP7.out.later hb7).cell 1; have q2 : w7.cell? ⟨wr.heap.size, 2, none⟩ = some (.pointer (some ⟨j2, 0, none⟩)) := (HP7.out.later hb7).cell 2; have q3 : w7.cell? ⟨wr.heap.size, 3, none⟩ = some (.pointer (some ⟨r2, 0, none⟩)) := (HP7.out.later hb7).cell 3; have R8 := HR7.out.later hb7; have z0 : w7.cell? ⟨wr.heap.size + 1, 0, none⟩ = some (.pointer none) := R8.cell 0; have z1 : w7.cell? ⟨wr.heap.size + 1, 1, none⟩ = some (.pointer none) := R8.cell 1; have z2 : w7.cell? ⟨wr.heap.size + 1, 2, none⟩ = some (.pointer none) := R8.cell 2; have z3 : w7.cell? ⟨wr.heap.size + 1, 3, none⟩ = some (.pointer none) := R8.cell 3; have f0 := R8.frozen 0; have f1 := R8.frozen 1; have f2 := R8.frozen 2; have f3 := R8.frozen 3; have HR8 := hid R8; clear R8))
  obtain ⟨w8, hw8⟩ : ∃ z, Hid ((((w7.setCell ⟨wr.heap.size + 1, 0, none⟩ (.pointer (some ⟨b, 0, none⟩))).setCell ⟨wr.heap.size + 1, 1, none⟩ (.pointer (some ⟨d, 0, none⟩))).setCell ⟨wr.heap.size + 1, 2, none⟩ (.pointer (some ⟨j2, 0, none⟩))).setCell ⟨wr.heap.size + 1, 3, none⟩ (.pointer (some ⟨r2, 0, none⟩)) = z) := ⟨_, rfl⟩
  rw [hw8.out]
  have R9 : Block w8 (wr.heap.size + 1) 34 [.pointer (some ⟨b, 0, none⟩), .pointer (some ⟨d, 0, none⟩), .pointer (some ⟨j2, 0, none⟩), .pointer (some ⟨r2, 0, none⟩)] := by
    rw [← hw8.out]
    exact (((HR8.out.setCell 0 _).setCell 1 _).setCell 2 _).setCell 3 _
  have hO8 : Only (fun x => x = wr.heap.size + 1) w7 w8 := by
    rw [← hw8.out]
    exact ((((Only.refl (fun x => x = wr.heap.size + 1) w7).setCell (g := wr.heap.size + 1) (.inl rfl) 0 _).setCell (g := wr.heap.size + 1) (.inl rfl) 1 _).setCell (g := wr.heap.size + 1) (.inl rfl) 2 _).setCell (g := wr.heap.size + 1) (.inl rfl) 3 _
  go_wp2
  refine bodyPost_ret (results_pair (b := wr.heap.size + 1) (o := 0) rfl rfl rfl R9.whole Tryz.underlying34 rfl pair_size) rfl ?_
  have hb67 : Below w6.heap.size w6 w7 := hbd.trans hb7
  have D8 := (HD6.out.later hb67).set hO8 (fun x hx => by subst hx; exact ⟨qr.out, by omega⟩)
  refine ⟨j2, r2, rfl, D8.less fun x hx => .inl hx, ?_⟩
  have s05 : Stays Q wr w5 := ((Stays.below HB1.out).trans ⟨HS5.out.size, fun x hx hl => HS5.out.block x (.inl hx) hl⟩)
  have s06 : Stays Q wr w6 := s05.trans (.only HO6.out fun x hx e => by have := hqlt x hx; omega)
  exact (s06.trans (.below hb67)).trans (.only hO8 fun x hx e => by have := hqlt x hx; omega)
end
end Go.Proofs.YtphifanacehppaaGreat.journal
/- Contract of the reference's New of layer 11. No condition but a flash with few writes. -/
namespace Go.Proofs.YtphifanacehppaaGreat.journal
open Go Go.RowKit Go.Proofs.YtphifanacehppaaGreat.flash Go.Proofs.YtphifanacehppaaGreat.geom
set_option linter.unusedVariables false

theorem refNew_bad (d : Nat) (y : Option Addr) (m e : Nat) (V : List Nat) (w : World) (hm : V.length = m) (hb : loadB V = false) :
    Calls Tryz.prog 33 #[.pointer (some ⟨d, 0, none⟩), .slice y m e] w (Quiet (.tuple #[.pointer none, .int .i64 2]) w) := by
  have c2 := fun w' => load_any y m e V w' hm
  rw [hb] at c2
  clear hm hb
  go_enter Tryz.func33, Tryz.ntmps33
  go_wp2_with (go_at_call 58; ((with_reducible refine (c2 _).mono ?_); rintro e w' ⟨rfl, m1, rfl⟩))
  go_ret2
  exact ⟨rfl, _, rfl⟩
/-- the empty journal that New begins with -/
theorem rjin_new {S : Nat → Prop} {d b : Nat} {g : Geo} {F : Fl} {w : World} (h : drive.RDriveAt S d b g F w) (hS : ∀ x, S x → x < w.heap.size) (A : Nat) :
    RJIn (fun x => (S x ∨ x = d) ∨ x = w.heap.size) S (fun _ => False) w.heap.size d b g F ⟨A, Part.zero, false⟩ (.slice none 0 0) (.slice none 0 0) (w.alloc (.cells #[.pointer (some ⟨d, 0, none⟩), .int .i64 (A : Int), .int .i64 0, .bool false, .int .i64 0, .slice none 0 0, .slice none 0 0] 48)) := by
  have hd := h.lt
  refine ⟨h.later ((Below.refl _ _).alloc (Nat.le_refl _) _), Block.new w 48 [.pointer (some ⟨d, 0, none⟩), .int .i64 (A : Int), .int .i64 0, .bool false, .int .i64 0, .slice none 0 0, .slice none 0 0], .nil, .nil, fun x hx => hx.elim, fun hx => by have := hS _ hx; omega, fun hx => hx, fun hx => hx, by omega, fun x hx => ?_, fun x hx => ?_⟩
  · rcases hx with hx | hx | hx | hx
    · exact .inl (.inl hx)
    · exact hx.elim
    · exact .inr hx
    · exact .inl (.inr hx)
  · have hsz : (w.alloc (.cells #[.pointer (some ⟨d, 0, none⟩), .int .i64 (A : Int), .int .i64 0, .bool false, .int .i64 0, .slice none 0 0, .slice none 0 0] 48)).heap.size = w.heap.size + 1 := by simp
    rw [hsz]
    rcases hx with (hx | rfl) | rfl
    · have := hS x hx; omega
    · omega
    · omega
theorem rjin_new1 {S : Nat → Prop} {d b : Nat} {g : Geo} {F : Fl} {w : World} (h : drive.RDriveAt S d b g F w) (hS : ∀ x, S x → x < w.heap.size) :
    RJIn (fun x => (S x ∨ x = d) ∨ x = w.heap.size) S (fun _ => False) w.heap.size d b g F ⟨1, Part.zero, false⟩ (.slice none 0 0) (.slice none 0 0) (w.alloc (.cells #[.pointer (some ⟨d, 0, none⟩), .int .i64 1, .int .i64 0, .bool false, .int .i64 0, .slice none 0 0, .slice none 0 0] 48)) := rjin_new h hS 1
set_option maxRecDepth 20000 in
theorem refNew_good {S : Nat → Prop} {d b : Nat} {g : Geo} {F G : Fl} {K : Jv} {w : World} (h : drive.RDriveAt S d b g F w) (hS : ∀ x, S x → x < w.heap.size) (fits : Fits F g) (hcnt : F.count < 1000000) (y : Option Addr) (m e : Nat) (V : List Nat)
    (hr2 : Reads .u32 w y m V) (hV : ∀ y ∈ V, y < 4294967296) (hsep : m = 0 ∨ ∃ z, y = some z ∧ ¬ S z.block) (hb : loadB V = true) (hnew : newV F g V = (0, G, some K)) :
    Calls Tryz.prog 33 #[.pointer (some ⟨d, 0, none⟩), .slice y m e] w fun o w' => ∃ j, o = .returned (.tuple #[.pointer (some ⟨j, 0, none⟩), .int .i64 0]) ∧ w.heap.size ≤ j ∧ RJTurn (fun x => S x ∨ x = d) j d b g G K w w' := by
  have c2 := fun w' => load_any y m e V w' hr2.1
  rw [hb] at c2
  have st := drive.clean_step fits.ok g 1
  have hbd := fits.bounds
  have cc : ∀ w1, Below w.heap.size w w1 → Calls Tryz.prog 59 #[.pointer (some ⟨d, 0, none⟩), .int .i64 1] w1 (RDid S b (drive.clean F g 1).2 (.int .i64 (drive.clean F g 1).1) w1) := fun w1 hb1 => drive.refClean_this (h.later hb1) fits.ok fits.ft (by omega) 1
  unfold newV at hnew
  rw [if_neg (by rw [hb]; decide)] at hnew
  have hz : (drive.clean F g 1).1 = 0 := Classical.byContradiction fun k => by rw [if_pos k] at hnew; simp at hnew
  rw [if_neg (fun k => k hz)] at hnew
  have f2 : Fits (drive.clean F g 1).2 g := ⟨st.ok, fits.ft.like st.like⟩
  have hc2 : (drive.clean F g 1).2.count < 1152921504606846976 := by have := st.c2; omega
  rw [hz] at cc
  generalize (drive.clean F g 1).2 = F2 at *
  have hz2 : (turnV F2 g ⟨1, Part.zero, false⟩ V).1 = 0 := Classical.byContradiction fun k => by rw [if_pos k] at hnew; simp at hnew
  rw [if_neg (fun k => k hz2)] at hnew
  simp only [Prod.mk.injEq, Option.some.injEq, true_and] at hnew
  have hso : (Jv.mk 1 Part.zero false).Sound g := ⟨Nat.le_refl _, .zero, by show ((0 : Nat) : Int) ≤ _; omega⟩
  have ct : ∀ (q : Nat) (w2 : World) (M S' : Nat → Prop), RJIn M S' (fun _ => False) q d b g F2 ⟨1, Part.zero, false⟩ (.slice none 0 0) (.slice none 0 0) w2 → Reads .u32 w2 y m V →
      Calls Tryz.prog 60 #[.pointer (some ⟨q, 0, none⟩), .slice y m e, .int .i64 1] w2 fun o w' => o = .returned (.int .i64 0) ∧ RJTurn M q d b g G K w2 w' := fun q w2 M S' hj hr => by
    have := refTurn_this hj f2 hc2 hso (by decide) y m e V hr hV hb
    rw [hz2, hnew.1, hnew.2] at this
    exact this
  have H := hid h
  have HS := hid hS
  have HR := hid hr2
  have HSEP := hid hsep
  have hb0 : ∀ m, Below w.heap.size w (w.drewN m) := fun m => below_drewN (Below.refl _ _) m
  clear h hS fits hcnt hr2 hV hb hnew hz hz2 st f2 hc2 hsep hso hbd
  go_enter Tryz.func33, Tryz.ntmps33
  go_wp2_with (first
    | (go_at_call 58; ((with_reducible refine (c2 _).mono ?_); rintro e w' ⟨rfl, m1, rfl⟩))
    | (go_at_call 59; ((with_reducible refine (cc _ (hb0 _)).mono ?_); rintro e w2 ⟨rfl, ht⟩; obtain ⟨S', h2, h3, h4⟩ := (H.out.later (hb0 m1)).turn ht; have hrd := reads_only (HR.out.below (hb0 m1)) h4 HSEP.out; have hj2 := rjin_new1 h2 (fun x hx => (h3 x hx).1); have hrd2 := hrd.below ((Below.refl _ _).alloc (Nat.le_refl _) (.cells #[.pointer (some ⟨d, 0, none⟩), .int .i64 1, .int .i64 0, .bool false, .int .i64 0, .slice none 0 0, .slice none 0 0] 48)); have H2 := hid hj2; have H3 := hid h3; have H4 := hid h4; have HRD := hid hrd2; clear hj2 h2 h3 h4 hrd hrd2))
    | (go_at_call 60; ((with_reducible refine (ct _ _ _ _ H2.out HRD.out).mono ?_); rintro e w3 ⟨rfl, ht3⟩)))
  go_ret2
  have hs2 := H4.out.size
  have hsw : w.heap.size ≤ w2.heap.size := hs2
  refine ⟨w2.heap.size, rfl, hsw, ?_⟩
  obtain ⟨M', k1, k2, k3⟩ := ht3
  have hO2 : Only S w w2 := (Only.of (hb0 m1)).next H4.out fun x hx _ => hx
  have hO3 := hO2.alloc (.cells #[.pointer (some ⟨d, 0, none⟩), .int .i64 1, .int .i64 0, .bool false, .int .i64 0, .slice none 0 0, .slice none 0 0] 48)
  refine ⟨M', k1, fun x hx => ⟨(k2 x hx).1, ?_⟩, (hO3.mono fun x hx _ => .inl hx).next k3 fun x hx hlt => ?_⟩
  · rcases (k2 x hx).2 with (h | h) | h
    · rcases h with h | h
      · rcases (H3.out x h).2 with h | h
        · exact .inl (.inl h)
        · exact .inr h
      · exact .inl (.inr h)
    · right; omega
    · right; exact Nat.le_trans hO3.size h
  · rcases hx with (h | h) | h
    · rcases (H3.out x h).2 with h | h
      · exact .inl h
      · have h5 : w.heap.size ≤ x := h
        omega
    · exact .inr h
    · omega
end Go.Proofs.YtphifanacehppaaGreat.journal
/- Contract of a drive's New. No condition. -/
namespace Go.Proofs.YtphifanacehppaaGreat.drive
open Go.RowKit Go.Proofs.YtphifanacehppaaGreat.flash Go.Proofs.YtphifanacehppaaGreat.geom Go.Proofs.YtphifanacehppaaGreat.word
set_option linter.unusedVariables false

theorem new_none (g : Geo) (w : World) : Calls Tryz.prog 30 #[.pointer none, .agg #[.int .i64 g.sector, .int .i64 g.slot, .int .i64 g.data, .int .i64 g.quota, .int .i64 g.tries, .int .i64 g.life]] w fun e w' => e = .returned (.tuple #[.pointer none, .int .i64 1]) ∧ Below w.heap.size w w' := by
  go_enter Tryz.func30, Tryz.ntmps30
  go_wp2
  go_ret2
  exact ⟨rfl, (Below.refl _ _).alloc (Nat.le_refl _) _⟩
theorem size_from {S : Nat → Prop} {b : Nat} {F : Fl} {w0 w : World} (h : FlashAt S b F w0) (hb : Below w0.heap.size w0 w) : Calls Tryz.prog 53 #[.pointer (some ⟨b, 0, none⟩)] w fun e w' => e = .returned (.tuple #[.int .i64 (F.worn.length : Int), .int .i64 (F.long : Int)]) ∧ Below w0.heap.size w0 w' := by
  obtain ⟨ca, cb, cm, bw, cw, bv, cv, h1⟩ := h.later hb
  refine (size_any b F.long F.worn.length cv _ w h1.cell.2.2.2.2.1 h1.cell.2.2.2.2.2.1).mono ?_
  rintro e w' ⟨he, n, rfl⟩
  exact ⟨he, below_drewN hb n⟩
theorem new_bad {S : Nat → Prop} {b : Nat} {F : Fl} {w : World} (h : FlashAt S b F w) (g : Geo) (hn : ¬ (g.Right ∧ (F.worn.length : Int) = g.sectors ∧ (F.long : Int) = g.sector)) :
    Calls Tryz.prog 30 #[.pointer (some ⟨b, 0, none⟩), .agg #[.int .i64 g.sector, .int .i64 g.slot, .int .i64 g.data, .int .i64 g.quota, .int .i64 g.tries, .int .i64 g.life]] w fun e w' => e = .returned (.tuple #[.pointer none, .int .i64 2]) ∧ Below w.heap.size w w' := by
  have HS := hid (six g w)
  have HB := hid (belowNew g w)
  have hb0 : Below (w.alloc (.cells #[.int .i64 g.sector, .int .i64 g.slot, .int .i64 g.data, .int .i64 g.quota, .int .i64 g.tries, .int .i64 g.life] 23)).heap.size (w.alloc (.cells #[.int .i64 g.sector, .int .i64 g.slot, .int .i64 g.data, .int .i64 g.quota, .int .i64 g.tries, .int .i64 g.life] 23)) (w.alloc (.cells #[.int .i64 g.sector, .int .i64 g.slot, .int .i64 g.data, .int .i64 g.quota, .int .i64 g.tries, .int .i64 g.life] 23)) := Below.refl _ _
  have hk0 := HS.out _ hb0
  by_cases hr : g.Right
  · have cc := fun w1 hb => check_yes_at g hr (w.alloc (.cells #[.int .i64 g.sector, .int .i64 g.slot, .int .i64 g.data, .int .i64 g.quota, .int .i64 g.tries, .int .i64 g.life] 23)) w1 hb
    have cz := fun w1 hb => size_from (h.later ((Below.refl _ w).alloc (Nat.le_refl _) (.cells #[.int .i64 g.sector, .int .i64 g.slot, .int .i64 g.data, .int .i64 g.quota, .int .i64 g.tries, .int .i64 g.life] 23))) (w := w1) hb
    have cs := fun w1 hb => sectors_from g (w.alloc (.cells #[.int .i64 g.sector, .int .i64 g.slot, .int .i64 g.data, .int .i64 g.quota, .int .i64 g.tries, .int .i64 g.life] 23)) w1 hb
    have hn2 : ¬ ((F.worn.length : Int) = g.sectors ∧ (F.long : Int) = g.sector) := fun k => hn ⟨hr, k⟩
    clear h hn hr
    generalize (F.worn.length : Int) = n1 at *
    generalize (F.long : Int) = n2 at *
    generalize hT : g.sectors = T at *
    clear hT
    by_cases h1 : n1 = T
    · subst h1
      have h2 : ¬ n2 = g.sector := fun k => hn2 ⟨rfl, k⟩
      clear hn2
      go_enter Tryz.func30, Tryz.ntmps30
      go_wp2_with (first
        | (go_at_call 52; (with_reducible refine (cc _ hb0).mono ?_); rintro e w1 ⟨rfl, hb1⟩; have hk1 := HS.out _ hb1)
        | (go_at_call 53; (with_reducible refine (cz _ hb1).mono ?_); rintro e w2 ⟨rfl, hb2⟩; have hk2 := HS.out _ hb2)
        | (go_at_call 54; (with_reducible refine (cs _ hb2).mono ?_); rintro e w3 ⟨rfl, hb3⟩; have hk3 := HS.out _ hb3))
      go_ret2
      exact ⟨rfl, HB.out _ hb3⟩
    · clear hn2
      go_enter Tryz.func30, Tryz.ntmps30
      go_wp2_with (first
        | (go_at_call 52; (with_reducible refine (cc _ hb0).mono ?_); rintro e w1 ⟨rfl, hb1⟩; have hk1 := HS.out _ hb1)
        | (go_at_call 53; (with_reducible refine (cz _ hb1).mono ?_); rintro e w2 ⟨rfl, hb2⟩; have hk2 := HS.out _ hb2)
        | (go_at_call 54; (with_reducible refine (cs _ hb2).mono ?_); rintro e w3 ⟨rfl, hb3⟩; have hk3 := HS.out _ hb3))
      go_ret2
      exact ⟨rfl, HB.out _ hb3⟩
  · have cc := fun w1 hb => check_no_at g hr (w.alloc (.cells #[.int .i64 g.sector, .int .i64 g.slot, .int .i64 g.data, .int .i64 g.quota, .int .i64 g.tries, .int .i64 g.life] 23)) w1 hb
    clear h hn hr
    go_enter Tryz.func30, Tryz.ntmps30
    go_wp2_with (go_at_call 52; (with_reducible refine (cc _ hb0).mono ?_); rintro e w1 ⟨rfl, hb1⟩; have hk1 := HS.out _ hb1)
    go_ret2
    exact ⟨rfl, HB.out _ hb1⟩
theorem new_this {S : Nat → Prop} {b : Nat} {F : Fl} {w : World} (h : FlashAt S b F w) {g : Geo} (ft : Fit F g) :
    Calls Tryz.prog 30 #[.pointer (some ⟨b, 0, none⟩), .agg #[.int .i64 g.sector, .int .i64 g.slot, .int .i64 g.data, .int .i64 g.quota, .int .i64 g.tries, .int .i64 g.life]] w fun e w' => ∃ d, e = .returned (.tuple #[.pointer (some ⟨d, 0, none⟩), .int .i64 0]) ∧ w.heap.size ≤ d ∧ Block w' d 109 [.pointer (some ⟨b, 0, none⟩), .int .i64 g.sector, .int .i64 g.slot, .int .i64 g.data, .int .i64 g.quota, .int .i64 g.tries, .int .i64 g.life] ∧ Below w.heap.size w w' := by
  have HS := hid (six g w)
  have HB := hid (belowNew g w)
  have hb0 : Below (w.alloc (.cells #[.int .i64 g.sector, .int .i64 g.slot, .int .i64 g.data, .int .i64 g.quota, .int .i64 g.tries, .int .i64 g.life] 23)).heap.size (w.alloc (.cells #[.int .i64 g.sector, .int .i64 g.slot, .int .i64 g.data, .int .i64 g.quota, .int .i64 g.tries, .int .i64 g.life] 23)) (w.alloc (.cells #[.int .i64 g.sector, .int .i64 g.slot, .int .i64 g.data, .int .i64 g.quota, .int .i64 g.tries, .int .i64 g.life] 23)) := Below.refl _ _
  have hk0 := HS.out _ hb0
  have cc := fun w1 hb => check_yes_at g ft.right (w.alloc (.cells #[.int .i64 g.sector, .int .i64 g.slot, .int .i64 g.data, .int .i64 g.quota, .int .i64 g.tries, .int .i64 g.life] 23)) w1 hb
  have cz := fun w1 hb => size_from (h.later ((Below.refl _ w).alloc (Nat.le_refl _) (.cells #[.int .i64 g.sector, .int .i64 g.slot, .int .i64 g.data, .int .i64 g.quota, .int .i64 g.tries, .int .i64 g.life] 23))) (w := w1) hb
  have cs := fun w1 hb => sectors_from g (w.alloc (.cells #[.int .i64 g.sector, .int .i64 g.slot, .int .i64 g.data, .int .i64 g.quota, .int .i64 g.tries, .int .i64 g.life] 23)) w1 hb
  rw [ft.n, ft.l] at cz
  clear h ft
  generalize hT : g.sectors = T at *
  clear hT
  go_enter Tryz.func30, Tryz.ntmps30
  go_wp2_with (first
    | (go_at_call 52; (with_reducible refine (cc _ hb0).mono ?_); rintro e w1 ⟨rfl, hb1⟩; have hk1 := HS.out _ hb1)
    | (go_at_call 53; (with_reducible refine (cz _ hb1).mono ?_); rintro e w2 ⟨rfl, hb2⟩; have hk2 := HS.out _ hb2)
    | (go_at_call 54; (with_reducible refine (cs _ hb2).mono ?_); rintro e w3 ⟨rfl, hb3⟩; have hk3 := HS.out _ hb3))
  go_ret2
  have hbw := HB.out _ hb3
  exact ⟨_, rfl, hbw.size, Block.new w3 _ [.pointer (some ⟨b, 0, none⟩), .int .i64 g.sector, .int .i64 g.slot, .int .i64 g.data, .int .i64 g.quota, .int .i64 g.tries, .int .i64 g.life], hbw.trans (((Below.refl _ w3).alloc (Nat.le_refl _) _).mono hbw.size)⟩
end Go.Proofs.YtphifanacehppaaGreat.drive
