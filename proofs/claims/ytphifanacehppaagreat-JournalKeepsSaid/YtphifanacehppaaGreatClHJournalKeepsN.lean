/- Lemmas of the claim HJournalKeeps. Each says its own conditions. -/
import Derived.Test.YtphifanacehppaaGreatCmE
import Derived.Test.YtphifanacehppaaGreatClHJournalKeepsM
/- What a journal's calls leave of its sectors, with whatever fuse: a journal that is opened then says what was said before or what the whole call says. No condition. -/
namespace Go.Proofs.YtphifanacehppaaGreat.journal
open Go.Proofs.YtphifanacehppaaGreat.flash Go.Proofs.YtphifanacehppaaGreat.geom Go.Proofs.YtphifanacehppaaGreat.word
set_option linter.unusedVariables false

theorem torn_no {F : Fl} {g : Geo} (hs : 0 ≤ g.sector) {s a : Nat} (ha : a ≤ g.sector.toNat) (h : ∀ i, a ≤ i → i < g.sector.toNat → (sec F g s).getD i 0 = 4294967295) : tornV F g s a = false := by
  unfold tornV
  rw [drive.ones_yes (fun i hi => ?_)]
  · rfl
  · have := h (a + i) (by omega) (by omega)
    rwa [sec_getD hs (by omega), ← Nat.add_assoc, ← addr_nat g hs] at this
theorem torn_ones {F : Fl} {g : Geo} (hs : 0 ≤ g.sector) {s a : Nat} (h : tornV F g s a = false) {i : Nat} (hi : a ≤ i) (hl : i < g.sector.toNat) : (sec F g s).getD i 0 = 4294967295 := by
  unfold tornV at h
  have h1 : drive.ones F (drive.addr g s a) (g.sector - a).toNat = true := by simpa using h
  have := drive.ones_at h1 (i := i - a) (by omega)
  rw [addr_nat g hs, show s * g.sector.toNat + a + (i - a) = s * g.sector.toNat + i by omega] at this
  rw [sec_getD hs hl]
  exact this
/-- the sector s is the active one -/
def Wins (F : Fl) (g : Geo) (s : Nat) : Prop := (said F g s).seq ≠ 0 ∧ ((said F g (1 - s)).seq < (said F g s).seq ∨ (said F g (1 - s)).seq = (said F g s).seq ∧ s = 0)
theorem open_intro {F : Fl} {g : Geo} {s : Nat} (hs : s ≤ 1) (h : Wins F g s) : openV F g = some ⟨s, said F g s, tornV F g s (said F g s).tail⟩ := by
  obtain ⟨h1, h2⟩ := h
  have : s = 0 ∨ s = 1 := by omega
  rcases this with rfl | rfl
  · have hb : best F g = 0 := by unfold best; rw [if_neg (by simp only [Nat.sub_zero] at h2; omega)]
    unfold openV
    rw [if_neg (by omega), hb]
  · have hb : best F g = 1 := by unfold best; rw [if_pos (by simp only [Nat.sub_self] at h2; omega)]
    unfold openV
    rw [if_neg (by omega), hb]
theorem open_elim {F : Fl} {g : Geo} {J : Jv} (h : openV F g = some J) : J.sector ≤ 1 ∧ Wins F g J.sector ∧ J.p = said F g J.sector ∧ J.torn = tornV F g J.sector J.p.tail := by
  unfold openV at h
  split at h
  · cases h
  · rename_i hn
    cases h
    refine ⟨best_le F g, ?_, rfl, rfl⟩
    show Wins F g (best F g)
    by_cases hlt : (said F g 0).seq < (said F g 1).seq
    · have hb : best F g = 1 := by unfold best; rw [if_pos hlt]
      rw [hb]
      exact ⟨by omega, .inl hlt⟩
    · have hb : best F g = 0 := by unfold best; rw [if_neg hlt]
      rw [hb]
      exact ⟨by omega, by show (said F g 1).seq < _ ∨ (said F g 1).seq = _ ∧ _; omega⟩
structure Inv (F : Fl) (g : Geo) (J : Jv) : Prop where
  fits : Fits F g
  op : openV F g = some J
  good : ∀ s, s ≤ 1 → Good (sec F g s)
theorem Inv.power {F : Fl} {g : Geo} {J : Jv} (h : Inv F g J) : Inv F.power g J := ⟨⟨h.fits.ok.power, h.fits.ft.like ⟨rfl, rfl⟩⟩, h.op, h.good⟩
theorem Inv.arm {F : Fl} {g : Geo} {J : Jv} (h : Inv F g J) {n : Int} {M : List Nat} (hn : n ≤ 9223372036854775807) (hl : M.length ≤ 140737488355328) (hM : ∀ x ∈ M, x < 4294967296) : Inv (F.arm n M) g J :=
  ⟨⟨h.fits.ok.arm hn hl hM, h.fits.ft.like ⟨rfl, rfl⟩⟩, h.op, h.good⟩
theorem Inv.sound {F : Fl} {g : Geo} {J : Jv} (h : Inv F g J) : J.Sound g := openV_sound h.fits.ok (by have := h.fits.bounds; omega) h.op
theorem Inv.seq {F : Fl} {g : Geo} {J : Jv} (h : Inv F g J) : J.p.seq ≠ 0 := by
  obtain ⟨h1, h2, h3, h4⟩ := open_elim h.op
  rw [h3]; exact h2.1
theorem fresh_eq {F : Fl} {g : Geo} (h : Fits F g) (hd : F.dark = false) {s : Nat} {W : List Nat} (hs : s ≤ 1) (hl : W.length ≤ g.sector.toNat) :
    drive.fresh F g s W = if (drive.clean F g s).1 ≠ 0 then drive.clean F g s else drive.write (drive.clean F g s).2 g s 0 W := by
  have hb := bad_in h hd hs (a := 0) (n := W.length) (by omega)
  rw [drive.fresh, if_neg (fun k => k hb)]
theorem getD_ones {n i : Nat} (h : i < n) : (List.replicate n 4294967295).getD i 0 = 4294967295 := by
  rw [List.getD_eq_getElem?_getD, List.getElem?_replicate, if_pos h]; rfl
theorem mem_ones {ws : List Nat} {a : Nat} (h : ∀ i, a ≤ i → i < ws.length → ws.getD i 0 = 4294967295) : ∀ x ∈ ws.drop a, x = 4294967295 := by
  refine mem_of_getD fun j hj => ?_
  rw [List.length_drop] at hj
  rw [getD_drop]
  exact h _ (by omega) (by omega)
theorem zero_add_whole (s : Nat) (L : List Nat) : Part.zero.add 1 s L = ⟨s, L, [], L.length + 3⟩ := by
  unfold Part.add
  rw [if_pos rfl]
  show Part.mk s L [] (0 + (L.length + 3)) = _
  rw [Nat.zero_add]
/-- the words of sector o are those of a first frame, maybe torn; sector s is as it was -/
theorem first_frame {F : Fl} {g : Geo} (h : Fits F g) {o q : Nat} (ho : o ≤ 1) {whole V : List Nat} (hb : loadB whole = true) (hw : ∀ x ∈ whole, x < 4294967296) (h1 : 1 ≤ q) (hq : q ≤ 1073741823)
    (hV : V.length = whole.length + 3) (hVx : ∀ x ∈ V, x < 4294967296) (hsec : sec F g o = patch (List.replicate g.sector.toNat 4294967295) 0 V)
    (hup : ∀ i, i < V.length → le ((frame.words 1 q whole).getD i 0) (V.getD i 0)) :
    Good (sec F g o) ∧ (said F g o = Part.zero ∧ V ≠ frame.words 1 q whole ∨ said F g o = ⟨q, whole, [], whole.length + 3⟩ ∧ V = frame.words 1 q whole ∧ tornV F g o (whole.length + 3) = false) := by
  obtain ⟨b1, b2, b3, b4, b5⟩ := h.bounds
  have hb' := of_decide_eq_true hb
  have hok : frame.okB (((1 : Nat) : Int)) (q : Int) whole.length = true := frame.okB_true.2 ⟨.inl rfl, by omega, by omega, hb'.1, hb'.2⟩
  have hsc : scan g.sector.toNat Part.zero (List.replicate g.sector.toNat 4294967295) = Part.zero := scan_none (readN_ones (.inr (getD_ones (by omega))))
  have L := laid (n := g.sector.toNat) (ws := List.replicate g.sector.toNat 4294967295) (V := V) (T := (List.replicate g.sector.toNat 4294967295).drop V.length) (f := (1, q, whole)) (List.length_replicate ..)
    (fun x hx => by rw [(List.mem_replicate.1 hx).2]; decide) hok hw (by rw [hsc]; rfl) hV hVx hup (by rw [hsc, List.length_drop, List.length_replicate]; show 0 + _ + _ = _; omega)
    (fun x hx => (List.mem_replicate.1 (List.mem_of_mem_drop hx)).2)
  rw [hsc] at L
  have ep : (List.replicate g.sector.toNat 4294967295).take Part.zero.tail ++ V ++ (List.replicate g.sector.toNat 4294967295).drop V.length = patch (List.replicate g.sector.toNat 4294967295) 0 V := by
    unfold patch; rw [Nat.zero_add]; rfl
  rw [ep, ← hsec] at L
  refine ⟨L.1, ?_⟩
  rcases L.2 with ⟨l1, l2⟩ | ⟨l1, l2⟩
  · exact .inl ⟨l1, l2⟩
  · right
    refine ⟨l1.trans (zero_add_whole q whole), l2, torn_no (by omega) (by omega) fun i hi hl => ?_⟩
    rw [hsec, patch_getD (by rw [List.length_replicate]; omega), if_neg (by omega), getD_ones hl]
/-- the journal is turned over -/
theorem turn_inv {F : Fl} {g : Geo} {J : Jv} (h : Inv F g J) (hd : F.dark = false) (hl : J.p.seq < g.life) {whole : List Nat} (hb : loadB whole = true) (hw : ∀ x ∈ whole, x < 4294967296) :
    ((turnV F g J whole).1 = 0 ∧ (turnV F g J whole).2.1.dark = false ∧ (turnV F g J whole).2.2 = turned J whole ∧ Inv (turnV F g J whole).2.1 g (turned J whole) ∨
     (turnV F g J whole).1 = 10 ∧ ∃ J2, Inv (turnV F g J whole).2.1 g J2 ∧ (J2.p = J.p ∨ J2.p = (turned J whole).p)) ∧
    (F.fuse = none → (turnV F g J whole).1 = 0 ∧ (turnV F g J whole).2.1.fuse = none) := by
  obtain ⟨b1, b2, b3, b4, b5⟩ := h.fits.bounds
  obtain ⟨o1, ⟨o2, o3⟩, o4, o5⟩ := open_elim h.op
  have hb' := of_decide_eq_true hb
  obtain ⟨s, p, tn⟩ := J
  simp only at o1 o2 o3 o4 o5 hl
  have hso : 1 - (1 - s) = s := by omega
  have hwl : (frame.words 1 (p.seq + 1) whole).length = whole.length + 3 := frame.words_length _ _ _
  have hWx := frame.words_lt 1 (p.seq + 1) whole (by decide) (by omega) hb'.2 hw
  have fe := fresh_eq (W := frame.words 1 (p.seq + 1) whole) h.fits hd (show 1 - s ≤ 1 by omega) (by omega)
  obtain ⟨c1, c2, c3, c4⟩ := clean_fuse h.fits hd (show 1 - s ≤ 1 by omega)
  rw [hso] at c2
  -- a journal over a flash whose sector s is as it was
  have keep : ∀ G : Fl, Fits G g → sec G g s = sec F g s → Good (sec G g (1 - s)) → (said G g (1 - s)).seq ≤ (said F g (1 - s)).seq → ∃ J2, Inv G g J2 ∧ J2.p = p := fun G k1 k2 k3 k4 => by
    have e : said G g s = said F g s := by unfold said; rw [k2]
    refine ⟨⟨s, said G g s, tornV G g s (said G g s).tail⟩, ⟨k1, open_intro o1 ⟨by rw [e]; exact o2, by rw [e]; omega⟩, fun t ht => ?_⟩, by rw [e]; exact o4.symm⟩
    have : t = s ∨ t = 1 - s := by omega
    rcases this with rfl | rfl
    · rw [k2]; exact h.good _ o1
    · exact k3
  unfold turnV turned
  simp only
  rcases c4 with ⟨z, d, hs1⟩ | ⟨z, hr⟩
  · have fe2 : drive.fresh F g ((1 - s : Nat) : Int) (frame.words 1 (p.seq + 1) whole) = drive.write (drive.clean F g ((1 - s : Nat) : Int)).2 g ((1 - s : Nat) : Int) ((0 : Nat) : Int) (frame.words 1 (p.seq + 1) whole) := by
      rw [fe, if_neg (fun k => k z)]; rfl
    obtain ⟨w1, w2, w3, V, v1, v2, v3, v4⟩ := write_fuse c1 d (show 1 - s ≤ 1 by omega) (a := 0) (W := frame.words 1 (p.seq + 1) whole) (by omega) hWx (fun i hi => by rw [hs1, Nat.zero_add]; exact getD_ones (by omega))
    rw [fe2]
    rw [hso] at w2
    rw [hs1] at v3
    rw [hwl] at v1
    generalize drive.write (drive.clean F g ((1 - s : Nat) : Int)).2 g ((1 - s : Nat) : Int) ((0 : Nat) : Int) (frame.words 1 (p.seq + 1) whole) = R at *
    obtain ⟨e, G⟩ := R
    simp only at w1 w2 w3 v3 v4 ⊢
    have hup : ∀ i, i < V.length → le ((frame.words 1 (p.seq + 1) whole).getD i 0) (V.getD i 0) := fun i hi => by
      rcases v4 with ⟨_, _, v5⟩ | ⟨_, v5⟩
      · rw [v5]; exact le.refl _
      · exact v5 i (by omega)
    obtain ⟨f1, f2⟩ := first_frame w1 (show 1 - s ≤ 1 by omega) hb hw (show 1 ≤ p.seq + 1 by omega) (by omega) v1 v2 v3 hup
    have whole2 : said G g (1 - s) = ⟨p.seq + 1, whole, [], whole.length + 3⟩ → tornV G g (1 - s) (whole.length + 3) = false → Inv G g ⟨1 - s, ⟨p.seq + 1, whole, [], whole.length + 3⟩, false⟩ := fun k1 k2 => by
      have e : said G g s = said F g s := by unfold said; rw [w2, c2]
      have hW : Wins G g (1 - s) := ⟨by rw [k1]; show p.seq + 1 ≠ 0; omega, .inl (by rw [hso, e, k1, ← o4]; show p.seq < p.seq + 1; omega)⟩
      have ho := open_intro (show 1 - s ≤ 1 by omega) hW
      rw [k1] at ho
      simp only at ho
      rw [k2] at ho
      refine ⟨w1, ho, fun t ht => ?_⟩
      have : t = s ∨ t = 1 - s := by omega
      rcases this with rfl | rfl
      · rw [w2, c2]; exact h.good _ o1
      · exact f1
    refine ⟨?_, fun k => ?_⟩
    · rcases v4 with ⟨z2, d2, v5⟩ | ⟨z2, v5⟩
      · left
        subst z2
        simp only [ne_eq, not_true_eq_false, if_false]
        refine ⟨trivial, d2, trivial, ?_⟩
        rcases f2 with ⟨_, k⟩ | ⟨k1, _, k2⟩
        · exact absurd v5 k
        · exact whole2 k1 k2
      · right
        subst z2
        rw [if_pos (by decide)]
        refine ⟨rfl, ?_⟩
        rcases f2 with ⟨k1, _⟩ | ⟨k1, _, k2⟩
        · obtain ⟨J2, i1, i2⟩ := keep G w1 (w2.trans c2) f1 (by rw [k1]; exact Nat.zero_le _)
          exact ⟨J2, i1, .inl i2⟩
        · exact ⟨_, whole2 k1 k2, .inr rfl⟩
    · obtain ⟨k1, k2⟩ := c3 k
      obtain ⟨k3, k4⟩ := w3 k1
      subst k4
      simp only [ne_eq, not_true_eq_false, if_false]
      exact ⟨trivial, k3⟩
  · have fe2 : drive.fresh F g ((1 - s : Nat) : Int) (frame.words 1 (p.seq + 1) whole) = drive.clean F g ((1 - s : Nat) : Int) := by rw [fe, if_pos (by rw [z]; decide)]
    rw [fe2, z, if_pos (by decide)]
    refine ⟨.inr ⟨rfl, ?_⟩, fun k => ?_⟩
    · have hg := h.good (1 - s) (by omega)
      obtain ⟨J2, i1, i2⟩ := keep _ c1 c2 (hg.raised hr) (hg.mono hr (sec_lt h.fits.ok g _) (sec_lt c1.ok g _) _)
      exact ⟨J2, i1, .inl i2⟩
    · have := (c3 k).2
      rw [z] at this
      cases this
/-- a frame is laid at the tail -/
theorem lay_inv {F : Fl} {g : Geo} {J : Jv} (h : Inv F g J) (hd : F.dark = false) (hl : J.p.seq < g.life) {k : Nat} {load : List Nat} (hk : k = 1 ∨ k = 2) (hb : loadB load = true) (hw : ∀ x ∈ load, x < 4294967296) (hf : ¬ full g J load) :
    ((layV F g J k load).1 = 0 ∧ (layV F g J k load).2.1.dark = false ∧ (layV F g J k load).2.2 = ⟨J.sector, J.p.add k (J.p.seq + 1) load, J.torn⟩ ∧ Inv (layV F g J k load).2.1 g ⟨J.sector, J.p.add k (J.p.seq + 1) load, J.torn⟩ ∨
     (layV F g J k load).1 = 10 ∧ ∃ J2, Inv (layV F g J k load).2.1 g J2 ∧ (J2.p = J.p ∨ J2.p = J.p.add k (J.p.seq + 1) load)) ∧
    (F.fuse = none → (layV F g J k load).1 = 0 ∧ (layV F g J k load).2.1.fuse = none) := by
  obtain ⟨b1, b2, b3, b4, b5⟩ := h.fits.bounds
  obtain ⟨o1, ⟨o2, o3⟩, o4, o5⟩ := open_elim h.op
  have hb' := of_decide_eq_true hb
  obtain ⟨s, p, tn⟩ := J
  simp only at o1 o2 o3 o4 o5 hl
  unfold full at hf
  simp only at hf
  have htn : tn = false := by cases tn with
    | true => exact absurd (.inl rfl) hf
    | false => rfl
  subst htn
  have hfit : p.tail + (load.length + 3) ≤ g.sector.toNat := by
    have : ¬ g.sector - p.tail < ((load.length + 3 : Nat) : Int) := fun k => hf (.inr k)
    omega
  have hwl : (frame.words k (p.seq + 1) load).length = load.length + 3 := frame.words_length _ _ _
  have hWx := frame.words_lt k (p.seq + 1) load (by omega) (by omega) hb'.2 hw
  have hones : ∀ i, p.tail ≤ i → i < g.sector.toNat → (sec F g s).getD i 0 = 4294967295 := fun i hi hl => torn_ones (by omega) o5.symm hi hl
  obtain ⟨w1, w2, w3, V, v1, v2, v3, v4⟩ := write_fuse h.fits hd o1 (a := p.tail) (W := frame.words k (p.seq + 1) load) (by omega) hWx (fun i hi => hones _ (by omega) (by omega))
  have hok : frame.okB ((k : Nat) : Int) ((p.seq + 1 : Nat) : Int) load.length = true := frame.okB_true.2 ⟨by omega, by omega, by omega, hb'.1, hb'.2⟩
  have hseq : p.seq ≠ 0 := by rw [o4]; exact o2
  have htk : p.takes k (p.seq + 1) = true := by unfold Part.takes; rw [if_neg hseq]; simp
  unfold layV
  simp only
  generalize drive.write F g s p.tail (frame.words k (p.seq + 1) load) = R at *
  obtain ⟨e, G⟩ := R
  simp only at w1 w2 w3 v3 v4 ⊢
  rw [hwl] at v1
  have hsc : scan g.sector.toNat Part.zero (sec F g s) = p := o4.symm
  have hup : ∀ i, i < V.length → le ((frame.words k (p.seq + 1) load).getD i 0) (V.getD i 0) := fun i hi => by
    rcases v4 with ⟨_, _, v5⟩ | ⟨_, v5⟩
    · rw [v5]; exact le.refl _
    · exact v5 i (by omega)
  have L := laid (n := g.sector.toNat) (ws := sec F g s) (V := V) (T := (sec F g s).drop (p.tail + V.length)) (f := (k, p.seq + 1, load)) (sec_length F g s) (sec_lt h.fits.ok g s) hok hw (by rw [hsc]; exact htk) v1 v2 hup
    (by rw [hsc, List.length_drop, sec_length]; omega) (mem_ones fun i hi hl => hones i (by omega) (by rwa [sec_length] at hl))
  rw [hsc] at L
  have ep : (sec F g s).take p.tail ++ V ++ (sec F g s).drop (p.tail + V.length) = sec G g s := v3.symm
  rw [ep] at L
  have eo : said G g (1 - s) = said F g (1 - s) := by unfold said; rw [w2]
  have hgood : ∀ t, t ≤ 1 → Good (sec G g t) := fun t ht => by
    have : t = s ∨ t = 1 - s := by omega
    rcases this with rfl | rfl
    · exact L.1
    · rw [w2]; exact h.good _ ht
  have whole2 : said G g s = p.add k (p.seq + 1) load → Inv G g ⟨s, p.add k (p.seq + 1) load, false⟩ := fun k1 => by
    have hW : Wins G g s := ⟨by rw [k1, Part.add_seq]; omega, .inl (by rw [eo, k1, Part.add_seq]; rw [← o4] at o3; omega)⟩
    have ho := open_intro o1 hW
    rw [k1] at ho
    have ht : tornV G g s (p.add k (p.seq + 1) load).tail = false := torn_no (by omega) (by rw [Part.add_tail]; omega) fun i hi hl => by
      rw [Part.add_tail] at hi
      rw [v3, patch_getD (by rw [sec_length]; omega), if_neg (by omega)]
      exact hones i (by omega) hl
    rw [ht] at ho
    exact ⟨w1, ho, hgood⟩
  have part2 : said G g s = p → ∃ J2, Inv G g J2 ∧ J2.p = p := fun k1 => by
    have hW : Wins G g s := ⟨by rw [k1]; exact hseq, by rw [eo, k1, o4]; exact o3⟩
    exact ⟨_, ⟨w1, open_intro o1 hW, hgood⟩, k1⟩
  refine ⟨?_, fun k => ?_⟩
  · rcases v4 with ⟨z2, d2, v5⟩ | ⟨z2, v5⟩
    · left
      subst z2
      simp only [ne_eq, not_true_eq_false, if_false]
      refine ⟨trivial, d2, trivial, ?_⟩
      rcases L.2 with ⟨_, k⟩ | ⟨k1, _⟩
      · exact absurd v5 k
      · exact whole2 k1
    · right
      subst z2
      rw [if_pos (by decide)]
      refine ⟨rfl, ?_⟩
      rcases L.2 with ⟨k1, _⟩ | ⟨k1, _⟩
      · obtain ⟨J2, i1, i2⟩ := part2 k1
        exact ⟨J2, i1, .inl i2⟩
      · exact ⟨_, whole2 k1, .inr rfl⟩
  · obtain ⟨k3, k4⟩ := w3 k
    subst k4
    simp only [ne_eq, not_true_eq_false, if_false]
    exact ⟨trivial, k3⟩
/-- what the whole call makes of a journal -/
def doneAdd (g : Geo) (J : Jv) (k : Nat) (load whole : List Nat) : Jv := if g.life ≤ J.p.seq then J else if full g J load then turned J whole else ⟨J.sector, J.p.add k (J.p.seq + 1) load, J.torn⟩
def donePut (g : Geo) (J : Jv) (k : Nat) (load whole : List Nat) : Jv := if loadB load = true ∧ loadB whole = true then doneAdd g J k load whole else J
def doneMend (g : Geo) (J : Jv) (whole : List Nat) : Jv := if loadB whole = false then J else if J.torn = false ∨ g.life ≤ J.p.seq then J else turned J whole
def doneV (g : Geo) (J : Jv) (k : Int) (load whole : List Nat) : Jv :=
  if k = 0 ∨ k = 1 then donePut g J 2 load whole else if k = 2 then donePut g J 1 whole whole else if k = 3 then doneMend g J whole else J
/-- what a call leaves -/
def Leaves (F : Fl) (g : Geo) (J D : Jv) (R : Int × Fl × Jv) : Prop :=
  (R.1 ≠ 10 ∧ R.2.1.dark = false ∧ R.2.2 = D ∧ Inv R.2.1 g D ∨ R.1 = 10 ∧ ∃ J2, Inv R.2.1 g J2 ∧ (J2.p = J.p ∨ J2.p = D.p)) ∧ (F.fuse = none → R.1 ≠ 10 ∧ R.2.1.fuse = none)
theorem leaves_same {F : Fl} {g : Geo} {J : Jv} (h : Inv F g J) (hd : F.dark = false) {z : Int} (hz : z ≠ 10) : Leaves F g J J (z, F, J) := ⟨.inl ⟨hz, hd, rfl, h⟩, fun k => ⟨hz, k⟩⟩
theorem leaves_turn {F : Fl} {g : Geo} {J : Jv} (h : Inv F g J) (hd : F.dark = false) (hl : J.p.seq < g.life) {whole : List Nat} (hb : loadB whole = true) (hw : ∀ x ∈ whole, x < 4294967296) : Leaves F g J (turned J whole) (turnV F g J whole) := by
  obtain ⟨h1, h2⟩ := turn_inv h hd hl hb hw
  refine ⟨?_, fun k => ⟨by rw [(h2 k).1]; decide, (h2 k).2⟩⟩
  rcases h1 with ⟨z, h3⟩ | h3
  · exact .inl ⟨by rw [z]; decide, h3⟩
  · exact .inr h3
theorem leaves_lay {F : Fl} {g : Geo} {J : Jv} (h : Inv F g J) (hd : F.dark = false) (hl : J.p.seq < g.life) {k : Nat} {load : List Nat} (hk : k = 1 ∨ k = 2) (hb : loadB load = true) (hw : ∀ x ∈ load, x < 4294967296) (hf : ¬ full g J load) :
    Leaves F g J ⟨J.sector, J.p.add k (J.p.seq + 1) load, J.torn⟩ (layV F g J k load) := by
  obtain ⟨h1, h2⟩ := lay_inv h hd hl hk hb hw hf
  refine ⟨?_, fun k => ⟨by rw [(h2 k).1]; decide, (h2 k).2⟩⟩
  rcases h1 with ⟨z, h3⟩ | h3
  · exact .inl ⟨by rw [z]; decide, h3⟩
  · exact .inr h3
theorem put_leaves {F : Fl} {g : Geo} {J : Jv} (h : Inv F g J) (hd : F.dark = false) {k : Nat} {load whole : List Nat} (hk : k = 1 ∨ k = 2) (hw : ∀ x ∈ load, x < 4294967296) (hw2 : ∀ x ∈ whole, x < 4294967296) : Leaves F g J (donePut g J k load whole) (putV F g J k load whole) := by
  unfold putV donePut
  split
  · rename_i hb
    unfold addV doneAdd
    split
    · exact leaves_same h hd (by decide)
    · split
      · exact leaves_turn h hd (by omega) hb.2 hw2
      · rename_i hf
        exact leaves_lay h hd (by omega) hk hb.1 hw hf
  · exact leaves_same h hd (by decide)
theorem mend_leaves {F : Fl} {g : Geo} {J : Jv} (h : Inv F g J) (hd : F.dark = false) {whole : List Nat} (hw2 : ∀ x ∈ whole, x < 4294967296) : Leaves F g J (doneMend g J whole) (mendV F g J whole) := by
  unfold mendV doneMend
  split
  · exact leaves_same h hd (by decide)
  · split
    · exact leaves_same h hd (by decide)
    · rename_i hb hf
      exact leaves_turn h hd (by omega) (by simpa using hb) hw2
theorem act_leaves {F : Fl} {g : Geo} {J : Jv} (h : Inv F g J) (hd : F.dark = false) (k : Int) {load whole : List Nat} (hw : ∀ x ∈ load, x < 4294967296) (hw2 : ∀ x ∈ whole, x < 4294967296) : Leaves F g J (doneV g J k load whole) (actV F g J k load whole) := by
  unfold actV doneV
  split
  · exact put_leaves h hd (.inr rfl) hw hw2
  · split
    · exact put_leaves h hd (.inl rfl) hw2 hw2
    · split
      · exact mend_leaves h hd hw2
      · exact leaves_same h hd (by decide)
/-- a new journal -/
theorem new_inv {g : Geo} (hr : g.Right) {whole : List Nat} (hb : loadB whole = true) (hw : ∀ x ∈ whole, x < 4294967296) :
    ∃ F, newV (drive.first g) g whole = (0, F, some ⟨0, ⟨1, whole, [], whole.length + 3⟩, false⟩) ∧ F.dark = false ∧ F.fuse = none ∧ Inv F g ⟨0, ⟨1, whole, [], whole.length + 3⟩, false⟩ := by
  have h0 : Fits (drive.first g) g := ⟨drive.first_ok hr, drive.first_fit hr⟩
  obtain ⟨b1, b2, b3, b4, b5⟩ := h0.bounds
  have hb' := of_decide_eq_true hb
  obtain ⟨c1, c2, c3, c4⟩ := clean_fuse h0 rfl (s := 1) (by decide)
  obtain ⟨c5, c6⟩ := c3 rfl
  have c7 : (drive.clean (drive.first g) g ((1 : Nat) : Int)).2.dark = false ∧ sec (drive.clean (drive.first g) g ((1 : Nat) : Int)).2 g 1 = List.replicate g.sector.toNat 4294967295 := by
    rcases c4 with ⟨_, d, k⟩ | ⟨z, _⟩
    · exact ⟨d, k⟩
    · rw [c6] at z; cases z
  rw [show ((1 : Nat) : Int) = 1 from rfl] at c1 c2 c5 c6 c7
  unfold newV
  rw [if_neg (by rw [hb]; decide), if_neg (fun k => k c6)]
  generalize (drive.clean (drive.first g) g 1).2 = G at *
  obtain ⟨d1, d2, d3, d4⟩ := clean_fuse c1 c7.1 (s := 0) (by decide)
  obtain ⟨d5, d6⟩ := d3 c5
  have d7 : (drive.clean G g ((0 : Nat) : Int)).2.dark = false ∧ sec (drive.clean G g ((0 : Nat) : Int)).2 g 0 = List.replicate g.sector.toNat 4294967295 := by
    rcases d4 with ⟨_, d, k⟩ | ⟨z, _⟩
    · exact ⟨d, k⟩
    · rw [d6] at z; cases z
  have hwl : (frame.words 1 1 whole).length = whole.length + 3 := frame.words_length _ _ _
  have hWx := frame.words_lt 1 1 whole (by decide) (by decide) hb'.2 hw
  have fe := fresh_eq (W := frame.words 1 1 whole) c1 c7.1 (show 0 ≤ 1 by decide) (by omega)
  rw [if_neg (fun k => k d6)] at fe
  obtain ⟨w1, w2, w3, V, v1, v2, v3, v4⟩ := write_fuse d1 d7.1 (show 0 ≤ 1 by decide) (a := 0) (W := frame.words 1 1 whole) (by omega) hWx (fun i hi => by rw [d7.2, Nat.zero_add]; exact getD_ones (by omega))
  obtain ⟨w4, w5⟩ := w3 d5
  have fe2 : drive.fresh G g ((1 - 1 : Nat) : Int) (frame.words 1 (Part.zero.seq + 1) whole) = drive.write (drive.clean G g ((0 : Nat) : Int)).2 g ((0 : Nat) : Int) ((0 : Nat) : Int) (frame.words 1 1 whole) := fe
  have ht : turnV G g ⟨1, Part.zero, false⟩ whole = (0, (drive.write (drive.clean G g ((0 : Nat) : Int)).2 g ((0 : Nat) : Int) ((0 : Nat) : Int) (frame.words 1 1 whole)).2, ⟨0, ⟨1, whole, [], whole.length + 3⟩, false⟩) := by
    unfold turnV turned
    simp only
    rw [fe2, w5]
    rfl
  rw [ht]
  have v5 : (drive.write (drive.clean G g ((0 : Nat) : Int)).2 g ((0 : Nat) : Int) ((0 : Nat) : Int) (frame.words 1 1 whole)).2.dark = false ∧ V = frame.words 1 1 whole := by
    rcases v4 with ⟨_, d, k⟩ | ⟨z, _⟩
    · exact ⟨d, k⟩
    · rw [w5] at z; cases z
  rw [d7.2] at v3
  generalize (drive.write (drive.clean G g ((0 : Nat) : Int)).2 g ((0 : Nat) : Int) ((0 : Nat) : Int) (frame.words 1 1 whole)).2 = H at *
  obtain ⟨f1, f2⟩ := first_frame w1 (show 0 ≤ 1 by decide) hb hw (show 1 ≤ 1 by decide) (by decide) (by omega) v2 v3 (fun i hi => by rw [v5.2]; exact le.refl _)
  have f3 : said H g 0 = ⟨1, whole, [], whole.length + 3⟩ ∧ tornV H g 0 (whole.length + 3) = false := by
    rcases f2 with ⟨_, k⟩ | ⟨k1, _, k2⟩
    · exact absurd v5.2 k
    · exact ⟨k1, k2⟩
  have hs1 : sec H g 1 = List.replicate g.sector.toNat 4294967295 := w2.trans (d2.trans c7.2)
  have hsd : said H g 1 = Part.zero := by unfold said; rw [hs1]; exact scan_none (readN_ones (.inr (getD_ones (by omega))))
  have hW : Wins H g 0 := ⟨by rw [f3.1]; exact Nat.one_ne_zero, .inl (by rw [show 1 - 0 = 1 from rfl, hsd, f3.1]; exact Nat.zero_lt_one)⟩
  have ho := open_intro (show 0 ≤ 1 by decide) hW
  rw [f3.1] at ho
  simp only at ho
  rw [f3.2] at ho
  refine ⟨H, rfl, v5.1, w4, w1, ho, fun t ht => ?_⟩
  have : t = 0 ∨ t = 1 := by omega
  rcases this with rfl | rfl
  · exact f1
  · rw [hs1]; exact .blank _
/-- a journal that is mended is mended -/
theorem mended {F : Fl} {g : Geo} {J : Jv} (h : Inv F g J) : loadB J.p.whole = true ∧ (∀ x ∈ J.p.whole, x < 4294967296) ∧ ((doneMend g J J.p.whole).torn = false ∨ g.life ≤ (doneMend g J J.p.whole).p.seq) := by
  have hs := h.sound.p
  have hw : loadB J.p.whole = true := by
    rcases hs.whole with k | k
    · exact absurd k.1 h.seq
    · exact decide_eq_true k
  refine ⟨hw, hs.words, ?_⟩
  unfold doneMend
  rw [if_neg (by rw [hw]; decide)]
  split
  · assumption
  · exact .inl rfl
end Go.Proofs.YtphifanacehppaaGreat.journal
