/- Contracts and lemmas that the claims of this seat share: JournalLaid, JournalFuse, FlashProgram, FlashErase, FlashClone, FlashArm. Each says its own conditions. -/
import Derived.Test.YtphifanacehppaaGreatCmB
import Derived.Test.YtphifanacehppaaGreatCmD
import Derived.Test.YtphifanacehppaaGreatCmC
import Derived.Deep.WholeRow
/- Frames that were laid into a sector, of which bits went up: what is read of them. Plain lists, no condition. -/
namespace Go.Proofs.YtphifanacehppaaGreat.journal
open Go.Proofs.YtphifanacehppaaGreat.flash Go.Proofs.YtphifanacehppaaGreat.geom Go.Proofs.YtphifanacehppaaGreat.word
set_option linter.unusedVariables false

/-- the bits of a are bits of b -/
def le (a b : Nat) : Prop := a ||| b = b
theorem le.refl (a : Nat) : le a a := Nat.or_self a
theorem le.trans {a b c : Nat} (h : le a b) (k : le b c) : le a c := by unfold le at *; rw [← k, ← Nat.or_assoc, h]
theorem le.anti {a b : Nat} (h : le a b) (k : le b a) : a = b := by unfold le at *; rw [Nat.or_comm] at k; exact k.symm.trans h
theorem le.ones {a : Nat} (h : a < 4294967296) : le a 4294967295 := frame.or_ones a h
theorem le.of_bits {a b : Nat} (h : ∀ i, a.testBit i = true → b.testBit i = true) : le a b := by
  apply Nat.eq_of_testBit_eq
  intro i
  rw [Nat.testBit_or]
  cases ha : a.testBit i with
  | false => simp
  | true => rw [h i ha]; rfl
theorem le.of_clr {a b : Nat} (ha : a < 4294967296) (hb : b < 4294967296) (h : clr a b = 0) : le a b := le.of_bits fun i hi => by
  have := bit_clr a b i ha hb
  rw [h, hi, Nat.zero_testBit] at this
  simpa using this.symm
theorem le.torn {x c m : Nat} (hx : x < 4294967296) (hc : c < 4294967296) (hm : m < 4294967296) (h : clr x c = 0) : le x (clr c (clr m x)) := le.of_bits fun i hi => by
  have h1 := le.of_clr hx hc h
  have h2 : c.testBit i = true := by rw [← h1, Nat.testBit_or, hi]; rfl
  rw [bit_clr c _ i hc (clr_lt m x hm), bit_clr m x i hm hx, h2, hi]
  simp
theorem le.or (a b : Nat) : le a (a ||| b) := by unfold le; rw [← Nat.or_assoc, Nat.or_self]
theorem ext_getD {l m : List Nat} (h : l.length = m.length) (k : ∀ i, i < l.length → l.getD i 0 = m.getD i 0) : l = m := by
  apply List.ext_getElem h
  intro i h1 h2
  have := k i h1
  rwa [List.getD_eq_getElem?_getD, List.getD_eq_getElem?_getD, List.getElem?_eq_getElem h1, List.getElem?_eq_getElem h2] at this
theorem getD_take {l : List Nat} {n i : Nat} (d : Nat) (h : i < n) : (l.take n).getD i d = l.getD i d := by
  simp only [List.getD_eq_getElem?_getD, List.getElem?_take, if_pos h]
theorem getD_drop {l : List Nat} {n i : Nat} (d : Nat) : (l.drop n).getD i d = l.getD (n + i) d := by
  simp only [List.getD_eq_getElem?_getD, List.getElem?_drop]
theorem getD_left {l m : List Nat} {i : Nat} (d : Nat) (h : i < l.length) : (l ++ m).getD i d = l.getD i d := by
  simp only [List.getD_eq_getElem?_getD, List.getElem?_append_left h]
theorem getD_right {l m : List Nat} {i : Nat} (d : Nat) : (l ++ m).getD (l.length + i) d = m.getD i d := by
  simp only [List.getD_eq_getElem?_getD, List.getElem?_append_right (Nat.le_add_right _ _), Nat.add_sub_cancel_left]
/-- words above those of a list, and above ones behind it -/
def Above (b ws : List Nat) : Prop := ∀ i, i < ws.length → le (b.getD i 4294967295) (ws.getD i 0)
def Raised (ws ws' : List Nat) : Prop := ws'.length = ws.length ∧ ∀ i, i < ws.length → le (ws.getD i 0) (ws'.getD i 0)
theorem Raised.refl (ws : List Nat) : Raised ws ws := ⟨rfl, fun i _ => le.refl _⟩
theorem Above.raised {b ws ws' : List Nat} (h : Above b ws) (k : Raised ws ws') : Above b ws' := fun i hi => (h i (by rw [← k.1]; exact hi)).trans (k.2 i (by rw [← k.1]; exact hi))
theorem Above.take {w b ws : List Nat} (h : Above (w ++ b) ws) (hl : w.length ≤ ws.length) : zeros.orL w (ws.take w.length) = ws.take w.length := by
  apply ext_getD
  · rw [zeros.orL_length, List.length_take]; omega
  · intro i hi
    rw [zeros.orL_length] at hi
    rw [zeros.orL_getD _ _ _ hi, getD_take 0 hi]
    have := h i (by omega)
    rw [getD_left _ hi, List.getD_eq_getElem?_getD, List.getElem?_eq_getElem hi] at this
    rw [List.getD_eq_getElem?_getD, List.getElem?_eq_getElem hi]
    exact this
theorem Above.drop {w b ws : List Nat} (h : Above (w ++ b) ws) : Above b (ws.drop w.length) := fun i hi => by
  rw [List.length_drop] at hi
  rw [getD_drop, ← getD_right (l := w)]
  exact h _ (by omega)
theorem Raised.drop {ws ws' : List Nat} (h : Raised ws ws') (n : Nat) : Raised (ws.drop n) (ws'.drop n) := ⟨by rw [List.length_drop, List.length_drop, h.1], fun i hi => by
  rw [List.length_drop] at hi
  rw [getD_drop, getD_drop]
  exact h.2 _ (by omega)⟩
theorem twin_ones (n : Nat) (h : n ≤ 56) : zeros.twinN n ≠ 4294967295 := by
  unfold zeros.twinN; omega
theorem readN_ones {xs : List Nat} (h : xs = [] ∨ xs.getD 0 0 = 4294967295) : frame.readN xs = none := by
  rcases h with rfl | h
  · rfl
  · cases hr : frame.readN xs with
    | none => rfl
    | some f =>
      obtain ⟨k, s, L⟩ := f
      obtain ⟨h1, h2, h3⟩ := frame.readN_some hr
      have h4 : (xs.take (L.length + 3)).getD 0 0 = xs.getD 0 0 := getD_take 0 (by omega)
      rw [h2, h] at h4
      exact absurd h4 (twin_ones L.length (frame.okB_true.1 h1).2.2.2.2)
theorem ones_below {x : Nat} (h : le 4294967295 x) (hx : x < 4294967296) : x = 4294967295 := (h.anti (le.ones hx)).symm
theorem Above.none {ws : List Nat} (h : Above [] ws) (hx : ∀ x ∈ ws, x < 4294967296) : frame.readN ws = none := by
  apply readN_ones
  cases ws with
  | nil => exact .inl rfl
  | cons x l =>
    right
    exact ones_below (h 0 (by simp)) (hx x List.mem_cons_self)
/-- the frames that were laid -/
abbrev Fr := Nat × Nat × List Nat
def flat (fs : List Fr) : List Nat := fs.flatMap fun f => frame.words f.1 f.2.1 f.2.2
def fold (p : Part) (fs : List Fr) : Part := fs.foldl (fun p f => p.add f.1 f.2.1 f.2.2) p
def Chain : Part → List Fr → Prop
  | _, [] => True
  | p, f :: fs => (frame.okB f.1 f.2.1 f.2.2.length = true ∧ ∀ x ∈ f.2.2, x < 4294967296) ∧ p.takes f.1 f.2.1 = true ∧ Chain (p.add f.1 f.2.1 f.2.2) fs
theorem Chain.snoc : ∀ {p : Part} {fs : List Fr} {f : Fr}, Chain p fs → Chain (fold p fs) [f] → Chain p (fs ++ [f])
  | p, [], f, _, h => h
  | p, a :: fs, f, h, k => ⟨h.1, h.2.1, Chain.snoc h.2.2 k⟩
theorem flat_snoc (fs : List Fr) (f : Fr) : flat (fs ++ [f]) = flat fs ++ frame.words f.1 f.2.1 f.2.2 := by simp [flat]
theorem readN_above {f : Fr} {b ws : List Nat} (h : Above (frame.words f.1 f.2.1 f.2.2 ++ b) ws) (hl : f.2.2.length + 3 ≤ ws.length) (hx : ∀ x ∈ ws, x < 4294967296) (ok : frame.okB f.1 f.2.1 f.2.2.length = true) (hL : ∀ x ∈ f.2.2, x < 4294967296) :
    frame.readN ws = if ws.take (f.2.2.length + 3) = frame.words f.1 f.2.1 f.2.2 then some f else none := by
  have hw : (frame.words f.1 f.2.1 f.2.2).length = f.2.2.length + 3 := frame.words_length _ _ _
  have ht := h.take (by omega)
  rw [hw] at ht
  have hu := frame.readN_up f.1 f.2.1 f.2.2 (ws.take (f.2.2.length + 3)) (ws.drop (f.2.2.length + 3)) ok hL fun x h => hx x (List.mem_of_mem_take h)
  rw [ht, List.take_append_drop] at hu
  exact hu
/-- bits that go up only make fewer frames -/
theorem scan_mono : ∀ (fs : List Fr) (n : Nat) (p : Part) (ws ws' : List Nat), Chain p fs → (flat fs).length ≤ ws.length → Above (flat fs) ws → Raised ws ws' → (∀ x ∈ ws, x < 4294967296) → (∀ x ∈ ws', x < 4294967296) → (scan n p ws').seq ≤ (scan n p ws).seq
  | _, 0, p, _, _, _, _, _, _, _, _ => Nat.le_refl _
  | [], n + 1, p, ws, ws', _, _, h, k, _, hx => by
    rw [scan_none ((h.raised k).none hx)]
    exact (scan_seq _ _ _).1
  | f :: fs, n + 1, p, ws, ws', c, hl, h, k, hx, hx' => by
    obtain ⟨⟨ok, hL⟩, ht, c2⟩ := c
    have hw : (frame.words f.1 f.2.1 f.2.2).length = f.2.2.length + 3 := frame.words_length _ _ _
    have e : flat (f :: fs) = frame.words f.1 f.2.1 f.2.2 ++ flat fs := rfl
    rw [e] at hl h
    rw [List.length_append, hw] at hl
    have h' := h.raised k
    have r := readN_above h (by omega) hx ok hL
    have r' := readN_above h' (by rw [k.1]; omega) hx' ok hL
    by_cases hi' : ws'.take (f.2.2.length + 3) = frame.words f.1 f.2.1 f.2.2
    · have hi : ws.take (f.2.2.length + 3) = frame.words f.1 f.2.1 f.2.2 := by
        apply ext_getD
        · rw [hw, List.length_take]; omega
        · intro i hi
          rw [List.length_take] at hi
          have h1 := k.2 i (by omega)
          have h2 := h i (by omega)
          rw [getD_left _ (by omega)] at h2
          have h3 : (ws'.take (f.2.2.length + 3)).getD i 0 = ws'.getD i 0 := getD_take 0 (by omega)
          rw [hi'] at h3
          rw [← h3] at h1
          rw [getD_take 0 (by omega)]
          refine h1.anti ?_
          rw [List.getD_eq_getElem?_getD, List.getElem?_eq_getElem (by omega)] at h2 ⊢
          exact h2
      rw [if_pos hi] at r
      rw [if_pos hi'] at r'
      rw [scan_some r ht, scan_some r' ht]
      have h4 := h.drop
      rw [hw] at h4
      have hl2 : (flat fs).length ≤ (ws.drop (f.2.2.length + 3)).length := by rw [List.length_drop]; omega
      exact scan_mono fs n _ _ _ c2 hl2 h4 (k.drop _) (fun x h => hx x (List.mem_of_mem_drop h)) (fun x h => hx' x (List.mem_of_mem_drop h))
    · rw [if_neg hi'] at r'
      rw [scan_none r']
      exact (scan_seq _ _ _).1
/-- words that begin as those that were scanned are scanned on from there -/
theorem scan_on : ∀ (n : Nat) (p : Part) (ws ws' : List Nat), ws.length ≤ n → ws'.length ≤ n → ws'.take ((scan n p ws).tail - p.tail) = ws.take ((scan n p ws).tail - p.tail) →
    scan n p ws' = scan n (scan n p ws) (ws'.drop ((scan n p ws).tail - p.tail))
  | 0, p, ws, ws', _, _, _ => rfl
  | n + 1, p, ws, ws', h1, h2, h => by
    cases hr : frame.readN ws with
    | none => rw [scan_none hr, Nat.sub_self, List.drop_zero]
    | some f =>
      obtain ⟨k, s, L⟩ := f
      cases ht : p.takes k s with
      | false => rw [scan_stop hr ht, Nat.sub_self, List.drop_zero]
      | true =>
        have hsc := scan_some (n := n) hr ht
        obtain ⟨o1, o2, o3⟩ := frame.readN_some hr
        rw [hsc] at h ⊢
        obtain ⟨i1, i2, i3⟩ := scan_seq n (p.add k s L) (ws.drop (L.length + 3))
        rw [Part.add_tail] at i2
        generalize hR : scan n (p.add k s L) (ws.drop (L.length + 3)) = R at *
        have hc : L.length + 3 ≤ R.tail - p.tail := by omega
        have hw' : ws'.take (L.length + 3) = frame.words k s L := by
          rw [← o2]
          have := congrArg (List.take (L.length + 3)) h
          rwa [List.take_take, List.take_take, Nat.min_eq_left hc] at this
        have hl' : L.length + 3 ≤ ws'.length := by
          have := congrArg List.length hw'
          rw [List.length_take, frame.words_length] at this
          omega
        have hr' : frame.readN ws' = some (k, s, L) := by
          rw [← List.take_append_drop (L.length + 3) ws', hw']
          exact frame.readN_words k s L _ o1
        rw [scan_some hr' ht]
        have ih := scan_on n (p.add k s L) (ws.drop (L.length + 3)) (ws'.drop (L.length + 3)) (by rw [List.length_drop]; omega) (by rw [List.length_drop]; omega) (by
          rw [hR, Part.add_tail]
          have := congrArg (List.drop (L.length + 3)) h
          rw [List.drop_take, List.drop_take] at this
          rwa [show R.tail - (p.tail + (L.length + 3)) = R.tail - p.tail - (L.length + 3) by omega])
        rw [ih, hR, Part.add_tail, List.drop_drop, show L.length + 3 + (R.tail - (p.tail + (L.length + 3))) = R.tail - p.tail by omega]
        exact scan_fuel _ _ _ _ (by rw [List.length_drop]; omega) (by rw [List.length_drop]; omega)
/-- what was scanned were the words of frames -/
theorem scan_flat : ∀ (n : Nat) (p : Part) (ws : List Nat), (∀ x ∈ ws, x < 4294967296) → ∃ fs, Chain p fs ∧ scan n p ws = fold p fs ∧ ws.take ((scan n p ws).tail - p.tail) = flat fs ∧ (flat fs).length = (scan n p ws).tail - p.tail
  | 0, p, ws, _ => ⟨[], trivial, rfl, by show ws.take (p.tail - p.tail) = []; rw [Nat.sub_self]; rfl, by show 0 = p.tail - p.tail; omega⟩
  | n + 1, p, ws, hx => by
    have stop : scan (n + 1) p ws = p → ∃ fs, Chain p fs ∧ scan (n + 1) p ws = fold p fs ∧ ws.take ((scan (n + 1) p ws).tail - p.tail) = flat fs ∧ (flat fs).length = (scan (n + 1) p ws).tail - p.tail := fun h => by
      rw [h]
      exact ⟨[], trivial, rfl, by rw [Nat.sub_self]; rfl, by show 0 = p.tail - p.tail; omega⟩
    cases hr : frame.readN ws with
    | none => exact stop (scan_none hr)
    | some f =>
      obtain ⟨k, s, L⟩ := f
      cases ht : p.takes k s with
      | false => exact stop (scan_stop hr ht)
      | true =>
        have hsc := scan_some (n := n) hr ht
        obtain ⟨o1, o2, o3⟩ := frame.readN_some hr
        obtain ⟨fs, c1, c2, c3, c4⟩ := scan_flat n (p.add k s L) (ws.drop (L.length + 3)) fun x h => hx x (List.mem_of_mem_drop h)
        obtain ⟨i1, i2, i3⟩ := scan_seq n (p.add k s L) (ws.drop (L.length + 3))
        rw [Part.add_tail] at i2 c3 c4
        refine ⟨(k, s, L) :: fs, ⟨⟨o1, readN_load hr hx⟩, ht, c1⟩, ?_, ?_, ?_⟩
        · rw [hsc]; exact c2
        · rw [hsc]
          generalize scan n (p.add k s L) (ws.drop (L.length + 3)) = R at *
          have e : flat ((k, s, L) :: fs) = frame.words k s L ++ flat fs := rfl
          rw [e, ← c3, ← o2]
          have h := List.take_append_drop (L.length + 3) ws
          have h5 := congrArg (List.take (R.tail - p.tail)) h.symm
          rw [h5, List.take_append, List.length_take, Nat.min_eq_left o3, List.take_of_length_le (by rw [List.length_take]; omega), show R.tail - p.tail - (L.length + 3) = R.tail - (p.tail + (L.length + 3)) by omega]
        · rw [hsc]
          have e : flat ((k, s, L) :: fs) = frame.words k s L ++ flat fs := rfl
          rw [e, List.length_append, c4, frame.words_length]
          show L.length + 3 + _ = _
          omega
/-- a sector into which frames were laid -/
def Good (ws : List Nat) : Prop := ∃ fs, Chain Part.zero fs ∧ (flat fs).length ≤ ws.length ∧ Above (flat fs) ws
theorem Good.raised {ws ws' : List Nat} (h : Good ws) (k : Raised ws ws') : Good ws' := by
  obtain ⟨fs, h1, h2, h3⟩ := h
  exact ⟨fs, h1, by rw [k.1]; exact h2, h3.raised k⟩
theorem Good.mono {ws ws' : List Nat} (h : Good ws) (k : Raised ws ws') (hx : ∀ x ∈ ws, x < 4294967296) (hx' : ∀ x ∈ ws', x < 4294967296) (n : Nat) : (scan n Part.zero ws').seq ≤ (scan n Part.zero ws).seq := by
  obtain ⟨fs, h1, h2, h3⟩ := h
  exact scan_mono fs n _ _ _ h1 h2 h3 k hx hx'
theorem Good.blank (n : Nat) : Good (List.replicate n 4294967295) := ⟨[], trivial, Nat.zero_le _, fun i hi => by
  rw [List.length_replicate] at hi
  rw [List.getD_eq_getElem?_getD (l := List.replicate n 4294967295), List.getElem?_replicate, if_pos hi]
  exact le.refl _⟩
/-- a frame that is laid behind the frames that were scanned, into ones, maybe torn -/
theorem laid {n : Nat} {ws V T : List Nat} {f : Fr} (hn : ws.length = n) (hx : ∀ x ∈ ws, x < 4294967296) (ok : frame.okB f.1 f.2.1 f.2.2.length = true) (hL : ∀ x ∈ f.2.2, x < 4294967296) (ht : (scan n Part.zero ws).takes f.1 f.2.1 = true)
    (hV : V.length = f.2.2.length + 3) (hVx : ∀ x ∈ V, x < 4294967296) (hup : ∀ i, i < V.length → le ((frame.words f.1 f.2.1 f.2.2).getD i 0) (V.getD i 0)) (hT : (scan n Part.zero ws).tail + V.length + T.length = n) (hones : ∀ x ∈ T, x = 4294967295) :
    Good (ws.take (scan n Part.zero ws).tail ++ V ++ T) ∧
    (scan n Part.zero (ws.take (scan n Part.zero ws).tail ++ V ++ T) = scan n Part.zero ws ∧ V ≠ frame.words f.1 f.2.1 f.2.2 ∨
     scan n Part.zero (ws.take (scan n Part.zero ws).tail ++ V ++ T) = (scan n Part.zero ws).add f.1 f.2.1 f.2.2 ∧ V = frame.words f.1 f.2.1 f.2.2) := by
  obtain ⟨fs, c1, c2, c3, c4⟩ := scan_flat n Part.zero ws hx
  have on := scan_on n Part.zero ws (ws.take (scan n Part.zero ws).tail ++ V ++ T)
  have hz : Part.zero.tail = 0 := rfl
  have hw : (frame.words f.1 f.2.1 f.2.2).length = f.2.2.length + 3 := frame.words_length _ _ _
  rw [hz, Nat.sub_zero] at on c3 c4
  generalize hR : scan n Part.zero ws = R at *
  have hl : (ws.take R.tail).length = R.tail := by rw [List.length_take]; omega
  have e1 : (ws.take R.tail ++ V ++ T).take R.tail = ws.take R.tail := by rw [List.append_assoc, List.take_append_of_le_length (by omega), List.take_of_length_le (by omega)]
  have e2 : (ws.take R.tail ++ V ++ T).drop R.tail = V ++ T := by
    rw [List.append_assoc]
    have := List.drop_left (l₁ := ws.take R.tail) (l₂ := V ++ T)
    rwa [hl] at this
  have hlen : (ws.take R.tail ++ V ++ T).length = n := by simp only [List.length_append, hl]; omega
  have on2 := on (by omega) (by omega) e1
  rw [e2] at on2
  have ab : Above (frame.words f.1 f.2.1 f.2.2 ++ []) (V ++ T) := fun i hi => by
    rw [List.length_append] at hi
    by_cases h : i < V.length
    · rw [getD_left _ (by omega), getD_left _ h]
      have := hup i h
      rw [List.getD_eq_getElem?_getD, List.getElem?_eq_getElem (by omega)] at this ⊢
      exact this
    · have h1 : i = V.length + (i - V.length) := by omega
      rw [h1, getD_right]
      have h2 : V.length + (i - V.length) = (frame.words f.1 f.2.1 f.2.2).length + (i - V.length) := by omega
      rw [h2, getD_right]
      rw [List.getD_eq_getElem?_getD (l := T), List.getElem?_eq_getElem (by omega)]
      rw [Option.getD_some]
      rw [hones _ (List.getElem_mem _)]
      exact le.refl _
  have hvt : ∀ x ∈ V ++ T, x < 4294967296 := fun x h => by
    rcases List.mem_append.1 h with h | h
    · exact hVx x h
    · rw [hones x h]; decide
  refine ⟨⟨fs ++ [f], c1.snoc ?_, ?_, ?_⟩, ?_⟩
  · rw [← c2]; exact ⟨⟨ok, hL⟩, ht, trivial⟩
  · rw [flat_snoc, List.length_append, c4, hw, hlen]; omega
  · rw [flat_snoc, ← c3, List.append_assoc]
    intro i hi
    by_cases h : i < R.tail
    · rw [getD_left _ (by omega), getD_left _ (by omega)]
      rw [List.getD_eq_getElem?_getD, List.getD_eq_getElem?_getD, List.getElem?_eq_getElem (by omega)]
      exact le.refl _
    · have h1 : i = (ws.take R.tail).length + (i - R.tail) := by omega
      rw [h1, getD_right, getD_right]
      have := ab (i - R.tail) (by rw [List.length_append] at hi; omega)
      rwa [List.append_nil] at this
  · rw [on2]
    have r := readN_above ab (by rw [List.length_append]; omega) hvt ok hL
    have ev : (V ++ T).take (f.2.2.length + 3) = V := by rw [List.take_append_of_le_length (by omega), List.take_of_length_le (by omega)]
    rw [ev] at r
    by_cases hv : V = frame.words f.1 f.2.1 f.2.2
    · right
      rw [if_pos hv] at r
      refine ⟨?_, hv⟩
      obtain ⟨m, rfl⟩ : ∃ m, n = m + 1 := ⟨n - 1, by omega⟩
      rw [scan_some r ht, ← hV]
      have := List.drop_left (l₁ := V) (l₂ := T)
      rw [this]
      refine scan_none (readN_ones ?_)
      cases T with
      | nil => exact .inl rfl
      | cons x l => exact .inr (hones x List.mem_cons_self)
    · left
      rw [if_neg hv] at r
      exact ⟨scan_none r, hv⟩
end Go.Proofs.YtphifanacehppaaGreat.journal
/- What a drive's Write, Clean and Fresh leave of a sector, with whatever fuse. No condition. -/
namespace Go.Proofs.YtphifanacehppaaGreat.journal
open Go.Proofs.YtphifanacehppaaGreat.flash Go.Proofs.YtphifanacehppaaGreat.geom Go.Proofs.YtphifanacehppaaGreat.word
set_option linter.unusedVariables false

/-- words programmed, maybe torn -/
theorem prog_fuse : ∀ (W : List Nat) (F : Fl) (a : Nat), F.Ok → F.dark = false → drive.fits F a W → a + W.length ≤ F.ws.length → (∀ x ∈ W, x < 4294967296) →
    (∀ j, ¬ (a ≤ j ∧ j < a + W.length) → (drive.prog F a W).2.ws.getD j 0 = F.ws.getD j 0) ∧ (F.fuse = none → (drive.prog F a W).2.fuse = none ∧ (drive.prog F a W).1 = 0) ∧
    (((drive.prog F a W).1 = 0 ∧ (drive.prog F a W).2.dark = false ∧ ∀ i, i < W.length → (drive.prog F a W).2.ws.getD (a + i) 0 = W.getD i 0) ∨
     ((drive.prog F a W).1 = 10 ∧ ∀ i, i < W.length → le (W.getD i 0) ((drive.prog F a W).2.ws.getD (a + i) 0)))
  | [], F, a, ok, hd, _, _, _ => ⟨fun _ _ => rfl, fun h => ⟨h, rfl⟩, .inl ⟨rfl, hd, fun i hi => by simp at hi⟩⟩
  | x :: l, F, a, ok, hd, hf, hl, hW => by
    have h0 := hf 0 (by simp)
    have hx := hW x List.mem_cons_self
    have hW2 : ∀ y ∈ l, y < 4294967296 := fun y hy => hW y (List.mem_cons_of_mem _ hy)
    simp only [List.getD_cons_zero, Nat.add_zero] at h0
    simp only [List.length_cons] at hl
    have hcur : F.ws.getD a 0 < 4294967296 := getD_lt ok.w (by decide) a
    have hfit : ∀ G : Fl, (∀ j, a + 1 ≤ j → G.ws.getD j 0 = F.ws.getD j 0) → drive.fits G (a + 1) l := fun G hG i hi => by
      have := hf (i + 1) (by simpa using hi)
      rw [List.getD_cons_succ] at this
      rw [hG _ (by omega), show a + 1 + i = a + (i + 1) by omega]
      exact this
    have glue : ∀ (G H : Fl) (z : Int), G.ws.getD a 0 = x → (∀ j, j ≠ a → G.ws.getD j 0 = F.ws.getD j 0) →
        (∀ j, ¬ (a + 1 ≤ j ∧ j < a + 1 + l.length) → H.ws.getD j 0 = G.ws.getD j 0) →
        ((z = 0 ∧ H.dark = false ∧ ∀ i, i < l.length → H.ws.getD (a + 1 + i) 0 = l.getD i 0) ∨ (z = 10 ∧ ∀ i, i < l.length → le (l.getD i 0) (H.ws.getD (a + 1 + i) 0))) →
        (∀ j, ¬ (a ≤ j ∧ j < a + (x :: l).length) → H.ws.getD j 0 = F.ws.getD j 0) ∧
        ((z = 0 ∧ H.dark = false ∧ ∀ i, i < (x :: l).length → H.ws.getD (a + i) 0 = (x :: l).getD i 0) ∨ (z = 10 ∧ ∀ i, i < (x :: l).length → le ((x :: l).getD i 0) (H.ws.getD (a + i) 0))) := fun G H z g1 g2 g3 g4 => by
      have ha : H.ws.getD a 0 = x := by rw [g3 a (by omega), g1]
      refine ⟨fun j hj => ?_, ?_⟩
      · simp only [List.length_cons] at hj
        rw [g3 j (by omega), g2 j (by omega)]
      · rcases g4 with ⟨z0, d0, k0⟩ | ⟨z0, k0⟩
        · refine .inl ⟨z0, d0, fun i hi => ?_⟩
          cases i with
          | zero => rw [Nat.add_zero, ha]; rfl
          | succ i =>
            simp only [List.length_cons] at hi
            rw [List.getD_cons_succ, ← k0 i (by omega), show a + 1 + i = a + (i + 1) by omega]
        · refine .inr ⟨z0, fun i hi => ?_⟩
          cases i with
          | zero => rw [Nat.add_zero, ha]; exact le.refl _
          | succ i =>
            simp only [List.length_cons] at hi
            have := k0 i (by omega)
            rwa [show a + 1 + i = a + (i + 1) by omega] at this
    rw [drive.prog]
    split
    · rename_i he
      obtain ⟨r1, r2, r3⟩ := prog_fuse l F (a + 1) ok hd (hfit F fun _ _ => rfl) (by omega) hW2
      obtain ⟨s1, s2⟩ := glue F _ _ he (fun _ _ => rfl) r1 r3
      exact ⟨s1, r2, s2⟩
    · cases ht : tears F.fuse with
      | some M =>
        have hp : F.program a x = (10, F.tore (F.ws.set a (clr (F.ws.getD a 0) (clr (maskAt M 0) x))) F.worn) := by
          rw [Fl.program, if_neg (by rw [hd]; decide), if_neg (by omega), Int.toNat_natCast, if_neg (by rw [h0]; decide), ht]
        rw [hp]
        simp only [ne_eq, show ((10 : Int) ≠ 0) from by decide, not_false_eq_true, if_true]
        have hne : ∀ j, j ≠ a → (F.tore (F.ws.set a (clr (F.ws.getD a 0) (clr (maskAt M 0) x))) F.worn).ws.getD j 0 = F.ws.getD j 0 := fun j hj => drive.set_getD hj
        have hat : (F.tore (F.ws.set a (clr (F.ws.getD a 0) (clr (maskAt M 0) x))) F.worn).ws.getD a 0 = clr (F.ws.getD a 0) (clr (maskAt M 0) x) := drive.set_get (by omega)
        refine ⟨fun j hj => hne j (by simp only [List.length_cons] at hj; omega), fun h => ?_, .inr ⟨by first | rfl | trivial, fun i hi => ?_⟩⟩
        · rw [h] at ht; cases ht
        · cases i with
          | zero =>
            rw [Nat.add_zero, hat]
            have hm : maskAt M 0 < 4294967296 := maskAt_lt M 0 (by
              cases hfu : F.fuse with
              | none => rw [hfu] at ht; cases ht
              | some q =>
                obtain ⟨n, M'⟩ := q
                rw [hfu] at ht
                have hM : M' = M := by
                  cases n with
                  | zero => exact Option.some.inj ht
                  | succ n => cases ht
                subst hM
                exact (ok.m n M' hfu).2.2)
            exact le.torn hx hcur hm h0
          | succ i =>
            rw [hne _ (by omega)]
            have := hf (i + 1) hi
            exact le.of_clr (getD_lt hW (by decide) _) (getD_lt ok.w (by decide) _) this
      | none =>
        have hp : F.program a x = (0, F.wrote (F.ws.set a x) F.worn) := by
          rw [Fl.program, if_neg (by rw [hd]; decide), if_neg (by omega), Int.toNat_natCast, if_neg (by rw [h0]; decide), ht]
        rw [hp]
        simp only [ne_eq, not_true_eq_false, if_false]
        have hne : ∀ j, j ≠ a → (F.wrote (F.ws.set a x) F.worn).ws.getD j 0 = F.ws.getD j 0 := fun j hj => drive.set_getD hj
        have hok : (F.wrote (F.ws.set a x) F.worn).Ok := by
          have := ok.program a hx
          rw [hp] at this
          exact this
        obtain ⟨r1, r2, r3⟩ := prog_fuse l (F.wrote (F.ws.set a x) F.worn) (a + 1) hok hd (hfit _ fun j hj => hne j (by omega)) (by show a + 1 + l.length ≤ (F.ws.set a x).length; rw [List.length_set]; omega) hW2
        obtain ⟨s1, s2⟩ := glue _ _ _ (drive.set_get (by omega)) hne r1 r3
        refine ⟨s1, fun h => r2 ?_, s2⟩
        show burnt F.fuse = none
        rw [h]; rfl
/-- where the two sectors lie -/
theorem addr_nat (g : Geo) (hs : 0 ≤ g.sector) (s a : Nat) : drive.addr g s a = s * g.sector.toNat + a := by
  unfold drive.addr
  obtain ⟨n, hn⟩ := Int.eq_ofNat_of_zero_le hs
  rw [hn, Int.toNat_natCast]
  have e : (s : Int) * (n : Int) + (a : Int) = ((s * n + a : Nat) : Int) := by simp
  rw [e, Int.toNat_natCast]
theorem sec_getD {F : Fl} {g : Geo} (hs : 0 ≤ g.sector) {s i : Nat} (hi : i < g.sector.toNat) : (sec F g s).getD i 0 = F.ws.getD (s * g.sector.toNat + i) 0 := by
  unfold sec
  have := addr_nat g hs s 0
  rw [drive.span_getD _ _ _ _ hi, show drive.addr g s 0 = s * g.sector.toNat from this]
/-- sectors whose words are the same -/
theorem sec_same {F G : Fl} {g : Geo} (hs : 0 ≤ g.sector) {s : Nat} (h : ∀ i, i < g.sector.toNat → G.ws.getD (s * g.sector.toNat + i) 0 = F.ws.getD (s * g.sector.toNat + i) 0) : sec G g s = sec F g s := by
  apply ext_getD
  · rw [sec_length, sec_length]
  · intro i hi
    rw [sec_length] at hi
    rw [sec_getD hs hi, sec_getD hs hi, h i hi]
/-- what is needed of a flash and its geometry -/
structure Fits (F : Fl) (g : Geo) : Prop where
  ok : F.Ok
  ft : drive.Fit F g
theorem Fits.bounds {F : Fl} {g : Geo} (h : Fits F g) : 64 ≤ g.sector ∧ g.sector ≤ 1024 ∧ 2 * g.sector.toNat ≤ F.ws.length ∧ 11 ≤ g.sectors ∧ g.life ≤ 1073741823 := by
  have hr := h.ft.right
  have hs : g.sectors = 2 + 2 * g.slot + g.data := by unfold Geo.sectors; rw [if_pos hr]
  have hn := h.ft.n
  have hl := h.ft.l
  have hw := h.ok.n
  unfold Geo.Right at hr
  have h1 : g.sector.toNat = F.long := by omega
  have h2 : 2 * F.long ≤ F.worn.length * F.long := Nat.mul_le_mul_right _ (by omega)
  rw [h1]
  exact ⟨by omega, by omega, by omega, by omega, by omega⟩
theorem bad_in {F : Fl} {g : Geo} (h : Fits F g) (hd : F.dark = false) {s a n : Nat} (hs : s ≤ 1) (ha : a + n ≤ g.sector.toNat) : drive.bad F g s a n = 0 := by
  have hb := h.bounds
  unfold drive.bad
  rw [if_pos (by omega), hd]; rfl
/-- a list of which a part is another's -/
def patch (ws : List Nat) (a : Nat) (V : List Nat) : List Nat := ws.take a ++ V ++ ws.drop (a + V.length)
theorem patch_length {ws V : List Nat} {a : Nat} (h : a + V.length ≤ ws.length) : (patch ws a V).length = ws.length := by
  unfold patch
  simp only [List.length_append, List.length_take, List.length_drop]; omega
theorem patch_getD {ws V : List Nat} {a : Nat} (h : a + V.length ≤ ws.length) (i : Nat) : (patch ws a V).getD i 0 = if a ≤ i ∧ i < a + V.length then V.getD (i - a) 0 else ws.getD i 0 := by
  unfold patch
  have hl : (ws.take a).length = a := by rw [List.length_take]; omega
  by_cases h1 : i < a
  · rw [if_neg (by omega), List.append_assoc, getD_left _ (by omega), getD_take 0 h1]
  · have e : i = (ws.take a).length + (i - a) := by omega
    rw [List.append_assoc, e, getD_right, hl, Nat.add_sub_cancel_left]
    by_cases h2 : i - a < V.length
    · rw [if_pos (by omega), getD_left _ h2]
    · have e2 : i - a = V.length + (i - a - V.length) := by omega
      rw [if_neg (by omega), e2, getD_right, getD_drop, show a + V.length + (i - a - V.length) = a + (V.length + (i - a - V.length)) by omega]
/-- what a Write into ones leaves -/
theorem write_fuse {F : Fl} {g : Geo} (h : Fits F g) (hd : F.dark = false) {s a : Nat} {W : List Nat} (hs : s ≤ 1) (ha : a + W.length ≤ g.sector.toNat) (hW : ∀ x ∈ W, x < 4294967296) (h1 : ∀ i, i < W.length → (sec F g s).getD (a + i) 0 = 4294967295) :
    Fits (drive.write F g s a W).2 g ∧ sec (drive.write F g s a W).2 g (1 - s) = sec F g (1 - s) ∧ (F.fuse = none → (drive.write F g s a W).2.fuse = none ∧ (drive.write F g s a W).1 = 0) ∧
    ∃ V, V.length = W.length ∧ (∀ x ∈ V, x < 4294967296) ∧ sec (drive.write F g s a W).2 g s = patch (sec F g s) a V ∧
      (((drive.write F g s a W).1 = 0 ∧ (drive.write F g s a W).2.dark = false ∧ V = W) ∨ ((drive.write F g s a W).1 = 10 ∧ ∀ i, i < W.length → le (W.getD i 0) (V.getD i 0))) := by
  obtain ⟨b1, b2, b3, b4, b5⟩ := h.bounds
  have st := drive.write_step h.ok g s a hW
  have hF' : Fits (drive.write F g s a W).2 g := ⟨st.ok, h.ft.like st.like⟩
  have hadr : drive.addr g s a = s * g.sector.toNat + a := addr_nat g (by omega) s a
  have hsl : s * g.sector.toNat + g.sector.toNat ≤ F.ws.length := by
    have : s = 0 ∨ s = 1 := by omega
    rcases this with rfl | rfl <;> omega
  have hfit : drive.fits F (drive.addr g s a) W := fun i hi => by
    have := h1 i hi
    rw [sec_getD (by omega) (by omega)] at this
    rw [hadr, show s * g.sector.toNat + a + i = s * g.sector.toNat + (a + i) by omega, this]
    exact clr_blank _
  have e : drive.write F g s a W = drive.prog F (s * g.sector.toNat + a) W := by
    rw [drive.write, if_neg (fun k => k (bad_in h hd hs ha)), if_neg (fun k => k hfit), hadr]
  rw [hadr] at hfit
  obtain ⟨p1, p2, p3⟩ := prog_fuse W F (s * g.sector.toNat + a) h.ok hd hfit (by omega) hW
  rw [e] at hF' ⊢
  refine ⟨hF', sec_same (by omega) fun i hi => p1 _ ?_, p2, (List.range W.length).map (fun i => (drive.prog F (s * g.sector.toNat + a) W).2.ws.getD (s * g.sector.toNat + a + i) 0), by simp, ?_, ?_, ?_⟩
  · have : s = 0 ∨ s = 1 := by omega
    rcases this with rfl | rfl <;> simp <;> omega
  · intro x hx
    obtain ⟨i, _, rfl⟩ := List.mem_map.1 hx
    exact getD_lt hF'.ok.w (by decide) _
  · apply ext_getD
    · rw [patch_length (by rw [sec_length]; simpa using ha), sec_length, sec_length]
    · intro i hi
      rw [sec_length] at hi
      rw [patch_getD (by rw [sec_length]; simpa using ha), sec_getD (by omega) hi]
      simp only [List.length_map, List.length_range]
      by_cases hc : a ≤ i ∧ i < a + W.length
      · rw [if_pos hc, List.getD_eq_getElem?_getD (l := List.map _ _), List.getElem?_map, List.getElem?_range (by omega)]
        show _ = (drive.prog F (s * g.sector.toNat + a) W).2.ws.getD (s * g.sector.toNat + a + (i - a)) 0
        rw [show s * g.sector.toNat + a + (i - a) = s * g.sector.toNat + i by omega]
      · rw [if_neg hc, sec_getD (by omega) hi]
        exact p1 _ (by omega)
  · have hg : ∀ i, i < W.length → ((List.range W.length).map (fun i => (drive.prog F (s * g.sector.toNat + a) W).2.ws.getD (s * g.sector.toNat + a + i) 0)).getD i 0 = (drive.prog F (s * g.sector.toNat + a) W).2.ws.getD (s * g.sector.toNat + a + i) 0 := fun i hi => by
      rw [List.getD_eq_getElem?_getD (l := List.map _ _), List.getElem?_map, List.getElem?_range hi]; rfl
    rcases p3 with ⟨z, d, k⟩ | ⟨z, k⟩
    · refine .inl ⟨z, d, ext_getD (by simp) fun i hi => ?_⟩
      simp only [List.length_map, List.length_range] at hi
      rw [hg i hi, k i hi]
    · refine .inr ⟨z, fun i hi => ?_⟩
      rw [hg i hi]
      exact k i hi
/-- what a Clean leaves -/
theorem clean_fuse {F : Fl} {g : Geo} (h : Fits F g) (hd : F.dark = false) {s : Nat} (hs : s ≤ 1) :
    Fits (drive.clean F g s).2 g ∧ sec (drive.clean F g s).2 g (1 - s) = sec F g (1 - s) ∧ (F.fuse = none → (drive.clean F g s).2.fuse = none ∧ (drive.clean F g s).1 = 0) ∧
      (((drive.clean F g s).1 = 0 ∧ (drive.clean F g s).2.dark = false ∧ sec (drive.clean F g s).2 g s = List.replicate g.sector.toNat 4294967295) ∨
       ((drive.clean F g s).1 = 10 ∧ Raised (sec F g s) (sec (drive.clean F g s).2 g s))) := by
  obtain ⟨b1, b2, b3, b4, b5⟩ := h.bounds
  have st := drive.clean_step h.ok g s
  have hF' : Fits (drive.clean F g s).2 g := ⟨st.ok, h.ft.like st.like⟩
  have hb : drive.bad F g s 0 (g.sector - 0) = 0 := by
    unfold drive.bad
    rw [if_pos (by omega), hd]; rfl
  have ha : drive.addr g s 0 = s * g.sector.toNat := by
    have := addr_nat g (by omega) s 0
    rwa [Nat.add_zero] at this
  have hL : F.long = g.sector.toNat := by have := h.ft.l; omega
  have hsl : s * g.sector.toNat + g.sector.toNat ≤ F.ws.length := by
    have : s = 0 ∨ s = 1 := by omega
    rcases this with rfl | rfl <;> omega
  have eb : drive.blankAt F g s 0 = (drive.ones F (s * g.sector.toNat) g.sector.toNat, 0) := by rw [drive.blankAt, if_neg (fun k => k hb), Int.sub_zero, ha]
  have hoth : ∀ (f : Nat → Nat → Nat) i, i < g.sector.toNat → (run f (s * g.sector.toNat) g.sector.toNat F.ws).getD ((1 - s) * g.sector.toNat + i) 0 = F.ws.getD ((1 - s) * g.sector.toNat + i) 0 := fun f i hi => by
    rw [run_getD f _ _ _ _ hsl, if_neg]
    have : s = 0 ∨ s = 1 := by omega
    rcases this with rfl | rfl <;> simp <;> omega
  have hown : ∀ (f : Nat → Nat → Nat) i, i < g.sector.toNat → (run f (s * g.sector.toNat) g.sector.toNat F.ws).getD (s * g.sector.toNat + i) 0 = f i (F.ws.getD (s * g.sector.toNat + i) 0) := fun f i hi => by
    rw [run_getD f _ _ _ _ hsl, if_pos (by omega), Nat.add_sub_cancel_left]
  cases ho : drive.ones F (s * g.sector.toNat) g.sector.toNat with
  | true =>
    have e : drive.clean F g s = (0, F) := by rw [drive.clean, eb, ho, if_pos (.inr rfl)]
    rw [e] at hF' ⊢
    refine ⟨hF', rfl, fun k => ⟨k, rfl⟩, .inl ⟨rfl, hd, ?_⟩⟩
    apply ext_getD
    · rw [sec_length, List.length_replicate]
    · intro i hi
      rw [sec_length] at hi
      rw [sec_getD (by omega) hi, drive.ones_at ho hi, List.getD_eq_getElem?_getD, List.getElem?_replicate, if_pos hi]; rfl
  | false =>
    have e0 : drive.clean F g s = F.erase s := by rw [drive.clean, eb, ho, if_neg (by simp)]
    have hk : ¬ ((s : Int) < 0 ∨ (F.worn.length : Int) ≤ s) := by have := h.ft.n; omega
    cases ht : tears F.fuse with
    | some M =>
      have e : drive.clean F g s = (10, F.tore (run (tornWord M) (s * g.sector.toNat) g.sector.toNat F.ws) (F.worn1 s)) := by
        rw [e0, Fl.erase, if_neg (by rw [hd]; decide), if_neg hk, Int.toNat_natCast, ht, hL]
      rw [e] at hF' ⊢
      refine ⟨hF', sec_same (by omega) (hoth _), fun k => ?_, .inr ⟨rfl, by rw [sec_length, sec_length], fun i hi => ?_⟩⟩
      · rw [k] at ht; cases ht
      · rw [sec_length] at hi
        rw [sec_getD (by omega) hi, sec_getD (by omega) hi]
        have := hown (tornWord M) i hi
        show le _ ((run (tornWord M) (s * g.sector.toNat) g.sector.toNat F.ws).getD (s * g.sector.toNat + i) 0)
        rw [this]
        exact le.or _ _
    | none =>
      have e : drive.clean F g s = (0, F.wrote (run flash.blank (s * g.sector.toNat) g.sector.toNat F.ws) (F.worn1 s)) := by
        rw [e0, Fl.erase, if_neg (by rw [hd]; decide), if_neg hk, Int.toNat_natCast, ht, hL]
      rw [e] at hF' ⊢
      refine ⟨hF', sec_same (by omega) (hoth _), fun k => ⟨by show burnt F.fuse = none; rw [k]; rfl, rfl⟩, .inl ⟨rfl, hd, ?_⟩⟩
      apply ext_getD
      · rw [sec_length, List.length_replicate]
      · intro i hi
        rw [sec_length] at hi
        rw [sec_getD (by omega) hi, List.getD_eq_getElem?_getD (l := List.replicate _ _), List.getElem?_replicate, if_pos hi]
        exact hown flash.blank i hi
end Go.Proofs.YtphifanacehppaaGreat.journal
/- Contract of Program of layer 7 (flash), for every argument. No condition. -/
namespace Go.Proofs.YtphifanacehppaaGreat.flash
open Go.RowKit Go.Proofs.YtphifanacehppaaGreat.word
set_option linter.unusedVariables false

theorem program_nil (a : Int) (x : Nat) (w : World) : Calls Tryz.prog 97 #[.pointer none, .int .i64 a, .int .u32 x] w (Quiet (.int .i64 1) w) := by
  go_enter Tryz.func97, Tryz.ntmps97
  go_wp2_with (go_at_call 67; (with_reducible refine (read_nil _ _).mono ?_); rintro e w' ⟨rfl, m, rfl⟩)
  go_ret
  exact ⟨rfl, _, rfl⟩
theorem At.drewN {S : Nat → Prop} {b : Nat} {F : Fl} {ca cb cm : Value} {bw cw bv cv : Nat} {w : World} (h : At S b F ca cb cm bw cw bv cv w) (n : Nat) : At S b F ca cb cm bw cw bv cv (w.drewN n) := h.later (below_drewN (Below.refl _ _) n)
/-- Program, where Read answers an error -/
theorem program_err {S : Nat → Prop} {b : Nat} {F : Fl} {ca cb cm : Value} {bw cw bv cv : Nat} {w : World} (h : At S b F ca cb cm bw cw bv cv w) (a : Int) (x : Nat) (z : Int) (hz : z = 3 ∨ z = 10)
    (hr : Calls Tryz.prog 67 #[.pointer (some ⟨b, 0, none⟩), .int .i64 a] w (Quiet (.tuple #[.int .u32 0, .int .i64 z]) w)) :
    Calls Tryz.prog 97 #[.pointer (some ⟨b, 0, none⟩), .int .i64 a, .int .u32 x] w (Turned S b F bw cw bv cv (.int .i64 z) w) := by
  have H := hid h
  clear h
  rcases hz with rfl | rfl
  all_goals
    go_enter Tryz.func97, Tryz.ntmps97
    go_wp2_with (go_at_call 67; (with_reducible refine hr.mono ?_); rintro e w' ⟨rfl, m, rfl⟩)
    go_ret
    exact ⟨rfl, _, _, _, H.out.drewN _, (Only.refl _ _).drewN _⟩
theorem program_any {S : Nat → Prop} {b : Nat} {F : Fl} {ca cb cm : Value} {bw cw bv cv : Nat} {w : World} (h : At S b F ca cb cm bw cw bv cv w) (ok : F.Ok) (hcount : F.count < 4611686018427387904) (a : Int) (x : Nat) (hx : x < 4294967296) :
    Calls Tryz.prog 97 #[.pointer (some ⟨b, 0, none⟩), .int .i64 a, .int .u32 x] w (Turned S b (F.program a x).2 bw cw bv cv (.int .i64 (F.program a x).1) w) := by
  have hr := read_any h ok a
  by_cases hd : F.dark = true
  · have e1 : F.read a = (0, 10) := by rw [Fl.read, if_pos hd]
    have e2 : F.program a x = (10, F) := by rw [Fl.program, if_pos hd]
    rw [e1] at hr
    rw [e2]
    exact program_err h a x 10 (.inr rfl) hr
  by_cases h0 : a < 0 ∨ (F.ws.length : Int) ≤ a
  · have e1 : F.read a = (0, 3) := by rw [Fl.read, if_neg hd, if_pos h0]
    have e2 : F.program a x = (3, F) := by rw [Fl.program, if_neg hd, if_pos h0]
    rw [e1] at hr
    rw [e2]
    exact program_err h a x 3 (.inl rfl) hr
  obtain ⟨k, rfl⟩ := Int.eq_ofNat_of_zero_le (show 0 ≤ a by omega)
  have hk : k < F.ws.length := by omega
  have e1 : F.read k = (F.ws.getD k 0, 0) := by rw [Fl.read, if_neg hd, if_neg h0, Int.toNat_natCast]
  rw [e1] at hr
  have hu : F.ws.getD k 0 < 4294967296 := getD_lt ok.w (by decide) k
  have hwi := fun w' => within_any x (F.ws.getD k 0) hx hu w'
  have HK : Hid ((k : Int) < F.ws.length) := hid (by omega)
  by_cases hcl : clr x (F.ws.getD k 0) ≠ 0
  · have e2 : F.program k x = (11, F) := by rw [Fl.program, if_neg hd, if_neg h0, Int.toNat_natCast, if_pos hcl]
    rw [e2]
    have hq : (clr x (F.ws.getD k 0) == 0) = false := by simpa using hcl
    rw [hq] at hwi
    have H := hid h
    clear h ok e1 e2 hcl h0 hd hq
    generalize F.ws.getD k 0 = u at *
    go_enter Tryz.func97, Tryz.ntmps97
    go_wp2_with (first
      | (go_at_call 67; (with_reducible refine hr.mono ?_); rintro e w' ⟨rfl, m, rfl⟩)
      | (go_at_call 115; (with_reducible refine (hwi _).mono ?_); rintro e w' ⟨rfl, m2, rfl⟩))
    go_ret
    exact ⟨rfl, _, _, _, (H.out.drewN _), (Only.refl _ _).drewN _⟩
  have hcl' : clr x (F.ws.getD k 0) = 0 := by simpa using hcl
  rw [hcl'] at hwi
  have hq : ((0 : Nat) == 0) = true := rfl
  rw [hq] at hwi
  obtain ⟨_, _, _, _, _, _, c6, _⟩ := h.cell
  have f6 := h.blk.frozen 6
  have hcnt : ∀ m, At S b { F with count := F.count + 1 } ca cb cm bw cw bv cv ((w.drewN m).setCell ⟨b, 6, none⟩ (.int .i64 ((F.count : Int) + 1))) := fun m => (h.drewN m).counted (F.count + 1)
  have hO6 : ∀ m, Only (at3 b bw bv) w ((w.drewN m).setCell ⟨b, 6, none⟩ (.int .i64 ((F.count : Int) + 1))) := fun m => ((Only.refl _ w).drewN _).setCell (.inl (.inl rfl)) _ _
  have HC := hid hcnt
  have HO6 := hid hO6
  have ok1 : Fl.Ok { F with count := F.count + 1 } := ⟨ok.l1, ok.l2, ok.s1, ok.s2, ok.n, ok.w, fun x hx => by have := ok.c x hx; show x ≤ F.count + 1; omega, ok.m⟩
  have HK1 := hid ok1
  have HOK := hid ok
  have H := hid h
  cases ht : tears F.fuse with
  | some M =>
    have e2 : F.program k x = (10, F.tore (F.ws.set k (clr (F.ws.getD k 0) (clr (maskAt M 0) x))) F.worn) := by rw [Fl.program, if_neg hd, if_neg h0, Int.toNat_natCast, if_neg hcl, ht]
    rw [e2]
    obtain ⟨hfu, hM⟩ := F.tears_m ok ht
    have HT : Hid ({ F with count := F.count + 1 }.fuse = some (0, M)) := hfu
    have HM := hid hM
    have hml := maskAt_lt M 0 hM
    have hto := fun w' => torn_any (F.ws.getD k 0) x (maskAt M 0) hu hx hml w'
    have HL := hid ok.l1
    have HL2 := hid ok.l2
    have hn := ok.ws_le
    have hte : ∀ m, Calls Tryz.prog 100 #[.pointer (some ⟨b, 0, none⟩)] ((w.drewN m).setCell ⟨b, 6, none⟩ (.int .i64 ((F.count : Int) + 1))) (Quiet (.bool true) ((w.drewN m).setCell ⟨b, 6, none⟩ (.int .i64 ((F.count : Int) + 1)))) := fun m => tears_yes (hcnt m) M hfu
    have hma : ∀ w', MasksAt S (at3 b bw bv) F.long M cm w' → w'.cell? ⟨b, 2, none⟩ = some cm → Calls Tryz.prog 102 #[.pointer (some ⟨b, 0, none⟩), .int .i64 0] w' (Quiet (.int .u32 (maskAt M 0 : Nat)) w') := fun w' hm hc => mask_any hm hc 0 ok.l1 ok.l2 hM
    clear h ok e1 e2 hcl hcl' h0 hd hq hfu hM ht hcnt hO6 ok1
    generalize hv : clr (F.ws.getD k 0) (clr (maskAt M 0) x) = v at *
    have HV := hid hv
    clear hv
    generalize hu' : F.ws.getD k 0 = u at *
    have HU := hid hu'
    clear hu'
    generalize hm' : maskAt M 0 = m0 at *
    have HM0 := hid hm'
    clear hm'
    go_enter Tryz.func97, Tryz.ntmps97
    go_wp2_with (first
      | (go_at_call 67; (with_reducible refine hr.mono ?_); clear hr; rintro e w' ⟨rfl, m, rfl⟩)
      | (go_at_call 115; (with_reducible refine (hwi _).mono ?_); rintro e w' ⟨rfl, m2, rfl⟩)
      | (go_at_call 100; (with_reducible refine (hte _).mono ?_); rintro e w' ⟨rfl, m3, rfl⟩))
    have hA := (HC.out (m + m2)).drewN m3
    have hO := (HO6.out (m + m2)).drewN m3
    obtain ⟨w4, hw4⟩ : ∃ x, Hid (((w.drewN (m + m2)).setCell ⟨b, 6, none⟩ (.int .i64 ((F.count : Int) + 1))).drewN m3 = x) := ⟨_, rfl⟩
    rw [hw4.out] at hA hO ⊢
    have d2 : w4.cell? ⟨b, 2, none⟩ = some cm := hA.cell.2.2.1
    have d3 : w4.cell? ⟨b, 3, none⟩ = some (.slice (some ⟨bw, 0, none⟩) F.ws.length cw) := hA.cell.2.2.2.1
    have fu := hA.fuse
    rw [HT.out] at fu
    have hma' := fun n => hma (w4.drewN n) (fu.2.2.only ((Only.refl (fun _ => False) w4).drewN n) (fun _ h _ => h.elim)) d2
    have hk : k < F.ws.length := by have := HK.out; omega
    have i1 := HK.out
    have HA := hid hA
    have HO := hid hO
    have hcell : w4.cell? ⟨bw, k, none⟩ = some (.int .u32 (u : Int)) := by rw [hA.ws.get hk]; exact congrArg (fun x : Nat => some (Value.int .u32 (x : Int))) HU.out
    have hfz := hA.ws.frozen k
    clear hma HT fu hA hO
    refine tail.region 12 (by kernel_rfl) (by kernel_rfl) ?_
    simp only [List.take_succ_cons, List.take_zero, List.drop_succ_cons, List.drop_zero]
    repeat (go_big_quiet_step (first
      | (go_at_call 102; (with_reducible exact quietAt (hma' _)))
      | (go_at_call 116; (with_reducible exact quietAt (hto _)))))
    refine wpQuiet_nil ?_
    rintro _ ⟨nq, rfl⟩
    have hfa := fail_any ((HA.out.drewN nq).word hk v)
    go_wp2_with (go_at_call 103; (with_reducible refine hfa.mono ?_); rintro e w' ⟨rfl, ca', cb', cm', hA', hO'⟩)
    go_ret
    exact ⟨rfl, ca', cb', cm', hA', ((HO.out.drewN nq).setCell (.inl (.inr (.inl rfl))) _ _).trans hO'⟩
  | none =>
    have e2 : F.program k x = (0, F.wrote (F.ws.set k x) F.worn) := by rw [Fl.program, if_neg hd, if_neg h0, Int.toNat_natCast, if_neg hcl, ht]
    rw [e2]
    have hn := ok.ws_le
    have hte : ∀ m, Calls Tryz.prog 100 #[.pointer (some ⟨b, 0, none⟩)] ((w.drewN m).setCell ⟨b, 6, none⟩ (.int .i64 ((F.count : Int) + 1))) (Turned S b { F with count := F.count + 1, fuse := burnt F.fuse } bw cw bv cv (.bool false) ((w.drewN m).setCell ⟨b, 6, none⟩ (.int .i64 ((F.count : Int) + 1)))) := fun m => tears_no (hcnt m) ok1 ht
    clear h ok e1 e2 hcl hcl' h0 hd hq ht hcnt hO6 ok1
    generalize hu' : F.ws.getD k 0 = u at *
    have HU := hid hu'
    clear hu'
    go_enter Tryz.func97, Tryz.ntmps97
    go_wp2_with (first
      | (go_at_call 67; (with_reducible refine hr.mono ?_); clear hr; rintro e w' ⟨rfl, m, rfl⟩)
      | (go_at_call 115; (with_reducible refine (hwi _).mono ?_); rintro e w' ⟨rfl, m2, rfl⟩)
      | (go_at_call 100; (with_reducible refine (hte _).mono ?_); rintro e w4 ⟨rfl, ca', cb', cm', hA, hO⟩;
          have d3 : w4.cell? ⟨b, 3, none⟩ = some (.slice (some ⟨bw, 0, none⟩) F.ws.length cw) := hA.cell.2.2.2.1;
          have hk : k < F.ws.length := (by have := HK.out; omega);
          have hcell : w4.cell? ⟨bw, k, none⟩ = some (.int .u32 (u : Int)) := (by rw [hA.ws.get hk]; exact congrArg (fun x : Nat => some (Value.int .u32 (x : Int))) HU.out);
          have hfz := hA.ws.frozen k; have i1 := HK.out; have HA := hid hA; have HO := hid ((HO6.out (m + m2)).trans hO); clear hA hO))
    go_ret
    exact ⟨rfl, ca', cb', cm', HA.out.word hk x, HO.out.setCell (.inl (.inr (.inl rfl))) _ _⟩
end Go.Proofs.YtphifanacehppaaGreat.flash
/- Contract of Erase of layer 7 (flash), for every argument. No condition. -/
namespace Go.Proofs.YtphifanacehppaaGreat.flash
open Go.RowKit Go.Proofs.YtphifanacehppaaGreat.word
set_option linter.unusedVariables false

theorem erase_nil (a : Int) (w : World) : Calls Tryz.prog 78 #[.pointer none, .int .i64 a] w (Quiet (.int .i64 1) w) := by
  go_enter Tryz.func78, Tryz.ntmps78
  go_wp2_with (go_at_call 91; (with_reducible refine (ready_nil _).mono ?_); rintro e w' ⟨rfl, m, rfl⟩)
  go_ret
  exact ⟨rfl, _, rfl⟩
set_option maxHeartbeats 16000000 in
theorem erase_any {S : Nat → Prop} {b : Nat} {F : Fl} {ca cb cm : Value} {bw cw bv cv : Nat} {w : World} (h : At S b F ca cb cm bw cw bv cv w) (ok : F.Ok) (hcount : F.count < 4611686018427387904) (s : Int) :
    Calls Tryz.prog 78 #[.pointer (some ⟨b, 0, none⟩), .int .i64 s] w (Turned S b (F.erase s).2 bw cw bv cv (.int .i64 (F.erase s).1) w) := by
  obtain ⟨_, _, _, c3, c4, c5, c6, c7⟩ := h.cell
  have hr := ready_any b F.dark w c7
  by_cases hd : F.dark = true
  · have e2 : F.erase s = (10, F) := by rw [Fl.erase, if_pos hd]
    rw [e2]
    rw [if_pos hd] at hr
    have H := hid h
    clear h ok e2 c3 c4 c5 c6 c7 hd
    go_enter Tryz.func78, Tryz.ntmps78
    go_wp2_with (go_at_call 91; (with_reducible refine hr.mono ?_); rintro e w' ⟨rfl, m, rfl⟩)
    go_ret
    exact ⟨rfl, _, _, _, H.out.drewN _, (Only.refl _ _).drewN _⟩
  rw [if_neg hd] at hr
  have hs2 := ok.s2
  by_cases h0 : s < 0
  · have e2 : F.erase s = (3, F) := by rw [Fl.erase, if_neg hd, if_pos (.inl h0)]
    rw [e2]
    have H := hid h
    clear h ok e2 c7 hd
    go_enter Tryz.func78, Tryz.ntmps78
    go_wp2_with (go_at_call 91; (with_reducible refine hr.mono ?_); rintro e w' ⟨rfl, m, rfl⟩)
    go_ret
    exact ⟨rfl, _, _, _, H.out.drewN _, (Only.refl _ _).drewN _⟩
  by_cases h1 : (F.worn.length : Int) ≤ s
  · have e2 : F.erase s = (3, F) := by rw [Fl.erase, if_neg hd, if_pos (.inr h1)]
    rw [e2]
    have H := hid h
    clear h ok e2 c7 hd
    go_enter Tryz.func78, Tryz.ntmps78
    go_wp2_with (go_at_call 91; (with_reducible refine hr.mono ?_); rintro e w' ⟨rfl, m, rfl⟩)
    go_ret
    exact ⟨rfl, _, _, _, H.out.drewN _, (Only.refl _ _).drewN _⟩
  obtain ⟨k, rfl⟩ := Int.eq_ofNat_of_zero_le (show 0 ≤ s by omega)
  have hk : k < F.worn.length := by omega
  have HK := hid hk
  have i1 : (k : Int) < F.worn.length := by omega
  have f6 := h.blk.frozen 6
  have hwv := h.wn.get hk
  have hu : F.worn.getD k 0 ≤ F.count := by
    have := getD_lt (B := F.count + 1) (fun x hx => by have := ok.c x hx; omega) (by omega) (l := F.worn) k
    omega
  have hsec := ok.sector hk
  have HW : Hid (∀ m, At S b { F with worn := F.worn1 k, count := F.count + 1 } ca cb cm bw cw bv cv (((w.drewN m).setCell ⟨b, 6, none⟩ (.int .i64 ((F.count : Int) + 1))).setCell ⟨bv, k, none⟩ (.int .i64 ((F.worn.getD k 0 : Nat) + 1)))) :=
    hid fun m => ((h.drewN m).counted (F.count + 1)).wear hk (F.worn.getD k 0 + 1)
  have HO : Hid (∀ m, Only (at3 b bw bv) w (((w.drewN m).setCell ⟨b, 6, none⟩ (.int .i64 ((F.count : Int) + 1))).setCell ⟨bv, k, none⟩ (.int .i64 ((F.worn.getD k 0 : Nat) + 1)))) :=
    hid fun m => (((Only.refl _ w).drewN _).setCell (.inl (.inl rfl)) _ _).setCell (.inl (.inr (.inr rfl))) _ _
  have ok1 : Hid (Fl.Ok { F with worn := F.worn1 k, count := F.count + 1 }) := hid ⟨ok.l1, ok.l2, by rw [Fl.worn1_length]; exact ok.s1, by rw [Fl.worn1_length]; exact ok.s2, by rw [Fl.worn1_length]; exact ok.n, ok.w, Fl.worn1_le ok k, ok.m⟩
  have n2 : ¬ (bv = b) := fun e => h.n2 e.symm
  have f2 : w.frozen? ⟨bv, k, none⟩ = false := h.wn.frozen k
  have HOK := hid ok
  have hl1 := ok.l1
  have hl2 := ok.l2
  have hwl := ok.ws_le
  have ec : F.erase k = (match tears F.fuse with
      | some M => (10, F.tore (run (tornWord M) (k * F.long) F.long F.ws) (F.worn1 k))
      | none => (0, F.wrote (run blank (k * F.long) F.long F.ws) (F.worn1 k))) := by
    rw [Fl.erase, if_neg hd, if_neg (by omega)]
    cases tears F.fuse <;> rfl
  rw [ec]
  have hpl : (k : Int) * (F.long : Int) = ((k * F.long : Nat) : Int) := by simp
  have hql : ((k : Int) + 1) * (F.long : Int) = ((k * F.long + F.long : Nat) : Int) := by rw [Int.add_mul]; simp
  have hcw : F.ws.length ≤ cw := by obtain ⟨pad, _, h, _⟩ := h.ws; exact h
  generalize hP : k * F.long = p at *
  generalize hQ : p + F.long = q at *
  have hpq : p < q := by omega
  have e3 : q - p = F.long := by omega
  clear h ok c7 hd ec h0
  generalize F.worn.getD k 0 = u at *
  have HH := hid hQ
  clear hQ
  cases ht : tears F.fuse with
  | none =>
    go_enter Tryz.func78, Tryz.ntmps78
    go_wp2_with (go_at_call 91; (with_reducible refine hr.mono ?_); clear hr; rintro e w' ⟨rfl, m, rfl⟩)
    have hA := HW.out m
    have hO := HO.out m
    obtain ⟨w4, hw4⟩ : ∃ x, Hid (((w.drewN m).setCell ⟨b, 6, none⟩ (.int .i64 ((F.count : Int) + 1))).setCell ⟨bv, k, none⟩ (.int .i64 ((u : Int) + 1)) = x) := ⟨_, rfl⟩
    rw [hw4.out] at hA hO ⊢
    have d3 : w4.cell? ⟨b, 3, none⟩ = some (.slice (some ⟨bw, 0, none⟩) F.ws.length cw) := hA.cell.2.2.2.1
    have d4 : w4.cell? ⟨b, 4, none⟩ = some (.int .i64 (F.long : Int)) := hA.cell.2.2.2.2.1
    have hte : ∀ n, Calls Tryz.prog 100 #[.pointer (some ⟨b, 0, none⟩)] (w4.drewN n) (Turned S b { F with worn := F.worn1 k, count := F.count + 1, fuse := burnt F.fuse } bw cw bv cv (.bool false) (w4.drewN n)) := fun n => tears_no (hA.drewN n) ok1.out ht
    have HA := hid hA
    have HO4 := hid hO
    have hq1 : (p : Int) ≤ q := by omega
    have hq2 : (q : Int) ≤ cw := by omega
    have hq3 : ¬ (cw = p) := by omega
    clear hA hO ht HW HO ok1 c3 c4 c5 c6 hwv f6 f2 hcount hu hw4 i1
    go_quiet (fail)
    go_wp2_with (go_at_call 100; (with_reducible refine (hte _).mono ?_); rintro e w5 ⟨rfl, ca', cb', cm', hA, hO⟩)
    have HA5 : Hid (At S b (F.wrote (run blank p 0 F.ws) (F.worn1 k)) ca' cb' cm' bw cw bv cv w5) := hid hA
    have HO5 := hid ((HO4.out.drewN nq).trans hO)
    clear hA hO hte HA HO4 d3 d4
    go_loopw [86] (fun i wr => ∃ j : Nat, j ≤ F.long ∧ i = .int .i64 (j : Int) ∧ Hid (At S b (F.wrote (run blank p j F.ws) (F.worn1 k)) ca' cb' cm' bw cw bv cv wr) ∧ Hid (Only (at3 b bw bv) w wr)) (fun i _ => F.long - (intOf i).toNat)
    case atStart => exact ⟨0, Nat.zero_le _, rfl, HA5, HO5⟩
    case round =>
      obtain ⟨j, hj, rfl, hA, hO⟩ := hrel
      by_cases hlt : j < F.long
      · have hpj : p + j < (F.wrote (run blank p j F.ws) (F.worn1 k)).ws.length := by
          show p + j < (run blank p j F.ws).length
          rw [run_length]; have := HH.out; omega
        have hcell := hA.out.ws.get hpj
        generalize (F.wrote (run blank p j F.ws) (F.worn1 k)).ws.getD (p + j) 0 = z at hcell
        have hfz := hA.out.ws.frozen (p + j)
        have i1 : (j : Int) < F.long := by omega
        go_wp2
        exact ⟨⟨j + 1, by omega, by go_num, hid (hA.out.word hpj 4294967295), hid (hO.out.setCell (.inl (.inr (.inl rfl))) _ _)⟩, by simp [intOf]; omega⟩
      · obtain rfl : j = F.long := by omega
        go_wp2
        go_ret
        exact ⟨rfl, ca', cb', cm', hA.out, hO.out⟩
  | some M =>
    obtain ⟨hfu, hM⟩ := F.tears_m HOK.out ht
    go_enter Tryz.func78, Tryz.ntmps78
    go_wp2_with (go_at_call 91; (with_reducible refine hr.mono ?_); clear hr; rintro e w' ⟨rfl, m, rfl⟩)
    have hA := HW.out m
    have hO := HO.out m
    obtain ⟨w4, hw4⟩ : ∃ x, Hid (((w.drewN m).setCell ⟨b, 6, none⟩ (.int .i64 ((F.count : Int) + 1))).setCell ⟨bv, k, none⟩ (.int .i64 ((u : Int) + 1)) = x) := ⟨_, rfl⟩
    rw [hw4.out] at hA hO ⊢
    have d3 : w4.cell? ⟨b, 3, none⟩ = some (.slice (some ⟨bw, 0, none⟩) F.ws.length cw) := hA.cell.2.2.2.1
    have d4 : w4.cell? ⟨b, 4, none⟩ = some (.int .i64 (F.long : Int)) := hA.cell.2.2.2.2.1
    have hte : ∀ n, Calls Tryz.prog 100 #[.pointer (some ⟨b, 0, none⟩)] (w4.drewN n) (Quiet (.bool true) (w4.drewN n)) := fun n => tears_yes (hA.drewN n) M hfu
    have HA := hid hA
    have HO4 := hid hO
    have HM := hid hM
    have HFU := hid hfu
    have hq1 : (p : Int) ≤ q := by omega
    have hq2 : (q : Int) ≤ cw := by omega
    have hq3 : ¬ (cw = p) := by omega
    clear hA hO ht HW HO ok1 c3 c4 c5 c6 hwv f6 f2 hcount hu hw4 i1 hM hfu
    go_quiet (fail)
    go_wp2_with (go_at_call 100; (with_reducible refine (hte _).mono ?_); rintro e w5 ⟨rfl, n2, rfl⟩)
    have HA5 : Hid (At S b { F with worn := F.worn1 k, count := F.count + 1, ws := run (tornWord M) p 0 F.ws } ca cb cm bw cw bv cv (w4.drewN (nq + n2))) := hid (HA.out.drewN _)
    have HO5 := hid (HO4.out.drewN (nq + n2))
    clear hte HA HO4 d3 d4
    go_loopw [66] (fun i wr => ∃ j : Nat, j ≤ F.long ∧ i = .int .i64 (j : Int) ∧ Hid (At S b { F with worn := F.worn1 k, count := F.count + 1, ws := run (tornWord M) p j F.ws } ca cb cm bw cw bv cv wr) ∧ Hid (Only (at3 b bw bv) w wr)) (fun i _ => F.long - (intOf i).toNat)
    case atStart => exact ⟨0, Nat.zero_le _, rfl, HA5, HO5⟩
    case round =>
      obtain ⟨j, hj, rfl, hA, hO⟩ := hrel
      by_cases hlt : j < F.long
      · have hpj : p + j < (run (tornWord M) p j F.ws).length := by
          rw [run_length]; have := HH.out; omega
        have hcell := hA.out.ws.get hpj
        have hz : (run (tornWord M) p j F.ws).getD (p + j) 0 = F.ws.getD (p + j) 0 := by
          rw [run_getD _ _ _ _ _ (by have := HH.out; omega), if_neg (by omega)]
        rw [hz] at hcell
        have hzl : F.ws.getD (p + j) 0 < 4294967296 := getD_lt HOK.out.w (by decide) _
        have hml := maskAt_lt M j HM.out
        have hra := fun w' => raised_any (F.ws.getD (p + j) 0) (maskAt M j) hzl hml w'
        have hx : run (tornWord M) p (j + 1) F.ws = (run (tornWord M) p j F.ws).set (p + j) (F.ws.getD (p + j) 0 ||| maskAt M j) := rfl
        have HX := hid hx
        have d2 : wr.cell? ⟨b, 2, none⟩ = some cm := hA.out.cell.2.2.1
        have fu := hA.out.fuse
        rw [show Fl.fuse { F with worn := F.worn1 k, count := F.count + 1, ws := run (tornWord M) p j F.ws } = some (0, M) from HFU.out] at fu
        have hma := mask_any (b := b) (i := j) fu.2.2 d2 hlt hl2 HM.out
        clear hx hz fu
        generalize (F.ws.getD (p + j) 0 ||| maskAt M j) = y at *
        generalize maskAt M j = y2 at *
        generalize F.ws.getD (p + j) 0 = z at *
        have hfz := hA.out.ws.frozen (p + j)
        have i1 : (j : Int) < F.long := by omega
        go_wp2_with (first
          | (go_at_call 102; (with_reducible refine hma.mono ?_); rintro e w' ⟨rfl, n3, rfl⟩)
          | (go_at_call 101; (with_reducible refine (hra _).mono ?_); rintro e w' ⟨rfl, n4, rfl⟩))
        refine ⟨⟨j + 1, by omega, by go_num, ?_, hid ((hO.out.drewN _).setCell (.inl (.inr (.inl rfl))) _ _)⟩, by simp [intOf]; omega⟩
        rw [HX.out]
        exact hid ((hA.out.drewN _).word hpj y)
      · obtain rfl : j = F.long := by omega
        have hfa := fail_any hA.out
        go_wp2_with (go_at_call 103; (with_reducible refine hfa.mono ?_); rintro e w' ⟨rfl, ca', cb', cm', hA', hO'⟩)
        go_ret
        exact ⟨rfl, ca', cb', cm', hA', hO.out.trans hO'⟩
end Go.Proofs.YtphifanacehppaaGreat.flash
/- Contract of Words of layer 7 (flash). No condition. -/
namespace Go.Proofs.YtphifanacehppaaGreat.flash
open Go.RowKit Go.Proofs.YtphifanacehppaaGreat.word
set_option linter.unusedVariables false

theorem words_nil (w : World) : Calls Tryz.prog 36 #[.pointer none] w (Quiet (.slice none 0 0) w) := by
  go_enter Tryz.func36, Tryz.ntmps36
  go_wp2
  go_ret
  exact ⟨rfl, 0, rfl⟩
theorem words_any {S : Nat → Prop} {b : Nat} {F : Fl} {ca cb cm : Value} {bw cw bv cv : Nat} {w : World} (h : At S b F ca cb cm bw cw bv cv w) (ok : F.Ok) :
    Calls Tryz.prog 36 #[.pointer (some ⟨b, 0, none⟩)] w fun e w' => ∃ g cap, e = .returned (.slice (some ⟨g, 0, none⟩) F.ws.length cap) ∧ w.heap.size ≤ g ∧ Row w' 43 .u32 g cap F.ws ∧ Below w.heap.size w w' := by
  have c3 : w.cell? ⟨b, 3, none⟩ = some (.slice (some ⟨bw, 0, none⟩) F.ws.length cw) := h.cell.2.2.2.1
  have hc := u32_clone (some ⟨bw, 0, none⟩) F.ws.length cw F.ws w h.ws.reads (by have := ok.ws_le; omega)
  have HP := hid ok.ws_pos
  clear h ok
  go_enter Tryz.func36, Tryz.ntmps36
  go_wp2_with (go_at_call 42; (with_reducible refine hc.mono ?_); clear hc; rintro e w1 ⟨v, rfl, ho, hb, _⟩)
  go_ret
  obtain ⟨g, cap, rfl, hg, hr⟩ := Row.own ho HP.out
  exact ⟨g, cap, rfl, hg, hr, hb⟩
end Go.Proofs.YtphifanacehppaaGreat.flash
/- Contracts of Arm and Copy of layer 7 (flash), for every argument. No condition but masks of at most 2^47 bytes. -/
namespace Go.Proofs.YtphifanacehppaaGreat.flash
open Go.RowKit Go.Proofs.YtphifanacehppaaGreat.word
set_option linter.unusedVariables false

theorem reads_prefix {k : IntKind} {w : World} {a : Option Addr} {len m : Nat} {xs : List Nat} (h : Reads k w a len xs) (hm : m ≤ len) : Reads k w a m (xs.take m) := by
  refine ⟨by rw [List.length_take, h.1]; omega, ?_⟩
  rcases h.2 with h0 | ⟨b, off, ha, hlt, hc⟩
  · exact .inl (by omega)
  · refine .inr ⟨b, off, ha, hlt, fun i hi => ?_⟩
    rw [hc i (by omega)]
    simp [List.getD, hi]
/-- S, and what is new since w -/
def up (S : Nat → Prop) (w : World) (k : Nat) : Prop := S k ∨ w.heap.size ≤ k
theorem arm_nil (n : Int) (v : Value) (w : World) : Calls Tryz.prog 13 #[.pointer none, .int .i64 n, v] w (Quiet (.tuple #[]) w) := by
  go_enter Tryz.func13, Tryz.ntmps13
  go_wp2
  exact ret0 rfl rfl ⟨rfl, 0, rfl⟩
theorem At.armed {S : Nat → Prop} {b : Nat} {F : Fl} {bw cw bv cv : Nat} {w : World} (h : At S b { F with fuse := none } (.bool false) (.int .i64 0) (.slice none 0 0) bw cw bv cv w) (n : Nat) :
    ∃ w', w' = (w.setCell ⟨b, 0, none⟩ (.bool true)).setCell ⟨b, 1, none⟩ (.int .i64 (n : Int)) ∧ At S b { F with fuse := some (n, []) } (.bool true) (.int .i64 (n : Int)) (.slice none 0 0) bw cw bv cv w' ∧ Only (fun x => x = b) w w' := by
  refine ⟨_, rfl, ⟨(h.blk.setCell 0 _).setCell 1 _, ?_, (h.ws.apart _ _ _ h.n1.symm).apart _ _ _ h.n1.symm, (h.wn.apart _ _ _ h.n2.symm).apart _ _ _ h.n2.symm, h.n1, h.n2, h.n3, h.s1, h.s2, h.s3⟩, ((Only.refl (fun x => x = b) w).setCell (.inl rfl) 0 _).setCell (.inl rfl) 1 _⟩
  exact ⟨rfl, rfl, none, 0, by simp, by simp, by simpa using Reads.nil, .inl (by simp)⟩
theorem At.masked {S : Nat → Prop} {b : Nat} {F : Fl} {n : Nat} {M0 : List Nat} {cm : Value} {bw cw bv cv : Nat} {w : World} (h : At S b { F with fuse := some (n, M0) } (.bool true) (.int .i64 (n : Int)) cm bw cw bv cv w) (M : List Nat) (v : Value)
    (hm : MasksAt S (at3 b bw bv) F.long M v w) : At S b { F with fuse := some (n, M) } (.bool true) (.int .i64 (n : Int)) v bw cw bv cv (w.setCell ⟨b, 2, none⟩ v) :=
  ⟨h.blk.setCell 2 v, ⟨rfl, rfl, hm.only (h.put 2 v) (only_b h)⟩, h.ws.apart _ _ _ h.n1.symm, h.wn.apart _ _ _ h.n2.symm, h.n1, h.n2, h.n3, h.s1, h.s2, h.s3⟩
set_option maxHeartbeats 16000000 in
theorem arm_any {S : Nat → Prop} {b : Nat} {F : Fl} {ca cb cm : Value} {bw cw bv cv : Nat} {w : World} (h : At S b F ca cb cm bw cw bv cv w) (ok : F.Ok) (n : Int) (hn : n ≤ 9223372036854775807) (a : Option Addr) (len cap : Nat) (M : List Nat) (hr : Reads .u32 w a len M) (hlc : len ≤ cap) (hlen : len ≤ 140737488355328)
    (hcap : cap ≤ maxLen) (hsep : len = 0 ∨ ∃ x, a = some x ∧ ¬ S x.block) :
    Calls Tryz.prog 13 #[.pointer (some ⟨b, 0, none⟩), .int .i64 n, .slice a len cap] w fun e w' => e = .returned (.tuple #[]) ∧ (∃ ca cb cm, At (up S w) b (F.arm n M) ca cb cm bw cw bv cv w') ∧ Only (at3 b bw bv) w w' := by
  obtain ⟨c0, c1, c2, _, c4, _⟩ := h.cell
  have f0 := h.blk.frozen 0
  have f1 := h.blk.frozen 1
  have f2 := h.blk.frozen 2
  have h1 := h.unfused (w' := _) rfl
  have HA := hid h1.1
  have HO := hid (h1.2.mono (T := at3 b bw bv) fun x hx _ => .inl hx)
  have g0 := h1.1.blk.frozen 0
  have g1 := h1.1.blk.frozen 1
  have g2 := h1.1.blk.frozen 2
  obtain ⟨d0, d1, d2, _, d4, _⟩ := h1.1.cell
  by_cases h0 : n < 0
  · have e : F.arm n M = { F with fuse := none } := by rw [Fl.arm, if_pos h0]
    rw [e]
    clear h h1 e ok hr hlc hlen hcap hsep
    go_enter Tryz.func13, Tryz.ntmps13
    go_wp2
    exact bodyPost_ret (v := .tuple #[]) (by kernel_rfl) rfl ⟨rfl, ⟨_, _, _, HA.out.wide fun x hx => .inl hx⟩, HO.out⟩
  · obtain ⟨k, rfl⟩ := Int.eq_ofNat_of_zero_le (show 0 ≤ n by omega)
    have e : F.arm k M = { F with fuse := some (k, M) } := by rw [Fl.arm, if_neg h0, Int.toNat_natCast]
    rw [e]
    obtain ⟨w2, hw2, hA2, hO2⟩ := HA.out.armed k
    obtain ⟨mn, hmn⟩ : ∃ mn, mn = min len F.long := ⟨_, rfl⟩
    have em : ∀ ts t W, (Builtin.min_ ts t #[.int .i64 (len : Int), .int .i64 (F.long : Int)]).run Tryz.prog W = .ok (.int .i64 (mn : Int)) W := fun ts t W => by
      rw [run_min_int2, show (if (F.long : Int) < (len : Int) then (F.long : Int) else (len : Int)) = (mn : Int) by split <;> omega]
    have hl2 := ok.l2
    have hMl : M.length = len := hr.1
    have hO3 : Only (at3 b bw bv) w w2 := HO.out.trans (hO2.mono fun x hx _ => .inl hx)
    have hr2 : Reads .u32 w2 a len M := reads_only hr hO3 (hsep.imp id fun ⟨x, hx, hS⟩ => ⟨x, hx, fun h3 => hS (h.mem _ h3)⟩)
    have hcl := u32_clone a mn cap (M.take mn) w2 (reads_prefix hr2 (by omega)) (by omega)
    have m1 : (mn : Int) ≤ cap := by omega
    have m2 : mn ≤ cap := by omega
    have hml : (M.take mn).length = mn := by rw [List.length_take]; omega
    have HMN : Hid (mn = min M.length F.long) := hid (by omega)
    have HTK : Hid (M.take mn = M.take F.long) := hid (by
      rw [hmn]
      by_cases hq : len ≤ F.long
      · rw [Nat.min_eq_left hq, List.take_of_length_le (by omega), List.take_of_length_le (by omega)]
      · rw [Nat.min_eq_right (by omega)])
    have HML := hid hml
    have HA2 := hid hA2
    have HO3 := hid hO3
    have HW2 := hid hw2
    have HH := hid h
    have f22 : w2.frozen? ⟨b, 2, none⟩ = false := hA2.blk.frozen 2
    clear h h1 e ok hr hlen hcap hsep hr2 hmn hMl hml hO2 hO3 hA2
    go_enter Tryz.func13, Tryz.ntmps13
    go_wp2_with (go_at_call 42; rw [← HW2.out]; (with_reducible refine hcl.mono ?_); rintro e w3 ⟨v, rfl, ho, hb, _⟩; rw [HML.out] at ho; obtain ⟨av, cv', rfl, hcv⟩ := ownsRow_slice ho; have hb3 := HA2.out.later hb; have f3 := hb3.blk.frozen 2; have e3 := hb3.cell.2.2.1; have HB := hid hb; have HO4 := hid ho; have HB3 := hid hb3; have HCV := hid hcv; clear ho hb hb3 hcv)
    refine ret0 rfl rfl ?_
    refine ⟨rfl, ⟨_, _, _, ((HB3.out.wide fun x hx => .inl hx).masked M (.slice av mn cv') ?_)⟩, (HO3.out.later HB.out).setCell (.inl (.inl rfl)) _ _⟩
    have ho := HO4.out
    have hcv := HCV.out
    rw [HMN.out] at ho hcv
    have hrd := Reads.own (k := .u32) (xs := M.take F.long) (by rw [← HTK.out, HMN.out]; exact ho)
    refine ⟨av, cv', by rw [HMN.out], hcv, hrd, ?_⟩
    by_cases hz : min M.length F.long = 0
    · exact .inl hz
    · right
      obtain ⟨g, c, hv, hg, _⟩ := ownsRow_form ho (by omega)
      cases hv
      have hs : w.heap.size ≤ g := Nat.le_trans HO3.out.size hg
      refine ⟨_, rfl, .inr hs, ?_⟩
      have := HA2.out.blk.lt
      have := HA2.out.ws.lt
      have := HA2.out.wn.lt
      rintro (e | e | e) <;> simp at e <;> omega
end Go.Proofs.YtphifanacehppaaGreat.flash
