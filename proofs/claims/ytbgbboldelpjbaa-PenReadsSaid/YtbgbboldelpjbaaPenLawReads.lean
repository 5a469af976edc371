/- PenReads: for every bytes and every pieces, what is read, what is left and the error are as the reference says. No condition. -/
import Derived.Test.YtbgbboldelpjbaaPenAwake
import Derived.Test.YtbgbboldelpjbaaPenOpen
import Derived.Test.YtbgbboldelpjbaaPenRefSight
import Derived.Deep.RegionHeld3
namespace Go.Proofs.Ytbgbboldelpjbaa.penReads
open Go.RowKit Go.Proofs.Ytbgbboldelpjbaa.pen Go.Proofs.Ytbgbboldelpjbaa.texts
set_option linter.unusedVariables false

/-- an eye stands where a call on another one turned that -/
theorem beside {t t' : TypeId} {b b' : Nat} {s s' : Sight} {w w' : World} (h : EyeAt t b s w) (k : EyeAt t' b' s' w) (hne : b ≠ b') (hb : But w.heap.size b' w w') : EyeAt t b s w' := by
  obtain ⟨h1, h2, a, c, h3, h4, h5, h6⟩ := h
  obtain ⟨_, _, a', c', k3, _⟩ := k
  refine ⟨h1, h2, a, c, h3.but hb h3.lt hne, h4, ?_, h6⟩
  by_cases h0 : s.1.length = 0
  · exact ⟨h5.1, .inl h0⟩
  · obtain ⟨g, off, rfl, hg, hc⟩ := h5.at (i := 0) (by omega)
    refine Reads.but h5 hb hg ?_
    rintro rfl
    have := hc 0 (by omega)
    rw [k3.cell] at this
    match off, this with
    | 0, e => simp at e
    | 1, e => simp at e
    | n + 2, e => simp at e

/-- both eyes stand at s, and nothing that was there has turned -/
def Two (w : World) (x y : Nat) (s : Sight) (w' : World) : Prop :=
  EyeAt 62 x s w' ∧ EyeAt 39 y s w' ∧ x ≠ y ∧ w.heap.size ≤ x ∧ w.heap.size ≤ y ∧ Below w.heap.size w w'
/-- the first one has gone on -/
def Half (w : World) (x y : Nat) (s s' : Sight) (w' : World) : Prop :=
  EyeAt 62 x s' w' ∧ EyeAt 39 y s w' ∧ x ≠ y ∧ w.heap.size ≤ x ∧ w.heap.size ≤ y ∧ Below w.heap.size w w'
theorem Two.half {w w1 w2 : World} {x y : Nat} {s s' : Sight} {v : Value} {e : Ending} (h : Two w x y s w1) (k : Saw 62 x v s' w1 e w2) : e = .returned v ∧ Half w x y s s' w2 := by
  obtain ⟨h1, h2, h3, h4, h5, h6⟩ := h
  obtain ⟨k1, k2, k3⟩ := k
  exact ⟨k1, k2, beside h2 h1 (fun e => h3 e.symm) k3, h3, h4, h5, h6.trans (k3.below h6.size h4)⟩
theorem Half.two {w w1 w2 : World} {x y : Nat} {s s' : Sight} {v : Value} {e : Ending} (h : Half w x y s s' w1) (k : Saw 39 y v s' w1 e w2) : e = .returned v ∧ Two w x y s' w2 := by
  obtain ⟨h1, h2, h3, h4, h5, h6⟩ := h
  obtain ⟨k1, k2, k3⟩ := k
  exact ⟨k1, beside h1 h2 h3 k3, k2, h3, h4, h5, h6.trans (k3.below h6.size h5)⟩
theorem Two.drewN {w w1 : World} {x y : Nat} {s : Sight} (h : Two w x y s w1) (m : Nat) : Two w x y s (w1.drewN m) := by
  obtain ⟨h1, h2, h3, h4, h5, h6⟩ := h
  have hb := below_drewN (Below.refl w1.heap.size w1) m
  exact ⟨h1.later hb, h2.later hb, h3, h4, h5, below_drewN h6 m⟩

set_option maxRecDepth 20000 in
set_option maxHeartbeats 3200000 in
theorem walk (a : Option Addr) (len cap : Nat) (xs : List Nat) (al : Option Addr) (capl : Nat) (l : List Piece) (w : World) (hr : Reads .u8 w a len xs) (hx : ∀ x ∈ xs, x < 256) (hlc : len ≤ cap) (hrs : cap * 1 ≤ 140737488351232)
    (ha : Acts w al l) (hf : ∀ p ∈ l, Fit p) (hll : l.length ≤ capl) (hcm : capl ≤ maxLen) : Calls Try.prog 4 #[.slice a len cap, .slice al l.length capl] w (Yes w) := by
  obtain ⟨i0, hi, hz0, hz1, hz2⟩ := info_parts info5
  obtain rfl : xs.length = len := hr.1
  have hlm : l.length ≤ 9223372036854775807 := by unfold maxLen at hcm; omega
  have c0 := of_any a cap xs w hr hx (by omega)
  have HN := hid (fun (w1 : World) (hb : Below w.heap.size w w1) => Reads.news (hr.below hb))
  have HU := hid (u8v_length xs)
  have HM : Hid (0 + xs.length ≤ maxLen) := by show _ ≤ _; unfold maxLen; omega
  have HM2 : Hid ((0 + xs.length) * 1 ≤ 140737488355328) := by show _ ≤ _; omega
  have HX := hid hx
  have HLX : Hid (xs.length ≤ 140737488355328) := by show _ ≤ _; omega
  have HA := hid ha
  have HF := hid hf
  clear hr hx ha hf
  go_enter Try.func4, Try.ntmps4
  go_wp2_with (first
    | (go_at_call 12; (with_reducible refine c0.mono ?_); clear c0; rintro e w1 ⟨bx, rfl, hbx, hE1, hb1⟩; have HE1 := hid hE1; have HB1 := hid hb1; clear hE1 hb1)
    | (at_builtin; refine wpList_append_from rfl _ _ 25 rfl w1.heap.size 5 i0 (.int .u8 0) 1 Try.underlying25 hi hz0 hz1 hz2 rfl (.slice none 0 0) 0 [] rfl (World.ownsRow_nil _ _ _ _) a xs.length cap (u8v xs) rfl HU.out (HN.out w1 HB1.out) (u8v_one xs) HM.out HM2.out (Nat.le_refl _) ?_))
  intro v2 w2 ho2 hg2
  have hb2 : Below w1.heap.size w1 w2 := (Below.refl _ _).grown hg2 (Nat.le_refl _) (fun k hk => by cases hk)
  have ho3 : w2.ownsRow w1.heap.size 5 1 v2 xs.length (u8v xs) := by simpa using ho2
  obtain ⟨a2, k2, rfl, _⟩ := ownsRow_slice ho3
  have hT : Two w bx w2.heap.size (xs, 0) (w2.alloc (.cells #[.slice a2 xs.length k2, .int .i64 0] 39)) := by
    have hb3 : Below w2.heap.size w2 (w2.alloc (.cells #[.slice a2 xs.length k2, .int .i64 0] 39)) := (Below.refl _ _).alloc (Nat.le_refl _) _
    have hE2 := HE1.out.later hb2
    refine ⟨hE2.later hb3, eye_new 39 w1.heap.size xs w2 a2 k2 ho3 HX.out HLX.out, fun e => ?_, hbx, ?_, HB1.out.trans ((hb2.mono HB1.out.size).trans (hb3.mono (Nat.le_trans HB1.out.size hb2.size)))⟩
    · have := hE2.lt; omega
    · exact Nat.le_trans HB1.out.size hb2.size
  have HT := hid hT
  clear ho2 hg2 hb2 ho3 hT HE1 HN
  go_wp2
  go_loopw [7] (fun i wr => ∃ (k : Nat) (s : Sight), k ≤ l.length ∧ i = .int .i64 (k : Int) ∧ Two w bx w2.heap.size s wr)
    (fun i _ => l.length - (intOf i).toNat)
  case atStart => exact ⟨0, (xs, 0), Nat.zero_le _, rfl, HT.out⟩
  case round =>
    obtain ⟨k, s, hk, rfl, hT⟩ := hrel
    have HT := hid hT
    clear hT
    by_cases hlt : k < l.length
    · have hi : (k : Int) < l.length := by omega
      obtain ⟨g, off, p, rfl, hg, hp, e1, e2, e3⟩ := HA.out.at hlt
      have hfp := HF.out p (List.mem_of_getElem? hp)
      obtain ⟨kd, n, t⟩ := p
      simp only at e1 e2 e3
      have hn1 := hfp.n1
      have hn2 := hfp.n2
      simp only at hn1 hn2
      generalize strL t = T at *
      have c1 : wr.cell? ⟨g, off + k * 3, none⟩ = some (.int .i64 kd) := (HT.out.2.2.2.2.2.cell (p := ⟨g, off + k * 3, none⟩) hg).trans e1
      have c2 : wr.cell? ⟨g, off + k * 3 + 1, none⟩ = some (.int .i64 n) := (HT.out.2.2.2.2.2.cell (p := ⟨g, off + k * 3 + 1, none⟩) hg).trans e2
      have HK : Hid (∀ w', Below w.heap.size w w' → w'.cell? ⟨g, off + k * 3 + 1, none⟩ = some (.int .i64 n)) := fun w' hb => (hb.cell (p := ⟨g, off + k * 3 + 1, none⟩) hg).trans e2
      clear hp hfp e1 e2 e3
      by_cases h0 : kd = 0
      · have q0 : (kd == 0) = true := by rw [beq_iff_eq]; exact h0
        clear h0 c2 HK
        have d1 : ∀ w1, Two w bx w2.heap.size s w1 → Calls Try.prog 13 #[.pointer (some ⟨bx, 0, none⟩)] w1 fun e w' => e = .returned (.int .u8 ((eNum 1 s).1 : Int)) ∧ Half w bx w2.heap.size s (eNum 1 s).2 w' := fun w1 h => (eyeByte_any bx s w1 h.1).mono fun e w' hs => h.half hs
        have d2 : ∀ w1, Half w bx w2.heap.size s (eNum 1 s).2 w1 → Calls Try.prog 14 #[.pointer (some ⟨w2.heap.size, 0, none⟩)] w1 fun e w' => e = .returned (.int .u8 ((eNum 1 s).1 : Int)) ∧ Two w bx w2.heap.size (eNum 1 s).2 w' := fun w1 h => (refByte_any w2.heap.size s w1 h.2.1).mono fun e w' hs => h.two hs
        obtain ⟨V, hV⟩ : ∃ V, Hid ((eNum 1 s).1 = V) := ⟨_, rfl⟩
        obtain ⟨s2, hs2⟩ : ∃ s', Hid ((eNum 1 s).2 = s') := ⟨_, rfl⟩
        simp only [hV.out, hs2.out] at d1 d2
        clear hV hs2
        go_wp2_with (first
          | (go_at_call 13; (with_reducible refine (d1 _ HT.out).mono ?_); clear d1; rintro e w3 ⟨rfl, hh3⟩)
          | (go_at_call 14; (with_reducible refine (d2 _ hh3).mono ?_); clear d2 hh3; rintro e w4 ⟨rfl, ht2⟩))
        have H2 := hid ht2
        clear ht2
        obtain ⟨r2, z2⟩ := s2
        obtain ⟨ay, cy, sty⟩ := H2.out.2.1.stand
        have dy0 := sty.rest
        have dy1 := sty.err
        have hl2 : (r2.length : Int) ≤ 140737488355328 := by have := sty.len; omega
        have cL : ∀ m, Calls Try.prog 23 #[.pointer (some ⟨bx, 0, none⟩)] (w4.drewN m) (Quiet (.int .i64 (r2.length : Int)) (w4.drewN m)) := fun m => left_any bx (r2, z2) _ (H2.out.drewN m).1
        have cB : ∀ m, Calls Try.prog 24 #[.pointer (some ⟨bx, 0, none⟩)] (w4.drewN m) (Quiet (.int .i64 (z2 : Int)) (w4.drewN m)) := fun m => bad_any bx (r2, z2) _ (H2.out.drewN m).1
        have cE : ∀ m, Calls Try.prog 25 #[.pointer (some ⟨bx, 0, none⟩)] (w4.drewN m) (Quiet (.int .i64 (eEnd (r2, z2) : Int)) (w4.drewN m)) := fun m => end_any bx (r2, z2) _ (H2.out.drewN m).1
        have cR : ∀ m, Calls Try.prog 26 #[.pointer (some ⟨w2.heap.size, 0, none⟩)] (w4.drewN m) (Quiet (.int .i64 (eEnd (r2, z2) : Int)) (w4.drewN m)) := fun m => refEnd_any w2.heap.size (r2, z2) _ (H2.out.drewN m).2.1
        obtain ⟨E2, hE2⟩ : ∃ E, Hid (eEnd (r2, z2) = E) := ⟨_, rfl⟩
        rw [hE2.out] at cE cR
        clear sty
        go_wp2
        go_quiet (first
          | (go_at_call 23; (with_reducible exact quietAt (cL _)))
          | (go_at_call 24; (with_reducible exact quietAt (cB _)))
          | (go_at_call 25; (with_reducible exact quietAt (cE _)))
          | (go_at_call 26; (with_reducible exact quietAt (cR _))))
        go_wp2
        exact ⟨⟨k + 1, (r2, z2), by omega, by go_num, H2.out.drewN _⟩, by simp [intOf]; omega⟩
      · have q0 : (kd == 0) = false := by rw [beq_eq_false_iff_ne]; exact h0
        by_cases h1 : kd = 1
        · have q1 : (kd == 1) = true := by rw [beq_iff_eq]; exact h1
          clear h0 h1
          have d1 : ∀ w1, Two w bx w2.heap.size s w1 → Calls Try.prog 15 #[.pointer (some ⟨bx, 0, none⟩), .int .i64 n] w1 fun e w' => e = .returned (.int .i64 ((eCount n s).1 : Int)) ∧ Half w bx w2.heap.size s (eCount n s).2 w' := fun w1 h => (eyeCount_any bx s w1 h.1 n hn1 hn2).mono fun e w' hs => h.half hs
          have d2 : ∀ w1, Half w bx w2.heap.size s (eCount n s).2 w1 → Calls Try.prog 16 #[.pointer (some ⟨w2.heap.size, 0, none⟩), .int .i64 n] w1 fun e w' => e = .returned (.int .i64 ((eCount n s).1 : Int)) ∧ Two w bx w2.heap.size (eCount n s).2 w' := fun w1 h => (refSee_any w2.heap.size s w1 h.2.1 n hn1 hn2).mono fun e w' hs => h.two hs
          obtain ⟨V, hV⟩ : ∃ V, Hid ((eCount n s).1 = V) := ⟨_, rfl⟩
          obtain ⟨s2, hs2⟩ : ∃ s', Hid ((eCount n s).2 = s') := ⟨_, rfl⟩
          simp only [hV.out, hs2.out] at d1 d2
          clear hV hs2
          have hTd : Two w bx w2.heap.size s wr.drew := HT.out.drewN 1
          go_wp2
          go_region_held3 (fun w' => w'.cell? ⟨g, off + k * 3 + 1, none⟩ = some (.int .i64 n)) (first | assumption | go_keep) (first
            | (go_at_call 15; (with_reducible refine (d1 _ hTd).mono ?_); rintro e w3 ⟨rfl, hh3⟩; have hk3 := HK.out w3 hh3.2.2.2.2.2)
            | (go_at_call 16; (with_reducible refine (d2 _ hh3).mono ?_); rintro e w4 ⟨rfl, ht2⟩; have hk4 := HK.out w4 ht2.2.2.2.2.2))
          clear d1 d2 hTd
          have H2 := hid ht2
          clear ht2
          obtain ⟨r2, z2⟩ := s2
          obtain ⟨ay, cy, sty⟩ := H2.out.2.1.stand
          have dy0 := sty.rest
          have dy1 := sty.err
          have hl2 : (r2.length : Int) ≤ 140737488355328 := by have := sty.len; omega
          have cL : ∀ m, Calls Try.prog 23 #[.pointer (some ⟨bx, 0, none⟩)] (w4.drewN m) (Quiet (.int .i64 (r2.length : Int)) (w4.drewN m)) := fun m => left_any bx (r2, z2) _ (H2.out.drewN m).1
          have cB : ∀ m, Calls Try.prog 24 #[.pointer (some ⟨bx, 0, none⟩)] (w4.drewN m) (Quiet (.int .i64 (z2 : Int)) (w4.drewN m)) := fun m => bad_any bx (r2, z2) _ (H2.out.drewN m).1
          have cE : ∀ m, Calls Try.prog 25 #[.pointer (some ⟨bx, 0, none⟩)] (w4.drewN m) (Quiet (.int .i64 (eEnd (r2, z2) : Int)) (w4.drewN m)) := fun m => end_any bx (r2, z2) _ (H2.out.drewN m).1
          have cR : ∀ m, Calls Try.prog 26 #[.pointer (some ⟨w2.heap.size, 0, none⟩)] (w4.drewN m) (Quiet (.int .i64 (eEnd (r2, z2) : Int)) (w4.drewN m)) := fun m => refEnd_any w2.heap.size (r2, z2) _ (H2.out.drewN m).2.1
          obtain ⟨E2, hE2⟩ : ∃ E, Hid (eEnd (r2, z2) = E) := ⟨_, rfl⟩
          rw [hE2.out] at cE cR
          clear sty
          go_wp2
          go_quiet (first
            | (go_at_call 23; (with_reducible exact quietAt (cL _)))
            | (go_at_call 24; (with_reducible exact quietAt (cB _)))
            | (go_at_call 25; (with_reducible exact quietAt (cE _)))
            | (go_at_call 26; (with_reducible exact quietAt (cR _))))
          go_wp2
          exact ⟨⟨k + 1, (r2, z2), by omega, by go_num, H2.out.drewN _⟩, by simp [intOf]; omega⟩
        · have q1 : (kd == 1) = false := by rw [beq_eq_false_iff_ne]; exact h1
          by_cases h2 : kd = 2
          · have q2 : (kd == 2) = true := by rw [beq_iff_eq]; exact h2
            clear h0 h1 h2 c2 HK
            have d1 : ∀ w1, Two w bx w2.heap.size s w1 → Calls Try.prog 17 #[.pointer (some ⟨bx, 0, none⟩)] w1 fun e w' => e = .returned (.int .i64 (eInt s).1) ∧ Half w bx w2.heap.size s (eInt s).2 w' := fun w1 h => (eyeNum_any bx s w1 h.1).mono fun e w' hs => h.half hs
            have d2 : ∀ w1, Half w bx w2.heap.size s (eInt s).2 w1 → Calls Try.prog 18 #[.pointer (some ⟨w2.heap.size, 0, none⟩)] w1 fun e w' => e = .returned (.int .i64 (eInt s).1) ∧ Two w bx w2.heap.size (eInt s).2 w' := fun w1 h => (refInt_any w2.heap.size s w1 h.2.1).mono fun e w' hs => h.two hs
            obtain ⟨V, hV⟩ : ∃ V, Hid ((eInt s).1 = V) := ⟨_, rfl⟩
            obtain ⟨s2, hs2⟩ : ∃ s', Hid ((eInt s).2 = s') := ⟨_, rfl⟩
            simp only [hV.out, hs2.out] at d1 d2
            clear hV hs2
            go_wp2_with (first
              | (go_at_call 17; (with_reducible refine (d1 _ HT.out).mono ?_); clear d1; rintro e w3 ⟨rfl, hh3⟩)
              | (go_at_call 18; (with_reducible refine (d2 _ hh3).mono ?_); clear d2 hh3; rintro e w4 ⟨rfl, ht2⟩))
            have H2 := hid ht2
            clear ht2
            obtain ⟨r2, z2⟩ := s2
            obtain ⟨ay, cy, sty⟩ := H2.out.2.1.stand
            have dy0 := sty.rest
            have dy1 := sty.err
            have hl2 : (r2.length : Int) ≤ 140737488355328 := by have := sty.len; omega
            have cL : ∀ m, Calls Try.prog 23 #[.pointer (some ⟨bx, 0, none⟩)] (w4.drewN m) (Quiet (.int .i64 (r2.length : Int)) (w4.drewN m)) := fun m => left_any bx (r2, z2) _ (H2.out.drewN m).1
            have cB : ∀ m, Calls Try.prog 24 #[.pointer (some ⟨bx, 0, none⟩)] (w4.drewN m) (Quiet (.int .i64 (z2 : Int)) (w4.drewN m)) := fun m => bad_any bx (r2, z2) _ (H2.out.drewN m).1
            have cE : ∀ m, Calls Try.prog 25 #[.pointer (some ⟨bx, 0, none⟩)] (w4.drewN m) (Quiet (.int .i64 (eEnd (r2, z2) : Int)) (w4.drewN m)) := fun m => end_any bx (r2, z2) _ (H2.out.drewN m).1
            have cR : ∀ m, Calls Try.prog 26 #[.pointer (some ⟨w2.heap.size, 0, none⟩)] (w4.drewN m) (Quiet (.int .i64 (eEnd (r2, z2) : Int)) (w4.drewN m)) := fun m => refEnd_any w2.heap.size (r2, z2) _ (H2.out.drewN m).2.1
            obtain ⟨E2, hE2⟩ : ∃ E, Hid (eEnd (r2, z2) = E) := ⟨_, rfl⟩
            rw [hE2.out] at cE cR
            clear sty
            go_wp2
            go_quiet (first
              | (go_at_call 23; (with_reducible exact quietAt (cL _)))
              | (go_at_call 24; (with_reducible exact quietAt (cB _)))
              | (go_at_call 25; (with_reducible exact quietAt (cE _)))
              | (go_at_call 26; (with_reducible exact quietAt (cR _))))
            go_wp2
            exact ⟨⟨k + 1, (r2, z2), by omega, by go_num, H2.out.drewN _⟩, by simp [intOf]; omega⟩
          · have q2 : (kd == 2) = false := by rw [beq_eq_false_iff_ne]; exact h2
            by_cases h3 : kd = 3
            · have q3 : (kd == 3) = true := by rw [beq_iff_eq]; exact h3
              clear h0 h1 h2 h3 c2 HK
              have d1 : ∀ w1, Two w bx w2.heap.size s w1 → Calls Try.prog 19 #[.pointer (some ⟨bx, 0, none⟩)] w1 fun e w' => e = .returned (.int .u32 ((eNum 4 s).1 : Int)) ∧ Half w bx w2.heap.size s (eNum 4 s).2 w' := fun w1 h => (eyeWord_any bx s w1 h.1).mono fun e w' hs => h.half hs
              have d2 : ∀ w1, Half w bx w2.heap.size s (eNum 4 s).2 w1 → Calls Try.prog 20 #[.pointer (some ⟨w2.heap.size, 0, none⟩)] w1 fun e w' => e = .returned (.int .u32 ((eNum 4 s).1 : Int)) ∧ Two w bx w2.heap.size (eNum 4 s).2 w' := fun w1 h => (refWord5_any w2.heap.size s w1 h.2.1).mono fun e w' hs => h.two hs
              obtain ⟨V, hV⟩ : ∃ V, Hid ((eNum 4 s).1 = V) := ⟨_, rfl⟩
              obtain ⟨s2, hs2⟩ : ∃ s', Hid ((eNum 4 s).2 = s') := ⟨_, rfl⟩
              simp only [hV.out, hs2.out] at d1 d2
              clear hV hs2
              go_wp2_with (first
                | (go_at_call 19; (with_reducible refine (d1 _ HT.out).mono ?_); clear d1; rintro e w3 ⟨rfl, hh3⟩)
                | (go_at_call 20; (with_reducible refine (d2 _ hh3).mono ?_); clear d2 hh3; rintro e w4 ⟨rfl, ht2⟩))
              have H2 := hid ht2
              clear ht2
              obtain ⟨r2, z2⟩ := s2
              obtain ⟨ay, cy, sty⟩ := H2.out.2.1.stand
              have dy0 := sty.rest
              have dy1 := sty.err
              have hl2 : (r2.length : Int) ≤ 140737488355328 := by have := sty.len; omega
              have cL : ∀ m, Calls Try.prog 23 #[.pointer (some ⟨bx, 0, none⟩)] (w4.drewN m) (Quiet (.int .i64 (r2.length : Int)) (w4.drewN m)) := fun m => left_any bx (r2, z2) _ (H2.out.drewN m).1
              have cB : ∀ m, Calls Try.prog 24 #[.pointer (some ⟨bx, 0, none⟩)] (w4.drewN m) (Quiet (.int .i64 (z2 : Int)) (w4.drewN m)) := fun m => bad_any bx (r2, z2) _ (H2.out.drewN m).1
              have cE : ∀ m, Calls Try.prog 25 #[.pointer (some ⟨bx, 0, none⟩)] (w4.drewN m) (Quiet (.int .i64 (eEnd (r2, z2) : Int)) (w4.drewN m)) := fun m => end_any bx (r2, z2) _ (H2.out.drewN m).1
              have cR : ∀ m, Calls Try.prog 26 #[.pointer (some ⟨w2.heap.size, 0, none⟩)] (w4.drewN m) (Quiet (.int .i64 (eEnd (r2, z2) : Int)) (w4.drewN m)) := fun m => refEnd_any w2.heap.size (r2, z2) _ (H2.out.drewN m).2.1
              obtain ⟨E2, hE2⟩ : ∃ E, Hid (eEnd (r2, z2) = E) := ⟨_, rfl⟩
              rw [hE2.out] at cE cR
              clear sty
              go_wp2
              go_quiet (first
                | (go_at_call 23; (with_reducible exact quietAt (cL _)))
                | (go_at_call 24; (with_reducible exact quietAt (cB _)))
                | (go_at_call 25; (with_reducible exact quietAt (cE _)))
                | (go_at_call 26; (with_reducible exact quietAt (cR _))))
              go_wp2
              exact ⟨⟨k + 1, (r2, z2), by omega, by go_num, H2.out.drewN _⟩, by simp [intOf]; omega⟩
            · have q3 : (kd == 3) = false := by rw [beq_eq_false_iff_ne]; exact h3
              clear h0 h1 h2 h3
              have d1 : ∀ w1, Two w bx w2.heap.size s w1 → Calls Try.prog 21 #[.pointer (some ⟨bx, 0, none⟩), .int .i64 n] w1 fun e w' => e = .returned (.string (strOf (eText n s).1)) ∧ Half w bx w2.heap.size s (eText n s).2 w' := fun w1 h => (eyeText_any bx s w1 h.1 n hn1 hn2).mono fun e w' hs => h.half hs
              have d2 : ∀ w1, Half w bx w2.heap.size s (eText n s).2 w1 → Calls Try.prog 22 #[.pointer (some ⟨w2.heap.size, 0, none⟩), .int .i64 n] w1 fun e w' => e = .returned (.string (strOf (eText n s).1)) ∧ Two w bx w2.heap.size (eText n s).2 w' := fun w1 h => (refSay_any w2.heap.size s w1 h.2.1 n hn1 hn2).mono fun e w' hs => h.two hs
              obtain ⟨V, hV⟩ : ∃ V, Hid (strOf (eText n s).1 = V) := ⟨_, rfl⟩
              obtain ⟨s2, hs2⟩ : ∃ s', Hid ((eText n s).2 = s') := ⟨_, rfl⟩
              simp only [hV.out, hs2.out] at d1 d2
              clear hV hs2
              have hTd : Two w bx w2.heap.size s wr.drew := HT.out.drewN 1
              go_wp2
              go_region_held3 (fun w' => w'.cell? ⟨g, off + k * 3 + 1, none⟩ = some (.int .i64 n)) (first | assumption | go_keep) (first
                | (go_at_call 21; (with_reducible refine (d1 _ hTd).mono ?_); rintro e w3 ⟨rfl, hh3⟩; have hk3 := HK.out w3 hh3.2.2.2.2.2)
                | (go_at_call 22; (with_reducible refine (d2 _ hh3).mono ?_); rintro e w4 ⟨rfl, ht2⟩; have hk4 := HK.out w4 ht2.2.2.2.2.2))
              clear d1 d2 hTd
              have H2 := hid ht2
              clear ht2
              obtain ⟨r2, z2⟩ := s2
              obtain ⟨ay, cy, sty⟩ := H2.out.2.1.stand
              have dy0 := sty.rest
              have dy1 := sty.err
              have hl2 : (r2.length : Int) ≤ 140737488355328 := by have := sty.len; omega
              have cL : ∀ m, Calls Try.prog 23 #[.pointer (some ⟨bx, 0, none⟩)] (w4.drewN m) (Quiet (.int .i64 (r2.length : Int)) (w4.drewN m)) := fun m => left_any bx (r2, z2) _ (H2.out.drewN m).1
              have cB : ∀ m, Calls Try.prog 24 #[.pointer (some ⟨bx, 0, none⟩)] (w4.drewN m) (Quiet (.int .i64 (z2 : Int)) (w4.drewN m)) := fun m => bad_any bx (r2, z2) _ (H2.out.drewN m).1
              have cE : ∀ m, Calls Try.prog 25 #[.pointer (some ⟨bx, 0, none⟩)] (w4.drewN m) (Quiet (.int .i64 (eEnd (r2, z2) : Int)) (w4.drewN m)) := fun m => end_any bx (r2, z2) _ (H2.out.drewN m).1
              have cR : ∀ m, Calls Try.prog 26 #[.pointer (some ⟨w2.heap.size, 0, none⟩)] (w4.drewN m) (Quiet (.int .i64 (eEnd (r2, z2) : Int)) (w4.drewN m)) := fun m => refEnd_any w2.heap.size (r2, z2) _ (H2.out.drewN m).2.1
              obtain ⟨E2, hE2⟩ : ∃ E, Hid (eEnd (r2, z2) = E) := ⟨_, rfl⟩
              rw [hE2.out] at cE cR
              clear sty
              go_wp2
              go_quiet (first
                | (go_at_call 23; (with_reducible exact quietAt (cL _)))
                | (go_at_call 24; (with_reducible exact quietAt (cB _)))
                | (go_at_call 25; (with_reducible exact quietAt (cE _)))
                | (go_at_call 26; (with_reducible exact quietAt (cR _))))
              go_wp2
              exact ⟨⟨k + 1, (r2, z2), by omega, by go_num, H2.out.drewN _⟩, by simp [intOf]; omega⟩
    · have hi : ¬ (k : Int) < l.length := by omega
      go_wp2_with (go_at_call 11; (with_reducible refine (awake_any _).mono ?_); rintro e w3 ⟨rfl, hb3⟩)
      go_ret
      exact ⟨rfl, HT.out.2.2.2.2.2.trans (hb3.mono HT.out.2.2.2.2.2.size)⟩
end Go.Proofs.Ytbgbboldelpjbaa.penReads
