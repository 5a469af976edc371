/- Lemmas of the claim HDriveStands. Each says its own conditions. -/
import Derived.Test.YtcigijhoeghnnaaCmD
import Derived.Test.YtcigijhoeghnnaaCmC
import Derived.Test.YtcigijhoeghnnaaCmA
import Derived.Test.YtcigijhoeghnnaaCmF
import Derived.Laws.Bits64
import Derived.Test.YtcigijhoeghnnaaCmG
/- Contract of the law file's do of layer 9: for every act. No condition but a flash with fewer than 2^60 writes. -/
namespace Go.Proofs.Ytcigijhoeghnnaa.drive
open Go.RowKit Go.Proofs.Ytcigijhoeghnnaa.flash Go.Proofs.Ytcigijhoeghnnaa.geom Go.Proofs.Ytcigijhoeghnnaa.word
set_option linter.unusedVariables false

theorem read_this {S : Nat → Prop} {d b : Nat} {g : Geo} {F : Fl} {w : World} (h : DriveAt S d b g F w) (ok : F.Ok) (ft : Fit F g) (s a n : Int) (ha : a ≤ 9223372036854775807) :
    Calls Try.prog 19 #[.pointer (some ⟨d, 0, none⟩), .int .i64 s, .int .i64 a, .int .i64 n] w fun e w' => ∃ x c, e = .returned (.tuple #[.slice x (read F g s a n).1.length c, .int .i64 (read F g s a n).2]) ∧
      Reads .u32 w' x (read F g s a n).1.length (read F g s a n).1 ∧ ((read F g s a n).1.length = 0 ∨ ∃ y, x = some y ∧ w.heap.size ≤ y.block) ∧ Below w.heap.size w w' := by
  unfold read
  by_cases hz : bad F g s a n = 0
  · rw [if_neg (fun h => h hz)]
    obtain ⟨N, rfl⟩ := Int.eq_ofNat_of_zero_le (bad_zero hz).1.2.2.2.1
    refine (read_good h ok ft s a N hz).mono ?_
    rintro e w' ⟨q, rfl, hq, hr, hb⟩
    rw [Int.toNat_natCast]
    simp only [span_length]
    exact ⟨_, _, rfl, hr, .inr ⟨_, rfl, hq⟩, hb⟩
  · rw [if_pos hz]
    refine (read_bad h ft.right s a n ha hz).mono ?_
    rintro e w' ⟨rfl, hb⟩
    exact ⟨_, _, rfl, Reads.nil, .inl rfl, hb⟩
/-- what the law file's do answers -/
def Done (S : Nat → Prop) (b : Nat) (r : (List Nat × Bool × Int) × Fl) (w : World) (e : Ending) (w' : World) : Prop :=
  ∃ x c, e = .returned (.tuple #[.slice x r.1.1.length c, .bool r.1.2.1, .int .i64 r.1.2.2]) ∧ Reads .u32 w' x r.1.1.length r.1.1 ∧ (r.1.1.length = 0 ∨ ∃ y, x = some y ∧ w.heap.size ≤ y.block) ∧ Turn S b r.2 w w'
theorem Done.nil {S : Nat → Prop} {b : Nat} {v : Bool} {z : Int} {G : Fl} {w w' : World} (k : Turn S b G w w') : Done S b (([], v, z), G) w (.returned (.tuple #[.slice none 0 0, .bool v, .int .i64 z])) w' :=
  ⟨_, _, rfl, Reads.nil, .inl rfl, k⟩
set_option maxHeartbeats 4000000 in
theorem do_this {S : Nat → Prop} {d b : Nat} {g : Geo} {F : Fl} {w : World} (h : DriveAt S d b g F w) (ok : F.Ok) (ft : Fit F g) (hc : F.count < 1152921504606846976) (k s a n : Int) (x : Option Addr) (len cap : Nat) (W : List Nat)
    (ha : a ≤ 9223372036854775807) (hn : n ≤ 9223372036854775807) (hr : Reads .u32 w x len W) (hW : ∀ y ∈ W, y < 4294967296) (hlc : len ≤ cap) (hcap : cap ≤ maxLen) (hlen : len ≤ 140737488355328) (hsep : len = 0 ∨ ∃ y, x = some y ∧ ¬ S y.block) :
    Calls Try.prog 13 #[.pointer (some ⟨b, 0, none⟩), .pointer (some ⟨d, 0, none⟩), .agg #[.int .i64 k, .int .i64 s, .int .i64 a, .int .i64 n, .slice x len cap]] w (Done S b (step F g k s a n W) w) := by
  have hb : Below w.heap.size w (w.alloc (.cells #[.int .i64 k, .int .i64 s, .int .i64 a, .int .i64 n, .slice x len cap] 43)) := (Below.refl _ _).alloc (Nat.le_refl _) _
  have h1 := h.later hb
  have cre := read_this h1 ok ft s a n ha
  have cwr := write_this h1 ok ft (by omega) s a ha x len cap W (hr.below hb) hW hsep
  have cbl := blank_this h1 ok ft s a ha
  have ccl := clean_this h1 ok ft (by omega) s
  have cfr := fresh_this h1 ok ft hc s x len cap W (hr.below hb) hW hsep
  have car := arm_did h1.fl ok n hn x len cap W (hr.below hb) hlc hlen hcap hsep
  have cpo := power_did h1.fl
  have HB := hid hb
  have HF := hid h.fl
  have HF1 := hid h1.fl
  clear h hr ok ft hsep h1 hb
  unfold step
  by_cases k0 : k = 0
  · subst k0
    rw [if_pos rfl]
    generalize read F g s a n = R at *
    go_enter Try.func13, Try.ntmps13
    go_wp2_with (go_at_call 19; (with_reducible refine cre.mono ?_); rintro e w1 ⟨x1, c1, rfl, hr1, hs1, hb1⟩)
    go_returns
    exact ⟨x1, c1, rfl, hr1, hs1.imp id fun ⟨y, hy, hl⟩ => ⟨y, hy, Nat.le_trans HB.out.size hl⟩, Turn.before HB.out (Turn.of HF1.out hb1)⟩
  rw [if_neg k0]
  by_cases k1 : k = 1 ∨ k = 2
  · rw [if_pos k1]
    generalize write F g s a W = R at *
    rcases k1 with rfl | rfl
    all_goals
      go_enter Try.func13, Try.ntmps13
      go_wp2_with (go_at_call 21; (with_reducible refine cwr.mono ?_); rintro e w1 ⟨rfl, hd⟩)
      go_returns
      exact Done.nil (Turn.before HB.out hd)
  rw [if_neg k1]
  have k1a : ¬ k = 1 := fun h => k1 (.inl h)
  have k1b : ¬ k = 2 := fun h => k1 (.inr h)
  clear k1
  by_cases k3 : k = 3
  · subst k3
    rw [if_pos rfl]
    generalize blankAt F g s a = R at *
    go_enter Try.func13, Try.ntmps13
    go_wp2_with (go_at_call 20; (with_reducible refine cbl.mono ?_); rintro e w1 ⟨rfl, hb1⟩)
    go_returns
    exact Done.nil (Turn.before HB.out (Turn.of HF1.out hb1))
  rw [if_neg k3]
  by_cases k4 : k = 4
  · subst k4
    rw [if_pos rfl]
    generalize clean F g s = R at *
    go_enter Try.func13, Try.ntmps13
    go_wp2_with (go_at_call 22; (with_reducible refine ccl.mono ?_); rintro e w1 ⟨rfl, hd⟩)
    go_returns
    exact Done.nil (Turn.before HB.out hd)
  rw [if_neg k4]
  by_cases k5 : k = 5
  · subst k5
    rw [if_pos rfl]
    generalize fresh F g s W = R at *
    go_enter Try.func13, Try.ntmps13
    go_wp2_with (go_at_call 23; (with_reducible refine cfr.mono ?_); rintro e w1 ⟨rfl, hd⟩)
    go_returns
    exact Done.nil (Turn.before HB.out hd)
  rw [if_neg k5]
  by_cases k6 : k = 6
  · subst k6
    rw [if_pos rfl]
    generalize F.arm n W = G at *
    go_enter Try.func13, Try.ntmps13
    go_wp2_with (go_at_call 31; (with_reducible refine car.mono ?_); rintro e w1 ⟨rfl, hd⟩)
    go_returns
    exact Done.nil (Turn.before HB.out hd)
  rw [if_neg k6]
  by_cases k7 : k = 7
  · subst k7
    rw [if_pos rfl]
    generalize F.power = G at *
    go_enter Try.func13, Try.ntmps13
    go_wp2_with (go_at_call 18; (with_reducible refine cpo.mono ?_); rintro e w1 ⟨rfl, hd⟩)
    go_returns
    exact Done.nil (Turn.before HB.out hd)
  rw [if_neg k7]
  clear cre cwr cbl ccl cfr car cpo
  go_enter Try.func13, Try.ntmps13
  go_wp2
  go_returns
  exact Done.nil (Turn.of HF.out HB.out)
end Go.Proofs.Ytcigijhoeghnnaa.drive
/- What a Write and a Fresh leave, where there is power and no fuse. No condition. -/
namespace Go.Proofs.Ytcigijhoeghnnaa.drive
open Go.Proofs.Ytcigijhoeghnnaa.flash Go.Proofs.Ytcigijhoeghnnaa.geom Go.Proofs.Ytcigijhoeghnnaa.word
set_option linter.unusedVariables false

/-- power, and no fuse -/
def Pow (F : Fl) : Prop := F.dark = false ∧ F.fuse = none
theorem power_pow (F : Fl) : Pow F.power := ⟨rfl, rfl⟩
theorem wrote_pow {F : Fl} (h : Pow F) (ws worn : List Nat) : Pow (F.wrote ws worn) := ⟨h.1, by show burnt F.fuse = none; rw [h.2]; rfl⟩
theorem set_get {l : List Nat} {i v : Nat} (h : i < l.length) : (l.set i v).getD i 0 = v := by
  rw [List.getD_eq_getElem?_getD, List.getElem?_set_self h]; rfl
theorem program_pow {F : Fl} (h : Pow F) {a x : Nat} (ha : a < F.ws.length) (hc : clr x (F.ws.getD a 0) = 0) : F.program a x = (0, F.wrote (F.ws.set a x) F.worn) := by
  rw [Fl.program, if_neg (by rw [h.1]; decide), if_neg (by omega), Int.toNat_natCast, if_neg (by rw [hc]; decide), h.2]
  rfl
theorem prog_pow : ∀ (W : List Nat) (F : Fl) (a : Nat), Pow F → fits F a W → a + W.length ≤ F.ws.length →
    (prog F a W).1 = 0 ∧ Pow (prog F a W).2 ∧ (prog F a W).2.ws.length = F.ws.length ∧ ∀ j, (prog F a W).2.ws.getD j 0 = if a ≤ j ∧ j < a + W.length then W.getD (j - a) 0 else F.ws.getD j 0
  | [], F, a, hp, _, _ => ⟨rfl, hp, rfl, fun j => by rw [if_neg (by simp)]; rfl⟩
  | x :: l, F, a, hp, hf, hl => by
    have h0 := hf 0 (by simp)
    simp only [List.getD_cons_zero, Nat.add_zero] at h0
    simp only [List.length_cons] at hl
    have hfit : ∀ G : Fl, (∀ j, a + 1 ≤ j → G.ws.getD j 0 = F.ws.getD j 0) → fits G (a + 1) l := fun G hG i hi => by
      have := hf (i + 1) (by simpa using hi)
      rw [List.getD_cons_succ] at this
      rw [hG _ (by omega), show a + 1 + i = a + (i + 1) by omega]
      exact this
    have hget : ∀ (G : Fl) (H : Fl), G.ws.getD a 0 = x → (∀ j, j ≠ a → G.ws.getD j 0 = F.ws.getD j 0) → (∀ j, H.ws.getD j 0 = if a + 1 ≤ j ∧ j < a + 1 + l.length then l.getD (j - (a + 1)) 0 else G.ws.getD j 0) →
        ∀ j, H.ws.getD j 0 = if a ≤ j ∧ j < a + (x :: l).length then (x :: l).getD (j - a) 0 else F.ws.getD j 0 := fun G H h1 h2 h3 j => by
      rw [h3 j]
      simp only [List.length_cons]
      by_cases hj : j = a
      · subst hj
        rw [if_neg (by omega), if_pos (by omega), h1, Nat.sub_self]; rfl
      · by_cases h4 : a + 1 ≤ j ∧ j < a + 1 + l.length
        · rw [if_pos h4, if_pos (by omega), show j - a = (j - (a + 1)) + 1 by omega]; rfl
        · rw [if_neg h4, if_neg (by omega), h2 j hj]
    rw [prog]
    split
    · rename_i hx
      obtain ⟨r1, r2, r3, r4⟩ := prog_pow l F (a + 1) hp (hfit F fun _ _ => rfl) (by omega)
      exact ⟨r1, r2, r3, hget F _ hx (fun _ _ => rfl) r4⟩
    · rw [program_pow hp (by omega) h0]
      simp only [ne_eq, not_true_eq_false, if_false]
      have hne : ∀ j, j ≠ a → (F.wrote (F.ws.set a x) F.worn).ws.getD j 0 = F.ws.getD j 0 := fun j hj => set_getD hj
      obtain ⟨r1, r2, r3, r4⟩ := prog_pow l (F.wrote (F.ws.set a x) F.worn) (a + 1) (wrote_pow hp _ _) (hfit _ fun j hj => hne j (by omega)) (by show a + 1 + l.length ≤ (F.ws.set a x).length; rw [List.length_set]; omega)
      refine ⟨r1, r2, r3.trans (by show (F.ws.set a x).length = _; rw [List.length_set]), hget _ _ (set_get (by omega)) hne r4⟩
theorem prog_same : ∀ (W : List Nat) (F : Fl) (a : Nat), (∀ i, i < W.length → F.ws.getD (a + i) 0 = W.getD i 0) → prog F a W = (0, F)
  | [], _, _, _ => rfl
  | x :: l, F, a, h => by
    have h0 := h 0 (by simp)
    simp only [List.getD_cons_zero, Nat.add_zero] at h0
    rw [prog, if_pos h0]
    refine prog_same l F (a + 1) fun i hi => ?_
    have := h (i + 1) (by simpa using hi)
    rw [List.getD_cons_succ] at this
    rw [show a + 1 + i = a + (i + 1) by omega]
    exact this
theorem bad_pow {F G : Fl} (hF : Pow F) (hG : Pow G) (g : Geo) (s a n : Int) : bad G g s a n = bad F g s a n := by unfold bad; rw [hF.1, hG.1]
theorem bad_pow_or {F : Fl} (hF : Pow F) (g : Geo) (s a n : Int) : bad F g s a n = 0 ∨ bad F g s a n = 3 := by
  unfold bad
  split
  · left; rw [hF.1]; rfl
  · exact .inr rfl
/-- behind a Write -/
theorem write_stands {F : Fl} {g : Geo} (ok : F.Ok) (ft : Fit F g) (hp : Pow F) (s a : Int) (W : List Nat) (hW : ∀ y ∈ W, y < 4294967296) :
    (((write F g s a W).1 = 3 ∨ (write F g s a W).1 = 11) ∧ (write F g s a W).2 = F) ∨
    ((write F g s a W).1 = 0 ∧ bad F g s a W.length = 0 ∧ write (write F g s a W).2 g s a W = (0, (write F g s a W).2) ∧ ∀ j, (write F g s a W).2.ws.getD j 0 = if addr g s a ≤ j ∧ j < addr g s a + W.length then W.getD (j - addr g s a) 0 else F.ws.getD j 0) := by
  rcases bad_pow_or hp g s a W.length with hb | hb
  · by_cases hf : fits F (addr g s a) W
    · right
      have e : write F g s a W = prog F (addr g s a) W := by rw [write, if_neg (fun h => h hb), if_neg (fun h => h hf)]
      rw [e]
      have hin := addr_in ok ft (bad_zero hb).1
      obtain ⟨r1, r2, r3, r4⟩ := prog_pow W F _ hp hf (by have := hin.2.1; rwa [Int.toNat_natCast] at this)
      have hsame : ∀ i, i < W.length → (prog F (addr g s a) W).2.ws.getD (addr g s a + i) 0 = W.getD i 0 := fun i hi => by rw [r4, if_pos (by omega), Nat.add_sub_cancel_left]
      refine ⟨r1, hb, ?_, r4⟩
      rw [write, if_neg (by rw [bad_pow hp r2]; exact fun h => h hb), if_neg (fun h => h fun i hi => by rw [hsame i hi]; exact clr_self (getD_lt hW (by decide) i))]
      exact prog_same W _ _ hsame
    · left
      have e : write F g s a W = (11, F) := by rw [write, if_neg (fun h => h hb), if_pos hf]
      rw [e]
      exact ⟨.inr rfl, rfl⟩
  · left
    have e : write F g s a W = (3, F) := by rw [write, if_pos (by rw [hb]; decide), hb]
    rw [e]
    exact ⟨.inl rfl, rfl⟩
theorem ones_at {F : Fl} {A n i : Nat} (h : ones F A n = true) (hi : i < n) : F.ws.getD (A + i) 0 = 4294967295 := by
  unfold ones at h
  rw [List.all_eq_true] at h
  simpa using h i (List.mem_range.2 hi)
/-- a sector behind Clean -/
theorem clean_stands {F : Fl} {g : Geo} (ok : F.Ok) (ft : Fit F g) (hp : Pow F) (s : Int) (h0 : 0 ≤ s) (h1 : s < g.sectors) :
    (clean F g s).1 = 0 ∧ Pow (clean F g s).2 ∧ ∀ j, (clean F g s).2.ws.getD j 0 = if addr g s 0 ≤ j ∧ j < addr g s 0 + g.sector.toNat then 4294967295 else F.ws.getD j 0 := by
  have hs : g.sector ≤ 1024 ∧ 64 ≤ g.sector := ⟨ft.right.1.2, ft.right.1.1⟩
  have hin : 0 ≤ s ∧ s < g.sectors ∧ (0 : Int) ≤ 0 ∧ 0 ≤ g.sector - 0 ∧ g.sector - 0 ≤ g.sector - 0 := ⟨h0, h1, Int.le_refl _, by omega, Int.le_refl _⟩
  have hb : bad F g s 0 (g.sector - 0) = 0 := by
    unfold bad
    rw [if_pos hin, hp.1]; rfl
  have ha := addr_in ok ft hin
  have eb : blankAt F g s 0 = (ones F (addr g s 0) g.sector.toNat, 0) := by rw [blankAt, if_neg (fun h => h hb), Int.sub_zero]
  unfold clean
  rw [eb]
  simp only [ne_eq, not_true_eq_false, false_or]
  cases ho : ones F (addr g s 0) g.sector.toNat with
  | true =>
    rw [if_pos rfl]
    refine ⟨rfl, hp, fun j => ?_⟩
    split
    · rename_i hj
      have := ones_at ho (show j - addr g s 0 < g.sector.toNat by omega)
      rw [show addr g s 0 + (j - addr g s 0) = j by omega] at this
      exact this
    · rfl
  | false =>
    rw [if_neg (by decide)]
    obtain ⟨k, rfl⟩ := Int.eq_ofNat_of_zero_le h0
    have hk : k < F.worn.length := by have := ft.n; omega
    have e : F.erase k = (0, F.wrote (run flash.blank (k * F.long) F.long F.ws) (F.worn1 k)) := by
      rw [Fl.erase, if_neg (by rw [hp.1]; decide), if_neg (by omega), Int.toNat_natCast, hp.2]; rfl
    have hL : g.sector.toNat = F.long := by have := ft.l; omega
    have hA : addr g k 0 = k * F.long := by
      have h2 := ha.1
      rw [← ft.l] at h2
      have h3 : ((k * F.long : Nat) : Int) = (k : Int) * (F.long : Int) := by simp
      omega
    rw [e, hA, hL]
    refine ⟨rfl, wrote_pow hp _ _, fun j => ?_⟩
    show (run flash.blank (k * F.long) F.long F.ws).getD j 0 = _
    rw [run_getD _ _ _ _ _ (ok.sector hk)]
    rfl
theorem clr_ones (a : Nat) : clr a 4294967295 = 0 := clr_blank a
/-- behind Fresh -/
theorem fresh_stands {F : Fl} {g : Geo} (ok : F.Ok) (ft : Fit F g) (hp : Pow F) (s : Int) (W : List Nat) :
    ((fresh F g s W).1 = 3 ∧ (fresh F g s W).2 = F) ∨
    ((fresh F g s W).1 = 0 ∧ bad F g s 0 W.length = 0 ∧ ∀ j, (fresh F g s W).2.ws.getD j 0 = if addr g s 0 ≤ j ∧ j < addr g s 0 + W.length then W.getD (j - addr g s 0) 0 else if addr g s 0 ≤ j ∧ j < addr g s 0 + g.sector.toNat then 4294967295 else F.ws.getD j 0) := by
  rcases bad_pow_or hp g s 0 W.length with hb | hb
  · right
    have hin := (bad_zero hb).1
    have st := clean_step ok g s
    obtain ⟨c1, c2, c3⟩ := clean_stands ok ft hp s hin.1 hin.2.1
    have ha := addr_in st.ok (ft.like st.like) hin
    rw [Int.toNat_natCast] at ha
    have hs : W.length ≤ g.sector.toNat := by have := hin.2.2.2.2; omega
    have hf : fits (clean F g s).2 (addr g s 0) W := fun i hi => by rw [c3, if_pos (by omega)]; exact clr_ones _
    obtain ⟨r1, r2, r3, r4⟩ := prog_pow W _ _ c2 hf ha.2.1
    have e : fresh F g s W = prog (clean F g s).2 (addr g s 0) W := by
      rw [fresh, if_neg (fun h => h hb), if_neg (fun h => h c1), write, if_neg (by rw [bad_pow hp c2]; exact fun h => h hb), if_neg (fun h => h hf)]
    rw [e]
    refine ⟨r1, hb, fun j => ?_⟩
    rw [r4 j, c3 j]
  · left
    have e : fresh F g s W = (3, F) := by rw [fresh, if_pos (by rw [hb]; decide), hb]
    rw [e]
    exact ⟨rfl, rfl⟩
end Go.Proofs.Ytcigijhoeghnnaa.drive
/- Contract of the reference's Same of layer 1 at two slices that read alike. -/
namespace Go.Proofs.Ytcigijhoeghnnaa.word
open Go.RowKit
set_option linter.unusedVariables false

set_option maxHeartbeats 1600000 in
theorem same_any (a b : Option Addr) (len ca cb : Nat) (xs : List Nat) (w : World) (ha : Reads .u32 w a len xs) (hb : Reads .u32 w b len xs) (hl : len * 4 ≤ 140737488355328) :
    Calls Try.prog 15 #[.slice a len ca, .slice b len cb] w (Quiet (.bool true) w) := by
  have hq : ((len : Int) != len) = false := by simp
  go_enter Try.func15, Try.ntmps15
  go_wp2
  go_loopw [5] (fun i wr => ∃ k : Nat, k ≤ len ∧ i = .int .i64 k ∧ ∃ m, wr = w.drewN m) (fun i _ => len - (intOf i).toNat)
  case atStart => exact ⟨0, Nat.zero_le _, rfl, 0, rfl⟩
  case round =>
    obtain ⟨k, hk, rfl, m, rfl⟩ := hrel
    by_cases hlt : k < len
    · obtain ⟨b1, o1, rfl, _, hc1⟩ := ha.at hlt
      obtain ⟨b2, o2, rfl, _, hc2⟩ := hb.at hlt
      have c1 := hc1 k hlt
      have c2 := hc2 k hlt
      have i1 : (k : Int) < len := by omega
      clear hc1 hc2
      generalize xs.getD k 0 = x1 at *
      have hn : ((x1 : Int) != x1) = false := by simp
      have c1' : (w.drewN m).cell? ⟨b1, o1 + k, none⟩ = some (.int .u32 (x1 : Int)) := c1
      have c2' : (w.drewN m).cell? ⟨b2, o2 + k, none⟩ = some (.int .u32 (x1 : Int)) := c2
      go_wp2
      go_quiet (fail)
      go_wp2
      exact ⟨⟨k + 1, by omega, by go_num, ⟨_, rfl⟩⟩, by simp [intOf]; omega⟩
    · go_wp2
      go_ret
      exact ⟨rfl, _, rfl⟩
end Go.Proofs.Ytcigijhoeghnnaa.word
/- A drive of the call's own beside two variables of the call and rows of words that came out of the flash. No condition but a flash with fewer than 2^60 writes. -/
namespace Go.Proofs.Ytcigijhoeghnnaa.drive
open Go.RowKit Go.Proofs.Ytcigijhoeghnnaa.flash Go.Proofs.Ytcigijhoeghnnaa.geom Go.Proofs.Ytcigijhoeghnnaa.word
set_option linter.unusedVariables false

/-- the drive at d over the flash at b; the geometry at p0, the act at p1; rows of words -/
structure Keep (w : World) (S : Nat → Prop) (d b : Nat) (g : Geo) (F : Fl) (p0 p1 : Nat) (vs : List Value) (rows : List (Nat × List Nat)) (wr : World) : Prop where
  dr : DriveAt S d b g F wr
  ms : ∀ x, S x → w.heap.size ≤ x ∧ x < wr.heap.size
  b0 : Block wr p0 23 [.int .i64 g.sector, .int .i64 g.slot, .int .i64 g.data, .int .i64 g.quota, .int .i64 g.tries, .int .i64 g.life]
  b1 : Block wr p1 43 vs
  n0 : ¬ S p0
  n1 : ¬ S p1
  d1 : d ≠ p1
  d2 : p0 ≠ p1
  l1 : w.heap.size ≤ p1
  rs : ∀ q ∈ rows, Reads .u32 wr (some ⟨q.1, 0, none⟩) q.2.length q.2 ∧ q.1 < wr.heap.size ∧ ¬ S q.1
  bl : Below w.heap.size w wr
def KR (w : World) (d b : Nat) (g : Geo) (F : Fl) (p0 p1 : Nat) (vs : List Value) (rows : List (Nat × List Nat)) (wr : World) : Prop := ∃ S, Keep w S d b g F p0 p1 vs rows wr
section
variable {w wr w' : World} {S : Nat → Prop} {d b p0 p1 : Nat} {g : Geo} {F G : Fl} {vs : List Value} {rows : List (Nat × List Nat)}
theorem Keep.later (h : Keep w S d b g F p0 p1 vs rows wr) (k : Below wr.heap.size wr w') : Keep w S d b g F p0 p1 vs rows w' :=
  ⟨h.dr.later k, fun x hx => ⟨(h.ms x hx).1, Nat.lt_of_lt_of_le (h.ms x hx).2 k.size⟩, h.b0.later k, h.b1.later k, h.n0, h.n1, h.d1, h.d2, h.l1, fun q hq => ⟨(h.rs q hq).1.below k, Nat.lt_of_lt_of_le (h.rs q hq).2.1 k.size, (h.rs q hq).2.2⟩, h.bl.trans (k.mono h.bl.size)⟩
theorem KR.later (h : KR w d b g F p0 p1 vs rows wr) (k : Below wr.heap.size wr w') : KR w d b g F p0 p1 vs rows w' := by
  obtain ⟨S, h⟩ := h
  exact ⟨S, h.later k⟩
theorem KR.below (h : KR w d b g F p0 p1 vs rows wr) : Below w.heap.size w wr := by obtain ⟨S, h⟩ := h; exact h.bl
theorem Keep.turn (h : Keep w S d b g F p0 p1 vs rows wr) (k : Turn S b G wr w') : KR w d b g G p0 p1 vs rows w' := by
  obtain ⟨S', hD, k2, k3⟩ := h.dr.turn k
  have hn : ∀ x, x < wr.heap.size → ¬ S x → ¬ S' x := fun x hx hs hs' => by
    rcases (k2 x hs').2 with h1 | h1
    · exact hs h1
    · omega
  refine ⟨S', hD, fun x hx => ⟨?_, (k2 x hx).1⟩, h.b0.only k3 h.n0, h.b1.only k3 h.n1, hn _ h.b0.lt h.n0, hn _ h.b1.lt h.n1, h.d1, h.d2, h.l1, fun q hq => ?_, h.bl.trans (k3.below h.bl.size fun x hx => (h.ms x hx).1)⟩
  · rcases (k2 x hx).2 with h1 | h1
    · exact (h.ms x h1).1
    · have := h.bl.size; omega
  · obtain ⟨hr, hl, hs⟩ := h.rs q hq
    exact ⟨reads_only hr k3 (.inr ⟨_, rfl, hs⟩), Nat.lt_of_lt_of_le hl k3.size, hn _ hl hs⟩
theorem KR.geo (h : KR w d b g F p0 p1 vs rows wr) : (wr.cell? ⟨p0, 0, none⟩ = some (.int .i64 g.sector) ∧ wr.cell? ⟨p0, 1, none⟩ = some (.int .i64 g.slot) ∧ wr.cell? ⟨p0, 2, none⟩ = some (.int .i64 g.data) ∧ wr.cell? ⟨p0, 3, none⟩ = some (.int .i64 g.quota) ∧ wr.cell? ⟨p0, 4, none⟩ = some (.int .i64 g.tries) ∧ wr.cell? ⟨p0, 5, none⟩ = some (.int .i64 g.life)) := by
  obtain ⟨S, h⟩ := h
  exact ⟨h.b0.cell 0, h.b0.cell 1, h.b0.cell 2, h.b0.cell 3, h.b0.cell 4, h.b0.cell 5⟩
theorem KR.act {x0 x1 x2 x3 x4 : Value} (h : KR w d b g F p0 p1 [x0, x1, x2, x3, x4] rows wr) : wr.cell? ⟨p1, 0, none⟩ = some x0 ∧ wr.cell? ⟨p1, 1, none⟩ = some x1 ∧ wr.cell? ⟨p1, 2, none⟩ = some x2 ∧ wr.cell? ⟨p1, 3, none⟩ = some x3 ∧ wr.cell? ⟨p1, 4, none⟩ = some x4 := by
  obtain ⟨S, h⟩ := h
  exact ⟨h.b1.cell 0, h.b1.cell 1, h.b1.cell 2, h.b1.cell 3, h.b1.cell 4⟩
theorem KR.frozen (h : KR w d b g F p0 p1 vs rows wr) (i : Nat) : wr.frozen? ⟨p1, i, none⟩ = false := by
  obtain ⟨S, h⟩ := h
  exact h.b1.frozen i
/-- a cell of the act turned -/
theorem KR.store (h : KR w d b g F p0 p1 vs [] wr) (i : Nat) (v : Value) : KR w d b g F p0 p1 (vs.set i v) [] (wr.setCell ⟨p1, i, none⟩ v) := by
  obtain ⟨S, h⟩ := h
  have hO : Only (fun x => x = p1) wr (wr.setCell ⟨p1, i, none⟩ v) := (Only.refl (fun x => x = p1) wr).setCell (.inl rfl) i v
  refine ⟨S, ⟨h.dr.blk.only hO h.d1, h.dr.fl.only hO (by rintro x rfl; exact h.n1), h.dr.nd⟩, fun x hx => ⟨(h.ms x hx).1, Nat.lt_of_lt_of_le (h.ms x hx).2 hO.size⟩, h.b0.only hO h.d2, h.b1.setCell i v, h.n0, h.n1, h.d1, h.d2, h.l1, fun q hq => (by cases hq), below_setCells h.bl h.l1 i [v]⟩
theorem KR.reads (h : KR w d b g F p0 p1 vs rows wr) {q : Nat × List Nat} (hq : q ∈ rows) : Reads .u32 wr (some ⟨q.1, 0, none⟩) q.2.length q.2 := by
  obtain ⟨S, h⟩ := h
  exact (h.rs q hq).1
theorem kr_do (h : KR w d b g F p0 p1 vs rows wr) (ok : F.Ok) (ft : Fit F g) (hc : F.count < 1152921504606846976) (k s a n : Int) (x : Option Addr) (len cap : Nat) (W : List Nat)
    (ha : a ≤ 9223372036854775807) (hn : n ≤ 9223372036854775807) (hr : Reads .u32 w x len W) (hW : ∀ y ∈ W, y < 4294967296) (hlc : len ≤ cap) (hcap : cap ≤ maxLen) (hlen : len ≤ 140737488355328) (hsep : len = 0 ∨ ∃ y, x = some y ∧ y.block < w.heap.size) :
    Calls Try.prog 13 #[.pointer (some ⟨b, 0, none⟩), .pointer (some ⟨d, 0, none⟩), .agg #[.int .i64 k, .int .i64 s, .int .i64 a, .int .i64 n, .slice x len cap]] wr fun o w' =>
      ∃ x m c v, o = .returned (.tuple #[.slice x m c, .bool v, .int .i64 (step F g k s a n W).1.2.2]) ∧ KR w d b g (step F g k s a n W).2 p0 p1 vs rows w' := by
  obtain ⟨S, h⟩ := h
  refine (do_this h.dr ok ft hc k s a n x len cap W ha hn (hr.below h.bl) hW hlc hcap hlen (hsep.imp id fun ⟨y, hy, ho⟩ => ⟨y, hy, fun hs => by have := (h.ms _ hs).1; omega⟩)).mono ?_
  rintro o w' ⟨x1, c1, he, _, _, ht⟩
  exact ⟨x1, _, c1, _, he, h.turn ht⟩
theorem kr_words (h : KR w d b g F p0 p1 vs rows wr) (ok : F.Ok) : Calls Try.prog 17 #[.pointer (some ⟨b, 0, none⟩)] wr fun o w' => ∃ q c, o = .returned (.slice (some ⟨q, 0, none⟩) F.ws.length c) ∧ KR w d b g F p0 p1 vs ((q, F.ws) :: rows) w' := by
  obtain ⟨S, h⟩ := h
  obtain ⟨ca, cb, cm, bw, cw, bv, cv, h1⟩ := h.dr.fl
  refine (words_any h1 ok).mono ?_
  rintro o w' ⟨q, c, rfl, hq, hr, hb⟩
  have h2 := h.later hb
  refine ⟨q, c, rfl, S, h2.dr, h2.ms, h2.b0, h2.b1, h2.n0, h2.n1, h2.d1, h2.d2, h2.l1, fun r hr2 => ?_, h2.bl⟩
  rcases List.mem_cons.1 hr2 with rfl | hr2
  · exact ⟨hr.reads, hr.lt, fun hs => by have := (h.ms _ hs).2; simp at this; omega⟩
  · exact h2.rs r hr2
theorem kr_writes (h : KR w d b g F p0 p1 vs rows wr) : Calls Try.prog 16 #[.pointer (some ⟨b, 0, none⟩)] wr fun o w' => o = .returned (.int .i64 F.count) ∧ KR w d b g F p0 p1 vs rows w' := by
  have H := h
  obtain ⟨S, h⟩ := h
  obtain ⟨ca, cb, cm, bw, cw, bv, cv, h1⟩ := h.dr.fl
  refine (writes_any b _ wr h1.cell.2.2.2.2.2.2.1).mono ?_
  rintro o w' ⟨he, n, rfl⟩
  exact ⟨he, H.later (below_drewN (Below.refl _ _) n)⟩
theorem kr_power (h : KR w d b g F p0 p1 vs rows wr) : Calls Try.prog 18 #[.pointer (some ⟨b, 0, none⟩)] wr fun o w' => o = .returned (.tuple #[]) ∧ KR w d b g F.power p0 p1 vs rows w' := by
  obtain ⟨S, h⟩ := h
  refine (power_did h.dr.fl).mono ?_
  rintro o w' ⟨he, k⟩
  exact ⟨he, h.turn k⟩
theorem kr_same (h : KR w d b g F p0 p1 vs rows wr) {q1 q2 : Nat} {xs : List Nat} (h1 : (q1, xs) ∈ rows) (h2 : (q2, xs) ∈ rows) (hl : xs.length ≤ 1048576) (c1 c2 : Nat) :
    Calls Try.prog 15 #[.slice (some ⟨q1, 0, none⟩) xs.length c1, .slice (some ⟨q2, 0, none⟩) xs.length c2] wr fun o w' => o = .returned (.bool true) ∧ KR w d b g F p0 p1 vs rows w' := by
  refine (same_any _ _ xs.length c1 c2 xs wr (h.reads h1) (h.reads h2) (by omega)).mono ?_
  rintro o w' ⟨he, n, rfl⟩
  exact ⟨he, h.later (below_drewN (Below.refl _ _) n)⟩
/-- the start -/
theorem kr_start {w0 : World} (h : Own w0 d b g F wr) (hb0 : Block wr p0 23 [.int .i64 g.sector, .int .i64 g.slot, .int .i64 g.data, .int .i64 g.quota, .int .i64 g.tries, .int .i64 g.life]) (hb1 : Block wr p1 43 vs) (h0 : p0 < w0.heap.size) (h1 : p1 < w0.heap.size) (hl : w.heap.size ≤ p1) (hne : p0 ≠ p1) (hbl : Below w.heap.size w w0) : KR w d b g F p0 p1 vs [] wr := by
  obtain ⟨S, k1, k2, k3, k4⟩ := h
  exact ⟨S, k1, fun x hx => ⟨Nat.le_trans hbl.size (k2 x hx).1, (k2 x hx).2⟩, hb0, hb1, fun hs => by have := (k2 _ hs).1; omega, fun hs => by have := (k2 _ hs).1; omega, by omega, hne, hl, fun q hq => (by cases hq), hbl.trans (k4.mono hbl.size)⟩
end
end Go.Proofs.Ytcigijhoeghnnaa.drive
/- Contract of the law file's great of layer 9, for every list of acts. No condition. -/
namespace Go.Proofs.Ytcigijhoeghnnaa.drive
open Go.RowKit
set_option linter.unusedVariables false

def bigL (l : List DAct) : Bool := (l.take 61).any (fun q => decide (200 < q.wLen)) || decide (60 < l.length)
theorem not_big {l : List DAct} (h : bigL l = false) : l.length ≤ 60 ∧ ∀ q ∈ l, q.wLen ≤ 200 := by
  unfold bigL at h
  rw [Bool.or_eq_false_iff] at h
  obtain ⟨h1, h2⟩ := h
  have h3 : l.length ≤ 60 := by simpa using h2
  refine ⟨h3, fun q hq => ?_⟩
  rw [List.take_of_length_le (by omega), List.any_eq_false] at h1
  have := h1 q hq
  simpa using this
set_option maxHeartbeats 1600000 in
theorem great_any (a0 : Option Addr) (cap : Nat) (l : List DAct) (w : World) (ac : DActs w a0 l) (hcap : l.length ≤ maxLen) : Calls Try.prog 7 #[.slice a0 l.length cap] w (Quiet (.bool (bigL l)) w) := by
  have hml : (l.length : Int) ≤ 9223372036854775807 := by unfold maxLen at hcap; omega
  go_enter Try.func7, Try.ntmps7
  go_wp2
  go_loopw [3] (fun i wr => ∃ k : Nat, k ≤ l.length ∧ k ≤ 61 ∧ i = .int .i64 (k : Int) ∧ wr = w ∧ Hid ((l.take k).any (fun q => decide (200 < q.wLen)) = false)) (fun i _ => 61 - (intOf i).toNat)
  case atStart => exact ⟨0, Nat.zero_le _, Nat.zero_le _, rfl, rfl, hid (by simp)⟩
  case round =>
    obtain ⟨k, hk, hk2, rfl, rfl, hno⟩ := hrel
    by_cases h1 : k < l.length
    · by_cases h2 : k < 61
      · obtain ⟨b, off, p, rfl, hlt, hp, c0, c1, c2, c3, c4⟩ := ac.at h1
        have i1 : (k : Int) < l.length := by omega
        have hstep : (l.take (k + 1)).any (fun q => decide (200 < q.wLen)) = ((l.take k).any (fun q => decide (200 < q.wLen)) || decide (200 < p.wLen)) := by
          rw [List.take_add_one, hp]; simp
        rw [hno.out, Bool.false_or] at hstep
        have HST := hid hstep
        have HP := hid hp
        clear hstep hp ac c0 c1 c2 c3
        by_cases h3 : 200 < p.wLen
        · go_wp2
          go_ret
          refine ⟨ret_bool ?_, 0, rfl⟩
          unfold bigL
          rw [show (l.take 61).any (fun q => decide (200 < q.wLen)) = true from ?_, Bool.true_or]
          rw [List.any_eq_true]
          exact ⟨p, List.mem_of_getElem? (i := k) (by rw [List.getElem?_take, if_pos h2]; exact HP.out), by simpa using h3⟩
        · go_wp2
          exact ⟨⟨k + 1, by omega, by omega, by go_num, trivial, hid (by rw [HST.out]; simpa using h3)⟩, by simp [intOf]; omega⟩
      · obtain rfl : k = 61 := by omega
        have h4 : (60 : Int) < l.length := by omega
        have HE : Hid (bigL l = true) := hid (by unfold bigL; rw [show decide (60 < l.length) = true from decide_eq_true (by omega), Bool.or_true])
        clear ac
        go_wp2
        go_ret
        exact ⟨ret_bool HE.out.symm, 0, rfl⟩
    · obtain rfl : k = l.length := by omega
      have HE : Hid (bigL l = decide (60 < l.length)) := hid (by
        unfold bigL
        have := hno.out
        rw [List.take_of_length_le (Nat.le_refl _)] at this
        rw [List.take_of_length_le hk2, this, Bool.false_or])
      clear ac
      generalize l.length = n at *
      go_wp2
      go_ret
      exact ⟨ret_bool (by rw [HE.out]; by_cases h : 60 < n <;> simp <;> omega), 0, rfl⟩
end Go.Proofs.Ytcigijhoeghnnaa.drive
/- The lowest bit of a number. No condition. -/
namespace Go.Proofs.Ytcigijhoeghnnaa.drive
open Go.RowKit
set_option linter.unusedVariables false
theorem and_one (k : Int) : bits .and .i64 k 1 = 0 ∨ bits .and .i64 k 1 = 1 := by
  have h : (BitVec.ofInt 64 k &&& BitVec.ofInt 64 1).toNat = 0 ∨ (BitVec.ofInt 64 k &&& BitVec.ofInt 64 1).toNat = 1 := by
    rw [BitVec.toNat_and, show (BitVec.ofInt 64 1).toNat = 1 from rfl, Nat.and_one_is_mod]
    omega
  have e : bits .and .i64 k 1 = IntKind.i64.wrap ((BitVec.ofInt 64 k &&& BitVec.ofInt 64 1).toNat : Int) := rfl
  rcases h with h | h
  · left; rw [e, h]; rfl
  · right; rw [e, h]; rfl
end Go.Proofs.Ytcigijhoeghnnaa.drive
/- DriveStands: behind a Write that is OK the run is what was written, and all else is as it was; behind Fresh all behind it is ones; what is refused writes nothing, and what was written is not written again. No condition. Here: where the law file's awake decides. -/
namespace Go.Proofs.Ytcigijhoeghnnaa.driveStands
open Go.RowKit Go.Proofs.Ytcigijhoeghnnaa.drive Go.Proofs.Ytcigijhoeghnnaa.geom Go.Proofs.Ytcigijhoeghnnaa.flash
set_option linter.unusedVariables false

/-- what the two arguments, when they have just been boxed, go on holding -/
theorem held (g : Geo) (k s a n : Int) (pw : Option Addr) (len pcap : Nat) (w : World) : Hid (∀ w', Below ((w.alloc (.cells #[.int .i64 g.sector, .int .i64 g.slot, .int .i64 g.data, .int .i64 g.quota, .int .i64 g.tries, .int .i64 g.life] 23)).alloc (.cells #[.int .i64 k, .int .i64 s, .int .i64 a, .int .i64 n, .slice pw len pcap] 43)).heap.size ((w.alloc (.cells #[.int .i64 g.sector, .int .i64 g.slot, .int .i64 g.data, .int .i64 g.quota, .int .i64 g.tries, .int .i64 g.life] 23)).alloc (.cells #[.int .i64 k, .int .i64 s, .int .i64 a, .int .i64 n, .slice pw len pcap] 43)) w' → (w'.cell? ⟨w.heap.size, 0, none⟩ = some (.int .i64 g.sector) ∧ w'.cell? ⟨w.heap.size, 1, none⟩ = some (.int .i64 g.slot) ∧ w'.cell? ⟨w.heap.size, 2, none⟩ = some (.int .i64 g.data) ∧ w'.cell? ⟨w.heap.size, 3, none⟩ = some (.int .i64 g.quota) ∧ w'.cell? ⟨w.heap.size, 4, none⟩ = some (.int .i64 g.tries) ∧ w'.cell? ⟨w.heap.size, 5, none⟩ = some (.int .i64 g.life)) ∧ (w'.cell? ⟨w.heap.size + 1, 0, none⟩ = some (.int .i64 k) ∧ w'.cell? ⟨w.heap.size + 1, 1, none⟩ = some (.int .i64 s) ∧ w'.cell? ⟨w.heap.size + 1, 2, none⟩ = some (.int .i64 a) ∧ w'.cell? ⟨w.heap.size + 1, 3, none⟩ = some (.int .i64 n) ∧ w'.cell? ⟨w.heap.size + 1, 4, none⟩ = some (.slice pw len pcap)) ∧ Block w' w.heap.size 23 [.int .i64 g.sector, .int .i64 g.slot, .int .i64 g.data, .int .i64 g.quota, .int .i64 g.tries, .int .i64 g.life] ∧ Block w' (w.heap.size + 1) 43 [.int .i64 k, .int .i64 s, .int .i64 a, .int .i64 n, .slice pw len pcap] ∧ Below w.heap.size w w') := hid (by
  intro w' hb
  have B1 := Block.new w 23 [.int .i64 g.sector, .int .i64 g.slot, .int .i64 g.data, .int .i64 g.quota, .int .i64 g.tries, .int .i64 g.life]
  have B2 := Block.new (w.alloc (.cells #[.int .i64 g.sector, .int .i64 g.slot, .int .i64 g.data, .int .i64 g.quota, .int .i64 g.tries, .int .i64 g.life] 23)) 43 [.int .i64 k, .int .i64 s, .int .i64 a, .int .i64 n, .slice pw len pcap]
  have C1 := (B1.alloc (.cells #[.int .i64 k, .int .i64 s, .int .i64 a, .int .i64 n, .slice pw len pcap] 43)).later hb
  have C2 := B2.later hb
  rw [show (w.alloc (.cells #[.int .i64 g.sector, .int .i64 g.slot, .int .i64 g.data, .int .i64 g.quota, .int .i64 g.tries, .int .i64 g.life] 23)).heap.size = w.heap.size + 1 by simp] at C2
  refine ⟨⟨C1.cell 0, C1.cell 1, C1.cell 2, C1.cell 3, C1.cell 4, C1.cell 5⟩, ⟨C2.cell 0, C2.cell 1, C2.cell 2, C2.cell 3, C2.cell 4⟩, C1, C2, ?_⟩
  exact (((Below.refl _ w).alloc (Nat.le_refl _) _).alloc (by simp) _).trans (hb.mono (by simp; omega)))
theorem small_from (g : Geo) (v : Bool) (hv : Hid (v = true ↔ Small g)) (w0 w : World) (hb : Below w0.heap.size w0 w) : Calls Try.prog 6 #[.agg #[.int .i64 g.sector, .int .i64 g.slot, .int .i64 g.data, .int .i64 g.quota, .int .i64 g.tries, .int .i64 g.life]] w fun e w' => e = .returned (.bool v) ∧ Below w0.heap.size w0 w' :=
  (small_this g v hv w).mono fun _ _ ⟨he, hw⟩ => ⟨he, hb.trans (hw.mono hb.size)⟩
set_option maxHeartbeats 16000000 in
set_option maxRecDepth 20000 in
theorem awake0 (g : Geo) (a0 : Option Addr) (cap : Nat) (l : List DAct) (k s a n : Int) (pw : Option Addr) (len pcap : Nat) (w : World) (ac : DActs w a0 l) (hcapl : l.length ≤ maxLen) (h : ¬ Small g) : Calls Try.prog 4 #[.agg #[.int .i64 g.sector, .int .i64 g.slot, .int .i64 g.data, .int .i64 g.quota, .int .i64 g.tries, .int .i64 g.life], .slice a0 l.length cap, .agg #[.int .i64 k, .int .i64 s, .int .i64 a, .int .i64 n, .slice pw len pcap]] w (Yes w) := by
  have HS := held g k s a n pw len pcap w
  obtain ⟨w0, hw0⟩ : ∃ z, Hid (((w.alloc (.cells #[.int .i64 g.sector, .int .i64 g.slot, .int .i64 g.data, .int .i64 g.quota, .int .i64 g.tries, .int .i64 g.life] 23)).alloc (.cells #[.int .i64 k, .int .i64 s, .int .i64 a, .int .i64 n, .slice pw len pcap] 43)) = z) := ⟨_, rfl⟩
  rw [hw0.out] at HS
  have hb0 : Below w0.heap.size w0 w0 := Below.refl _ _
  have hac := ac.below (HS.out w0 hb0).2.2.2.2
  have hgr := fun w' (hb : Below w0.heap.size w0 w') => great_any a0 cap l w' (hac.below hb) hcapl
  have ca := fun w' hb => awake_at w0 w' hb
  have cs := small_from g false (hid ⟨fun k => (by cases k), fun k => absurd k h⟩) w0 w0 hb0
  clear hgr hac ac h
  go_enter Try.func4, Try.ntmps4
  go_wp2_with fail
  rw [hw0.out]
  obtain ⟨hk0, hx0, _⟩ := HS.out w0 hb0
  go_wp2_with (first
    | (go_at_call 6; (with_reducible refine cs.mono ?_); rintro e w1 ⟨rfl, hb1⟩; obtain ⟨hk1, hx1, _⟩ := HS.out w1 hb1)
    | (go_at_call 8; (with_reducible refine (ca _ hb1).mono ?_); rintro e w9 ⟨rfl, hb9⟩))
  go_ret
  exact ⟨rfl, (HS.out _ hb9).2.2.2.2⟩
set_option maxHeartbeats 16000000 in
set_option maxRecDepth 20000 in
theorem awake1 (g : Geo) (a0 : Option Addr) (cap : Nat) (l : List DAct) (k s a n : Int) (pw : Option Addr) (len pcap : Nat) (w : World) (ac : DActs w a0 l) (hcapl : l.length ≤ maxLen) (h : Small g) (h1 : bigL l = true) : Calls Try.prog 4 #[.agg #[.int .i64 g.sector, .int .i64 g.slot, .int .i64 g.data, .int .i64 g.quota, .int .i64 g.tries, .int .i64 g.life], .slice a0 l.length cap, .agg #[.int .i64 k, .int .i64 s, .int .i64 a, .int .i64 n, .slice pw len pcap]] w (Yes w) := by
  have HS := held g k s a n pw len pcap w
  obtain ⟨w0, hw0⟩ : ∃ z, Hid (((w.alloc (.cells #[.int .i64 g.sector, .int .i64 g.slot, .int .i64 g.data, .int .i64 g.quota, .int .i64 g.tries, .int .i64 g.life] 23)).alloc (.cells #[.int .i64 k, .int .i64 s, .int .i64 a, .int .i64 n, .slice pw len pcap] 43)) = z) := ⟨_, rfl⟩
  rw [hw0.out] at HS
  have hb0 : Below w0.heap.size w0 w0 := Below.refl _ _
  have hac := ac.below (HS.out w0 hb0).2.2.2.2
  have hgr := fun w' (hb : Below w0.heap.size w0 w') => great_any a0 cap l w' (hac.below hb) hcapl
  have ca := fun w' hb => awake_at w0 w' hb
  have cs := small_from g true (hid ⟨fun _ => h, fun _ => rfl⟩) w0 w0 hb0
  rw [h1] at hgr
  clear hac ac h h1
  go_enter Try.func4, Try.ntmps4
  go_wp2_with fail
  rw [hw0.out]
  obtain ⟨hk0, hx0, _⟩ := HS.out w0 hb0
  go_wp2_with (first
    | (go_at_call 6; (with_reducible refine cs.mono ?_); rintro e w1 ⟨rfl, hb1⟩; obtain ⟨hk1, hx1, _⟩ := HS.out w1 hb1)
    | (go_at_call 7; (with_reducible refine (hgr _ hb1).mono ?_); rintro e w2 ⟨rfl, m, rfl⟩; have hb2 := below_drewN hb1 m; obtain ⟨hk2, hx2, _⟩ := HS.out _ hb2)
    | (go_at_call 8; (with_reducible refine (ca _ hb2).mono ?_); rintro e w9 ⟨rfl, hb9⟩))
  go_ret
  exact ⟨rfl, (HS.out _ hb9).2.2.2.2⟩
set_option maxHeartbeats 16000000 in
set_option maxRecDepth 20000 in
theorem awake2 (g : Geo) (a0 : Option Addr) (cap : Nat) (l : List DAct) (k s a n : Int) (pw : Option Addr) (len pcap : Nat) (w : World) (ac : DActs w a0 l) (hcapl : l.length ≤ maxLen) (h : Small g) (h1 : bigL l = false) (h2 : 200 < len) : Calls Try.prog 4 #[.agg #[.int .i64 g.sector, .int .i64 g.slot, .int .i64 g.data, .int .i64 g.quota, .int .i64 g.tries, .int .i64 g.life], .slice a0 l.length cap, .agg #[.int .i64 k, .int .i64 s, .int .i64 a, .int .i64 n, .slice pw len pcap]] w (Yes w) := by
  have HS := held g k s a n pw len pcap w
  obtain ⟨w0, hw0⟩ : ∃ z, Hid (((w.alloc (.cells #[.int .i64 g.sector, .int .i64 g.slot, .int .i64 g.data, .int .i64 g.quota, .int .i64 g.tries, .int .i64 g.life] 23)).alloc (.cells #[.int .i64 k, .int .i64 s, .int .i64 a, .int .i64 n, .slice pw len pcap] 43)) = z) := ⟨_, rfl⟩
  rw [hw0.out] at HS
  have hb0 : Below w0.heap.size w0 w0 := Below.refl _ _
  have hac := ac.below (HS.out w0 hb0).2.2.2.2
  have hgr := fun w' (hb : Below w0.heap.size w0 w') => great_any a0 cap l w' (hac.below hb) hcapl
  have ca := fun w' hb => awake_at w0 w' hb
  have cs := small_from g true (hid ⟨fun _ => h, fun _ => rfl⟩) w0 w0 hb0
  rw [h1] at hgr
  clear hac ac h h1
  go_enter Try.func4, Try.ntmps4
  go_wp2_with fail
  rw [hw0.out]
  obtain ⟨hk0, hx0, _⟩ := HS.out w0 hb0
  go_wp2_with (first
    | (go_at_call 6; (with_reducible refine cs.mono ?_); rintro e w1 ⟨rfl, hb1⟩; obtain ⟨hk1, hx1, _⟩ := HS.out w1 hb1)
    | (go_at_call 7; (with_reducible refine (hgr _ hb1).mono ?_); rintro e w2 ⟨rfl, m, rfl⟩; have hb2 := below_drewN hb1 m; obtain ⟨hk2, hx2, _⟩ := HS.out _ hb2)
    | (go_at_call 8; (with_reducible refine (ca _ hb2).mono ?_); rintro e w9 ⟨rfl, hb9⟩))
  go_ret
  exact ⟨rfl, (HS.out _ hb9).2.2.2.2⟩
theorem kr_cell {w wr : World} {d b p0 p1 : Nat} {g : Geo} {F : Fl} {vs : List Value} {rows : List (Nat × List Nat)} (h : KR w d b g F p0 p1 vs rows wr) {q : Nat} {xs : List Nat} (hq : (q, xs) ∈ rows) {j : Nat} (hj : j < xs.length) : wr.cell? ⟨q, j, none⟩ = some (.int .u32 ((xs.getD j 0 : Nat) : Int)) := by
  obtain ⟨b2, off, he, _, hc⟩ := (h.reads hq).at hj
  cases he
  have := hc j hj
  rwa [Nat.zero_add] at this
end Go.Proofs.Ytcigijhoeghnnaa.driveStands
/- DriveStands: behind a Write that is OK the run is what was written, and all else is as it was; behind Fresh all behind it is ones; what is refused writes nothing, and what was written is not written again. No condition. Here: the acts that become a Write. -/
namespace Go.Proofs.Ytcigijhoeghnnaa.driveStands
open Go.RowKit Go.Proofs.Ytcigijhoeghnnaa.drive Go.Proofs.Ytcigijhoeghnnaa.geom Go.Proofs.Ytcigijhoeghnnaa.flash
set_option linter.unusedVariables false

set_option maxHeartbeats 16000000 in
set_option maxRecDepth 20000 in
theorem walk1 (g : Geo) (a0 : Option Addr) (cap : Nat) (l : List DAct) (k s a n : Int) (pw : Option Addr) (len pcap : Nat) (w : World) (ac : DActs w a0 l) (fp : ∀ p ∈ l, p.Good w) (hsm : Small g) (hbig : bigL l = false) (h200 : ¬ 200 < len) (W : List Nat) (hr : Reads .u32 w pw len W) (hW : ∀ y ∈ W, y < 4294967296) (hlc : len ≤ pcap) (hcap : pcap ≤ maxLen) (hsep : len = 0 ∨ ∃ y, pw = some y ∧ y.block < w.heap.size)
    (ha : a ≤ 9223372036854775807) (hn : n ≤ 9223372036854775807) (hand : bits .and .i64 k 1 = 0) : Calls Try.prog 4 #[.agg #[.int .i64 g.sector, .int .i64 g.slot, .int .i64 g.data, .int .i64 g.quota, .int .i64 g.tries, .int .i64 g.life], .slice a0 l.length cap, .agg #[.int .i64 k, .int .i64 s, .int .i64 a, .int .i64 n, .slice pw len pcap]] w (Yes w) := by
  obtain ⟨hl1, hl2⟩ := not_big hbig
  have hcapl : l.length ≤ maxLen := by unfold maxLen; omega
  have HS := held g k s a n pw len pcap w
  obtain ⟨w0, hw0⟩ : ∃ z, Hid (((w.alloc (.cells #[.int .i64 g.sector, .int .i64 g.slot, .int .i64 g.data, .int .i64 g.quota, .int .i64 g.tries, .int .i64 g.life] 23)).alloc (.cells #[.int .i64 k, .int .i64 s, .int .i64 a, .int .i64 n, .slice pw len pcap] 43)) = z) := ⟨_, rfl⟩
  rw [hw0.out] at HS
  have hb0 : Below w0.heap.size w0 w0 := Below.refl _ _
  have hac := ac.below (HS.out w0 hb0).2.2.2.2
  have hgr := fun w' (hb : Below w0.heap.size w0 w') => great_any a0 cap l w' (hac.below hb) hcapl
  rw [hbig] at hgr
  have cs := small_from g true (hid ⟨fun _ => hsm, fun _ => rfl⟩) w0 w0 hb0
  have hrb := right_bounds hsm.1
  have cm := fun w1 hb => map_this g g.sectors.toNat (by omega) w0 w1 hb
  have cf : ∀ w', Below w0.heap.size w0 w' → Calls Try.prog 10 #[.int .i64 (g.sectors.toNat : Nat), .int .i64 g.sector] w' fun e w' => ∃ b, e = .returned (.tuple #[.pointer (some ⟨b, 0, none⟩), .int .i64 0]) ∧ Live w0 b (first g) w' := fun w' hb => by
    have := flash_own hsm.1 hb
    rwa [show g.sectors = ((g.sectors.toNat : Nat) : Int) by omega] at this
  have cd : ∀ b w', Live w0 b (first g) w' → Calls Try.prog 11 #[.pointer (some ⟨b, 0, none⟩), .agg #[.int .i64 g.sector, .int .i64 g.slot, .int .i64 g.data, .int .i64 g.quota, .int .i64 g.tries, .int .i64 g.life]] w' fun e w' => ∃ d, e = .returned (.tuple #[.pointer (some ⟨d, 0, none⟩), .int .i64 0]) ∧ Own w0 d b g (first g) w' := fun b w' h => new_own h (first_fit hsm.1)
  have HOK := hid (first_ok hsm.1)
  have HFT := hid (first_fit hsm.1)
  have HAC := hid ac
  have HFP := hid fp
  have HL2 := hid hl2
  have HL1 := hid hl1
  have HR := hid hr
  have HW := hid hW
  have HSEP := hid hsep
  have HLC := hid hlc
  have HCAP := hid hcap
  have HSM := hid hsm
  have hlen : len ≤ 200 := by omega
  clear hac ac fp hsm hbig hrb hl2 hr hW hsep hlc hcap hcapl
  generalize hM : g.sectors.toNat = M at *
  clear hM
  go_enter Try.func4, Try.ntmps4
  go_wp2_with fail
  rw [hw0.out]
  obtain ⟨hk0, hx0, _⟩ := HS.out w0 hb0
  go_wp2_with (first
    | (go_at_call 6; (with_reducible refine cs.mono ?_); rintro o w1 ⟨rfl, hb1⟩; obtain ⟨hk1, hx1, _⟩ := HS.out w1 hb1)
    | (go_at_call 7; (with_reducible refine (hgr _ hb1).mono ?_); rintro o w2 ⟨rfl, m, rfl⟩; have hb2 := below_drewN hb1 m; obtain ⟨hk2, hx2, _⟩ := HS.out _ hb2))
  obtain ⟨w2, hw2⟩ : ∃ z, Hid (w1.drewN m = z) := ⟨_, rfl⟩
  rw [hw2.out] at hb2 ⊢
  have hB0 : Below w0.heap.size w0 w2.drew := below_drewN hb2 1
  obtain ⟨hk3, _⟩ := HS.out w2.drew hB0
  clear hk0 hk1 hk2 hx0 hx1 hx2 hb1 cs hgr
  go_region_held3 (fun w' => (w'.cell? ⟨w.heap.size, 0, none⟩ = some (.int .i64 g.sector) ∧ w'.cell? ⟨w.heap.size, 1, none⟩ = some (.int .i64 g.slot) ∧ w'.cell? ⟨w.heap.size, 2, none⟩ = some (.int .i64 g.data) ∧ w'.cell? ⟨w.heap.size, 3, none⟩ = some (.int .i64 g.quota) ∧ w'.cell? ⟨w.heap.size, 4, none⟩ = some (.int .i64 g.tries) ∧ w'.cell? ⟨w.heap.size, 5, none⟩ = some (.int .i64 g.life))) (first | assumption | go_keep) (first
    | (go_at_call 9; (with_reducible refine (cm _ hB0).mono ?_); rintro o w3 ⟨ma, mc, rfl, hb3⟩; obtain ⟨hk4, _⟩ := HS.out w3 hb3)
    | (go_at_call 10; (with_reducible refine (cf _ hb3).mono ?_); rintro o w4 ⟨b, rfl, h4⟩; obtain ⟨hk5, _⟩ := HS.out w4 h4.below))
  go_wp2_with (first
    | (go_at_call 11; (with_reducible refine (cd _ _ h4).mono ?_); clear h4; rintro o w5 ⟨d, rfl, h5⟩))
  obtain ⟨_, _, hB5, hC5, hbl5⟩ := HS.out w5 h5.below
  obtain ⟨_, _, hB6, hC6, hbl6⟩ := HS.out w0 hb0
  have HKR : Hid (KR w d b g (first g) w.heap.size (w.heap.size + 1) [.int .i64 k, .int .i64 s, .int .i64 a, .int .i64 n, .slice pw len pcap] [] w5) := hid (kr_start h5 hB5 hC5 hB6.lt hC6.lt (by omega) (by omega) hbl6)
  clear h5 hB5 hC5 hbl5 hB6 hC6 hbl6 cm cf cd hb0 hb2 hB0 hb3 hk3 hk4 hk5 hw0 hw2 HS
  go_loopw [11] (fun i wr => ∃ j : Nat, j ≤ l.length ∧ i = .int .i64 (j : Int) ∧ ∃ F, Hid (KR w d b g F w.heap.size (w.heap.size + 1) [.int .i64 k, .int .i64 s, .int .i64 a, .int .i64 n, .slice pw len pcap] [] wr) ∧ Hid F.Ok ∧ Hid (Fit F g) ∧ Hid (F.count ≤ j * 201)) (fun i _ => l.length - (intOf i).toNat)
  case atStart => exact ⟨0, Nat.zero_le _, rfl, first g, HKR, HOK, HFT, hid (Nat.le_refl _)⟩
  case round =>
    obtain ⟨j, hj, rfl, F, hP, ok, ft, hc⟩ := hrel
    clear HKR
    by_cases hlt : j < l.length
    · obtain ⟨b2, off, q, rfl, hb2, hq2, c0, c1, c2, c3, c4⟩ := (HAC.out.below hP.out.below).at hlt
      have hqg := HFP.out q (List.mem_of_getElem? hq2)
      have hqlen : q.wLen ≤ 200 := HL2.out q (List.mem_of_getElem? hq2)
      have hcF : F.count < 1152921504606846976 := by have := hc.out; have := HL1.out; omega
      have hst := step_step ok.out g (k := q.k) (s := q.s) (a := q.a) (n := q.n) (W := q.wW) hqg.bn.2 (by have := hqg.rw.1; omega) hqg.mw
      have hdo := kr_do hP.out ok.out ft.out hcF q.k q.s q.a q.n q.w q.wLen q.wCap q.wW hqg.ba.2 hqg.bn.2 hqg.rw hqg.mw hqg.cw hqg.dw (by omega) hqg.sepw
      obtain ⟨H, hH⟩ : ∃ H, H = (drive.step F g q.k q.s q.a q.n q.wW).2 := ⟨_, rfl⟩
      rw [← hH] at hst hdo
      have HN : Hid (H.Ok ∧ Fit H g ∧ H.count ≤ (j + 1) * 201) := hid ⟨hst.ok, ft.out.like hst.like, by have h1 := hst.c2; have h2 := hc.out; have h3 := hqg.rw.1; omega⟩
      have i1 : (j : Int) < l.length := by omega
      generalize (drive.step F g q.k q.s q.a q.n q.wW).1.2.2 = z at *
      clear hqg hq2 hst hH ok ft hc hP hcF
      go_wp2_with (first
        | (go_at_call 13; (with_reducible refine hdo.mono ?_); clear hdo; rintro o w7 ⟨x7, m7, c7, v7, rfl, h7⟩))
      exact ⟨⟨j + 1, by omega, by go_num, H, hid h7, hid HN.out.1, hid HN.out.2.1, hid HN.out.2.2⟩, by simp [intOf]; omega⟩
    · obtain rfl : j = l.length := by omega
      have hpw := kr_power hP.out
      obtain ⟨P, hPd⟩ : ∃ P, P = F.power := ⟨_, rfl⟩
      have hpow : Pow P := by rw [hPd]; exact power_pow F
      have okP : P.Ok := by rw [hPd]; exact ok.out.power
      have ftP : Fit P g := by rw [hPd]; exact ft.out.like ⟨rfl, rfl⟩
      have hpc : P.count ≤ 12060 := by have h1 := hc.out; have h2 := HL1.out; rw [hPd]; show F.count ≤ _; omega
      rw [← hPd] at hpw
      have hwl := HR.out.1
      have hstep : drive.step P g 1 s a n W = (([], false, (write P g s a W).1), (write P g s a W).2) := by
        rw [drive.step, if_neg (by decide), if_pos (.inl rfl)]
      have hst : Step P (write P g s a W).2 W.length := write_step okP g s a HW.out
      have hD : ∀ rows w', KR w d b g P w.heap.size (w.heap.size + 1) [.int .i64 1, .int .i64 s, .int .i64 a, .int .i64 n, .slice pw len pcap] rows w' → Calls Try.prog 13 #[.pointer (some ⟨b, 0, none⟩), .pointer (some ⟨d, 0, none⟩), .agg #[.int .i64 1, .int .i64 s, .int .i64 a, .int .i64 n, .slice pw len pcap]] w' fun o w2 => ∃ x m c v, o = .returned (.tuple #[.slice x m c, .bool v, .int .i64 (write P g s a W).1]) ∧ KR w d b g (write P g s a W).2 w.heap.size (w.heap.size + 1) [.int .i64 1, .int .i64 s, .int .i64 a, .int .i64 n, .slice pw len pcap] rows w2 := fun rows w' h => by
        have := kr_do h okP ftP (by omega) 1 s a n pw len pcap W ha hn HR.out HW.out HLC.out HCAP.out (by omega) HSEP.out
        rwa [hstep] at this
      obtain ⟨N, hN⟩ : ∃ N, Hid (P.ws.length = N) := ⟨_, rfl⟩
      have hNle : N ≤ 524288 := by rw [← hN.out]; exact okP.ws_le
      obtain ⟨pc, hpcd⟩ : ∃ pc, Hid (P.count = pc) := ⟨_, rfl⟩
      rw [hpcd.out] at hpc
      have hW1 : ∀ rows w', KR w d b g P w.heap.size (w.heap.size + 1) [.int .i64 1, .int .i64 s, .int .i64 a, .int .i64 n, .slice pw len pcap] rows w' → Calls Try.prog 17 #[.pointer (some ⟨b, 0, none⟩)] w' fun o w2 => ∃ q c, o = .returned (.slice (some ⟨q, 0, none⟩) N c) ∧ KR w d b g P w.heap.size (w.heap.size + 1) [.int .i64 1, .int .i64 s, .int .i64 a, .int .i64 n, .slice pw len pcap] ((q, P.ws) :: rows) w2 := fun rows w' h => by
        have := kr_words h okP
        rwa [hN.out] at this
      have hN1 : ∀ rows w', KR w d b g P w.heap.size (w.heap.size + 1) [.int .i64 1, .int .i64 s, .int .i64 a, .int .i64 n, .slice pw len pcap] rows w' → Calls Try.prog 16 #[.pointer (some ⟨b, 0, none⟩)] w' fun o w2 => o = .returned (.int .i64 (pc : Int)) ∧ KR w d b g P w.heap.size (w.heap.size + 1) [.int .i64 1, .int .i64 s, .int .i64 a, .int .i64 n, .slice pw len pcap] rows w2 := fun rows w' h => by
        have := kr_writes h
        rwa [hpcd.out] at this
      have hqN : ((N : Int) != (N : Int)) = false := by simp
      have ca := fun w' hb => awake_at w w' hb
      rcases write_stands okP ftP hpow s a W HW.out with ⟨hz, hG⟩ | ⟨hz, hbad, hsame, hget⟩
      · rcases hz with hz | hz
        · have hS : ∀ q1 q2 c1 c2 w', KR w d b g P w.heap.size (w.heap.size + 1) [.int .i64 1, .int .i64 s, .int .i64 a, .int .i64 n, .slice pw len pcap] [(q2, P.ws), (q1, P.ws)] w' → Calls Try.prog 15 #[.slice (some ⟨q1, 0, none⟩) N c1, .slice (some ⟨q2, 0, none⟩) N c2] w' fun o w2 => o = .returned (.bool true) ∧ KR w d b g P w.heap.size (w.heap.size + 1) [.int .i64 1, .int .i64 s, .int .i64 a, .int .i64 n, .slice pw len pcap] [(q2, P.ws), (q1, P.ws)] w2 := fun q1 q2 c1 c2 w' h => by
            have := kr_same h (q1 := q1) (q2 := q2) (xs := P.ws) (by simp) (by simp) (by rw [hN.out]; omega) c1 c2
            rwa [hN.out] at this
          rw [hz, hG] at hD
          clear hst hstep hz hG hpow okP ftP hPd hP ok ft hc
          go_wp2_with (first
                  | (go_at_call 18; (with_reducible refine hpw.mono ?_); clear hpw; rintro o w8 ⟨rfl, h8⟩; obtain ⟨e0, e1, e2, e3, e4⟩ := h8.act; have f0 := h8.frozen 0; have f2 := h8.frozen 2; have h9 : KR w d b g P w.heap.size (w.heap.size + 1) [.int .i64 1, .int .i64 s, .int .i64 a, .int .i64 n, .slice pw len pcap] [] (w8.setCell ⟨w.heap.size + 1, 0, none⟩ (.int .i64 1)) := h8.store 0 (.int .i64 1))
                  | (go_at_call 17; (with_reducible refine (hW1 _ _ h9).mono ?_); clear h9; rintro o w10 ⟨q1, c1, rfl, h10⟩)
                  | (go_at_call 16; (with_reducible refine (hN1 _ _ h10).mono ?_); clear h10; rintro o w11 ⟨rfl, h11⟩; clear e0 e1 e2 e3 e4 f0 f2 h8; obtain ⟨e0, e1, e2, e3, e4⟩ := h11.act)
                  | (go_at_call 13; (with_reducible refine (hD _ _ h11).mono ?_); clear h11; rintro o w12 ⟨x12, m12, c12, v12, rfl, h12⟩)
                  | (go_at_call 17; (with_reducible refine (hW1 _ _ h12).mono ?_); clear h12; rintro o w13 ⟨q2, c2, rfl, h13⟩)
                  | (go_at_call 16; (with_reducible refine (hN1 _ _ h13).mono ?_); clear h13; rintro o w14 ⟨rfl, h14⟩; clear e0 e1 e2 e3 e4; obtain ⟨e0, e1, e2, e3, e4⟩ := h14.act; have hgeo := h14.geo)
                  | (go_at_call 15; (with_reducible refine (hS _ _ _ _ _ h14).mono ?_); clear h14; rintro o w15 ⟨rfl, h15⟩; clear e0 e1 e2 e3 e4 hgeo; obtain ⟨e0, e1, e2, e3, e4⟩ := h15.act)
                  | (go_at_call 8; (with_reducible refine (ca _ h15.below).mono ?_); rintro o w16 ⟨rfl, hb16⟩))
          go_ret
          exact ⟨rfl, hb16⟩
        · have hS : ∀ q1 q2 c1 c2 w', KR w d b g P w.heap.size (w.heap.size + 1) [.int .i64 1, .int .i64 s, .int .i64 a, .int .i64 n, .slice pw len pcap] [(q2, P.ws), (q1, P.ws)] w' → Calls Try.prog 15 #[.slice (some ⟨q1, 0, none⟩) N c1, .slice (some ⟨q2, 0, none⟩) N c2] w' fun o w2 => o = .returned (.bool true) ∧ KR w d b g P w.heap.size (w.heap.size + 1) [.int .i64 1, .int .i64 s, .int .i64 a, .int .i64 n, .slice pw len pcap] [(q2, P.ws), (q1, P.ws)] w2 := fun q1 q2 c1 c2 w' h => by
            have := kr_same h (q1 := q1) (q2 := q2) (xs := P.ws) (by simp) (by simp) (by rw [hN.out]; omega) c1 c2
            rwa [hN.out] at this
          rw [hz, hG] at hD
          clear hst hstep hz hG hpow okP ftP hPd hP ok ft hc
          go_wp2_with (first
                  | (go_at_call 18; (with_reducible refine hpw.mono ?_); clear hpw; rintro o w8 ⟨rfl, h8⟩; obtain ⟨e0, e1, e2, e3, e4⟩ := h8.act; have f0 := h8.frozen 0; have f2 := h8.frozen 2; have h9 : KR w d b g P w.heap.size (w.heap.size + 1) [.int .i64 1, .int .i64 s, .int .i64 a, .int .i64 n, .slice pw len pcap] [] (w8.setCell ⟨w.heap.size + 1, 0, none⟩ (.int .i64 1)) := h8.store 0 (.int .i64 1))
                  | (go_at_call 17; (with_reducible refine (hW1 _ _ h9).mono ?_); clear h9; rintro o w10 ⟨q1, c1, rfl, h10⟩)
                  | (go_at_call 16; (with_reducible refine (hN1 _ _ h10).mono ?_); clear h10; rintro o w11 ⟨rfl, h11⟩; clear e0 e1 e2 e3 e4 f0 f2 h8; obtain ⟨e0, e1, e2, e3, e4⟩ := h11.act)
                  | (go_at_call 13; (with_reducible refine (hD _ _ h11).mono ?_); clear h11; rintro o w12 ⟨x12, m12, c12, v12, rfl, h12⟩)
                  | (go_at_call 17; (with_reducible refine (hW1 _ _ h12).mono ?_); clear h12; rintro o w13 ⟨q2, c2, rfl, h13⟩)
                  | (go_at_call 16; (with_reducible refine (hN1 _ _ h13).mono ?_); clear h13; rintro o w14 ⟨rfl, h14⟩; clear e0 e1 e2 e3 e4; obtain ⟨e0, e1, e2, e3, e4⟩ := h14.act; have hgeo := h14.geo)
                  | (go_at_call 15; (with_reducible refine (hS _ _ _ _ _ h14).mono ?_); clear h14; rintro o w15 ⟨rfl, h15⟩; clear e0 e1 e2 e3 e4 hgeo; obtain ⟨e0, e1, e2, e3, e4⟩ := h15.act)
                  | (go_at_call 8; (with_reducible refine (ca _ h15.below).mono ?_); rintro o w16 ⟨rfl, hb16⟩))
          go_ret
          exact ⟨rfl, hb16⟩
      · obtain ⟨hin, hd⟩ := bad_zero hbad
        obtain ⟨hA, hlenW, p0, p1, n1, a1⟩ := addr_in okP ftP hin
        rw [Int.toNat_natCast] at hlenW
        obtain ⟨i1, i2, i3, i4, i5⟩ := hin
        obtain ⟨A0, hA0⟩ := Int.eq_ofNat_of_zero_le p0
        obtain ⟨a', rfl⟩ := Int.eq_ofNat_of_zero_le i3
        have hadd : addr g s a' = A0 + a' := by omega
        rw [hadd] at hget hlenW
        rw [hwl] at hget hlenW n1 i4 i5
        rw [hz] at hD
        obtain ⟨Gf, hGd⟩ : ∃ Gf, Gf = (write P g s (a' : Int) W).2 := ⟨_, rfl⟩
        rw [← hGd] at hD hst hget hsame
        have okG := hst.ok
        have ftG := ftP.like hst.like
        have hGl : Gf.ws.length = N := by rw [← hN.out]; exact hst.like.ws okP okG
        obtain ⟨gc, hgcd⟩ : ∃ gc, Hid (Gf.count = gc) := ⟨_, rfl⟩
        have hgc1 : pc ≤ gc := by have := hst.c1; rw [hpcd.out, hgcd.out] at this; exact this
        have hgc2 : gc ≤ pc + len := by have := hst.c2; rw [hpcd.out, hgcd.out, hwl] at this; exact this
        have hW2 : ∀ rows w', KR w d b g Gf w.heap.size (w.heap.size + 1) [.int .i64 1, .int .i64 s, .int .i64 (a' : Int), .int .i64 n, .slice pw len pcap] rows w' → Calls Try.prog 17 #[.pointer (some ⟨b, 0, none⟩)] w' fun o w2 => ∃ q c, o = .returned (.slice (some ⟨q, 0, none⟩) N c) ∧ KR w d b g Gf w.heap.size (w.heap.size + 1) [.int .i64 1, .int .i64 s, .int .i64 (a' : Int), .int .i64 n, .slice pw len pcap] ((q, Gf.ws) :: rows) w2 := fun rows w' h => by
          have := kr_words h okG
          rwa [hGl] at this
        have hN2 : ∀ rows w', KR w d b g Gf w.heap.size (w.heap.size + 1) [.int .i64 1, .int .i64 s, .int .i64 (a' : Int), .int .i64 n, .slice pw len pcap] rows w' → Calls Try.prog 16 #[.pointer (some ⟨b, 0, none⟩)] w' fun o w2 => o = .returned (.int .i64 (gc : Int)) ∧ KR w d b g Gf w.heap.size (w.heap.size + 1) [.int .i64 1, .int .i64 s, .int .i64 (a' : Int), .int .i64 n, .slice pw len pcap] rows w2 := fun rows w' h => by
          have := kr_writes h
          rwa [hgcd.out] at this
        have hstep2 : drive.step Gf g 1 s a' n W = (([], false, 0), Gf) := by
          rw [drive.step, if_neg (by decide), if_pos (.inl rfl), hsame]
        have hD2 : ∀ rows w', KR w d b g Gf w.heap.size (w.heap.size + 1) [.int .i64 1, .int .i64 s, .int .i64 (a' : Int), .int .i64 n, .slice pw len pcap] rows w' → Calls Try.prog 13 #[.pointer (some ⟨b, 0, none⟩), .pointer (some ⟨d, 0, none⟩), .agg #[.int .i64 1, .int .i64 s, .int .i64 (a' : Int), .int .i64 n, .slice pw len pcap]] w' fun o w2 => ∃ x m c v, o = .returned (.tuple #[.slice x m c, .bool v, .int .i64 0]) ∧ KR w d b g Gf w.heap.size (w.heap.size + 1) [.int .i64 1, .int .i64 s, .int .i64 (a' : Int), .int .i64 n, .slice pw len pcap] rows w2 := fun rows w' h => by
          have := kr_do h okG ftG (by rw [hgcd.out]; omega) 1 s a' n pw len pcap W ha hn HR.out HW.out HLC.out HCAP.out (by omega) HSEP.out
          rwa [hstep2] at this
        have HG := hid hget
        have HGL := hid hGl
        have hsec : g.sector ≤ 1024 := HSM.out.1.1.2
        have hsec2 : 64 ≤ g.sector := HSM.out.1.1.1
        clear hst hstep hz hGd hpow okP ftP hPd hP ok ft hc hget okG ftG hGl hA hd hbad hadd hstep2 hsame
        go_wp2_with (first
        | (go_at_call 18; (with_reducible refine hpw.mono ?_); clear hpw; rintro o w8 ⟨rfl, h8⟩; obtain ⟨e0, e1, e2, e3, e4⟩ := h8.act; have f0 := h8.frozen 0; have f2 := h8.frozen 2; have h9 : KR w d b g P w.heap.size (w.heap.size + 1) [.int .i64 1, .int .i64 s, .int .i64 (a' : Int), .int .i64 n, .slice pw len pcap] [] (w8.setCell ⟨w.heap.size + 1, 0, none⟩ (.int .i64 1)) := h8.store 0 (.int .i64 1))
        | (go_at_call 17; (with_reducible refine (hW1 _ _ h9).mono ?_); clear h9; rintro o w10 ⟨q1, c1, rfl, h10⟩)
        | (go_at_call 16; (with_reducible refine (hN1 _ _ h10).mono ?_); clear h10; rintro o w11 ⟨rfl, h11⟩; clear e0 e1 e2 e3 e4 f0 f2 h8; obtain ⟨e0, e1, e2, e3, e4⟩ := h11.act)
        | (go_at_call 13; (with_reducible refine (hD _ _ h11).mono ?_); clear h11; rintro o w12 ⟨x12, m12, c12, v12, rfl, h12⟩)
        | (go_at_call 17; (with_reducible refine (hW2 _ _ h12).mono ?_); clear h12; rintro o w13 ⟨q2, c2, rfl, h13⟩)
        | (go_at_call 16; (with_reducible refine (hN2 _ _ h13).mono ?_); clear h13; rintro o w14 ⟨rfl, h14⟩; clear e0 e1 e2 e3 e4; obtain ⟨e0, e1, e2, e3, e4⟩ := h14.act; have hgeo := h14.geo))
        have H14 := hid h14
        clear h14 hD hW1 hW2 hN1
        go_loopw [20] (fun i wr => ∃ j : Nat, j ≤ N ∧ i = .int .i64 (j : Int) ∧ w14 = wr) (fun i _ => N - (intOf i).toNat)
        case atStart => exact ⟨0, Nat.zero_le _, rfl, rfl⟩
        case round =>
          obtain ⟨j, hjN, rfl, rfl⟩ := hrel
          by_cases hlt2 : j < N
          · have cq1 := kr_cell H14.out (q := q1) (xs := P.ws) (by simp) (j := j) (by rw [hN.out]; exact hlt2)
            have cq2 := kr_cell H14.out (q := q2) (xs := Gf.ws) (by simp) (j := j) (by rw [HGL.out]; exact hlt2)
            have hg := HG.out j
            have i0 : (j : Int) < N := by omega
            by_cases b1 : j < A0
            · rw [if_neg (by omega)] at hg
              rw [hg] at cq2
              generalize P.ws.getD j 0 = x1 at *
              have hxx : ((x1 : Int) != (x1 : Int)) = false := by simp
              clear hg HG
              go_wp2
              exact ⟨⟨j + 1, by omega, by go_num, trivial⟩, by simp [intOf]; omega⟩
            · obtain ⟨u, hu⟩ : ∃ u, j = A0 + u := ⟨j - A0, by omega⟩
              have e5 : (j : Int) - (A0 : Int) = (u : Int) := by omega
              by_cases b2 : u < a'
              · rw [if_neg (by omega)] at hg
                have k2 : (u : Int) < a' := by omega
                clear hu
                rw [hg] at cq2
                generalize P.ws.getD j 0 = x1 at *
                have hxx : ((x1 : Int) != (x1 : Int)) = false := by simp
                clear hg HG
                go_wp2
                exact ⟨⟨j + 1, by omega, by go_num, trivial⟩, by simp [intOf]; omega⟩
              · obtain ⟨t, ht⟩ : ∃ t, u = a' + t := ⟨u - a', by omega⟩
                have e6 : (u : Int) - (a' : Int) = (t : Int) := by omega
                by_cases b3 : t < len
                · rw [if_pos (by omega), show j - (A0 + a') = t by omega] at hg
                  have k2 : (a' : Int) ≤ u := by omega
                  have k1 : (A0 : Int) ≤ j := by omega
                  clear hu ht
                  obtain ⟨wb, wo, rfl, _, cW⟩ := (HR.out.below H14.out.below).at b3
                  have cw := cW t b3
                  rw [hg] at cq2
                  clear cW
                  generalize P.ws.getD j 0 = y1 at *
                  generalize W.getD t 0 = x1 at *
                  have hxx : ((x1 : Int) != (x1 : Int)) = false := by simp
                  clear hg HG
                  go_wp2
                  exact ⟨⟨j + 1, by omega, by go_num, trivial⟩, by simp [intOf]; omega⟩
                · rw [if_neg (by omega)] at hg
                  have k2 : (a' : Int) ≤ u := by omega
                  have k1 : (A0 : Int) ≤ j := by omega
                  clear hu ht
                  rw [hg] at cq2
                  generalize P.ws.getD j 0 = x1 at *
                  have hxx : ((x1 : Int) != (x1 : Int)) = false := by simp
                  clear hg HG
                  go_wp2
                  exact ⟨⟨j + 1, by omega, by go_num, trivial⟩, by simp [intOf]; omega⟩
          · obtain rfl : N = j := by omega
            have k9 : (gc : Int) - (pc : Int) ≤ len := by omega
            clear HG
            go_wp2_with (first
              | (go_at_call 13; (with_reducible refine (hD2 _ _ H14.out).mono ?_); rintro o w15 ⟨x15, m15, c15, v15, rfl, h15⟩; obtain ⟨g0, g1, g2, g3, g4⟩ := h15.act)
              | (go_at_call 16; (with_reducible refine (hN2 _ _ h15).mono ?_); clear h15; rintro o w16 ⟨rfl, h16⟩; obtain ⟨i0, i1, i2, i3, i4⟩ := h16.act)
              | (go_at_call 8; (with_reducible refine (ca _ h16.below).mono ?_); rintro o w17 ⟨rfl, hb17⟩))
            go_ret
            exact ⟨rfl, hb17⟩
end Go.Proofs.Ytcigijhoeghnnaa.driveStands
