/- FrameWords: any frame's words, or that it may not be, and the frame with which any words begin, are as the reference says. No condition. -/
import Derived.Test.YtfgbiafoncaagaaClHFrameWordsA
import Derived.Test.YtfgbiafoncaagaaCmC
import Derived.Conc.WalkWords
import Derived.Handy
import Derived.Test.YtfgbiafoncaagaaCmB
import Derived.Test.YtfgbiafoncaagaaCmA
/- Contract of the reference's Read of layer 10 (frame), for every slice of words. No condition. -/
namespace Go.Proofs.Ytfgbiafoncaagaa.frame
open Go Go.RowKit Go.Proofs.Ytfgbiafoncaagaa.word Go.Proofs.Ytfgbiafoncaagaa.zeros
set_option linter.unusedVariables false

theorem refRead_few (a : Option Addr) (len cap : Nat) (xs : List Nat) (w : World) (hr : Reads .u32 w a len xs) (h : len < 4) :
    Calls Try.prog 13 #[.slice a len cap] w (ReadsAs (readN xs) w) := by
  rw [readN_few xs (by have := hr.1; omega)]
  unfold ReadsAs
  have hw0 : Below w.heap.size w (w.alloc (.cells #[.int .i64 0, .int .i64 0, .slice none 0 0] 24)) := (Below.refl _ _).alloc (Nat.le_refl _) _
  have HW0 := hid hw0
  have i1 : (len : Int) < 4 := by omega
  clear hw0 hr h
  go_enter Try.func13, Try.ntmps13
  go_wp2
  go_returns
  exact ⟨rfl, HW0.out⟩
theorem refRead_not (b off len cap n : Nat) (xs : List Nat) (w : World) (hr : Reads .u32 w (some ⟨b, off, none⟩) len xs) (hx : ∀ x ∈ xs, x < 4294967296) (h : 4 ≤ len) (hn : (toldN (xs.getD 0 0)).1 = n) (hnot : n < 1 ∨ 56 < n ∨ len < n + 3) :
    Calls Try.prog 13 #[.slice (some ⟨b, off, none⟩) len cap] w (ReadsAs (readN xs) w) := by
  rw [readN_not xs (by have := hr.1; omega)]
  unfold ReadsAs
  have hw0 : Below w.heap.size w (w.alloc (.cells #[.int .i64 0, .int .i64 0, .slice none 0 0] 24)) := (Below.refl _ _).alloc (Nat.le_refl _) _
  have ct := fun w' => refTold_any (xs.getD 0 0) (getD32_lt xs hx 0) w'
  unfold toldV at ct
  rw [hn] at ct
  obtain ⟨b', off', he, hbs, hc⟩ := (hr.below hw0).at (show 0 < len by omega)
  cases he
  have c1 : (w.alloc (.cells #[.int .i64 0, .int .i64 0, .slice none 0 0] 24)).cell? ⟨b, off, none⟩ = some (.int .u32 ((xs.getD 0 0 : Nat) : Int)) := hc 0 (by omega)
  have HW0 := hid hw0
  have i1 : ¬ (len : Int) < 4 := by omega
  have i2 : (0 : Int) < len := by omega
  clear hw0 hr h hc hn hx
  generalize (toldN (xs.getD 0 0)).2 = tb at *
  generalize xs.getD 0 0 = x0 at *
  rcases hnot with h1 | h1 | h1
  · have j1 : (n : Int) < 1 := by omega
    go_enter Try.func13, Try.ntmps13
    go_wp2_with (go_at_call 24; ((with_reducible refine (ct _).mono ?_); rintro e w' ⟨rfl, m1, rfl⟩))
    go_returns
    exact ⟨rfl, (((below_drewN HW0.out m1).setCell (p := ⟨w.heap.size, 0, none⟩) (Nat.le_refl _) _).setCell (p := ⟨w.heap.size, 1, none⟩) (Nat.le_refl _) _).setCell (p := ⟨w.heap.size, 2, none⟩) (Nat.le_refl _) _⟩
  · have j1 : ¬ (n : Int) < 1 := by omega
    have k1 : decide ((n : Int) < 1) = false := decide_eq_false (by omega)
    have j2 : (56 : Int) < n := by omega
    have k2 : decide ((56 : Int) < n) = true := decide_eq_true (by omega)
    go_enter Try.func13, Try.ntmps13
    go_wp2_with (go_at_call 24; ((with_reducible refine (ct _).mono ?_); rintro e w' ⟨rfl, m1, rfl⟩))
    go_returns
    exact ⟨rfl, (((below_drewN HW0.out m1).setCell (p := ⟨w.heap.size, 0, none⟩) (Nat.le_refl _) _).setCell (p := ⟨w.heap.size, 1, none⟩) (Nat.le_refl _) _).setCell (p := ⟨w.heap.size, 2, none⟩) (Nat.le_refl _) _⟩
  · by_cases h2 : n < 1
    · omega
    · by_cases h3 : 56 < n
      · have j1 : ¬ (n : Int) < 1 := by omega
        have k1 : decide ((n : Int) < 1) = false := decide_eq_false (by omega)
        have j2 : (56 : Int) < n := by omega
        have k2 : decide ((56 : Int) < n) = true := decide_eq_true (by omega)
        go_enter Try.func13, Try.ntmps13
        go_wp2_with (go_at_call 24; ((with_reducible refine (ct _).mono ?_); rintro e w' ⟨rfl, m1, rfl⟩))
        go_returns
        exact ⟨rfl, (((below_drewN HW0.out m1).setCell (p := ⟨w.heap.size, 0, none⟩) (Nat.le_refl _) _).setCell (p := ⟨w.heap.size, 1, none⟩) (Nat.le_refl _) _).setCell (p := ⟨w.heap.size, 2, none⟩) (Nat.le_refl _) _⟩
      · have j1 : ¬ (n : Int) < 1 := by omega
        have k1 : decide ((n : Int) < 1) = false := decide_eq_false (by omega)
        have j2 : ¬ (56 : Int) < n := by omega
        have k2 : decide ((56 : Int) < n) = false := decide_eq_false (by omega)
        have j3 : (len : Int) < (n : Int) + 3 := by omega
        have k3 : decide ((len : Int) < (n : Int) + 3) = true := decide_eq_true (by omega)
        go_enter Try.func13, Try.ntmps13
        go_wp2_with (go_at_call 24; ((with_reducible refine (ct _).mono ?_); rintro e w' ⟨rfl, m1, rfl⟩))
        go_returns
        exact ⟨rfl, (((below_drewN HW0.out m1).setCell (p := ⟨w.heap.size, 0, none⟩) (Nat.le_refl _) _).setCell (p := ⟨w.heap.size, 1, none⟩) (Nat.le_refl _) _).setCell (p := ⟨w.heap.size, 2, none⟩) (Nat.le_refl _) _⟩
set_option maxRecDepth 20000 in
set_option maxHeartbeats 3200000 in
theorem refRead_in (b off len cap n : Nat) (xs : List Nat) (w : World) (hr : Reads .u32 w (some ⟨b, off, none⟩) len xs) (hx : ∀ x ∈ xs, x < 4294967296) (hlc : len ≤ cap) (hn : (toldN (xs.getD 0 0)).1 = n) (n1 : 1 ≤ n) (n2 : n ≤ 56) (n3 : n + 3 ≤ len) :
    Calls Try.prog 13 #[.slice (some ⟨b, off, none⟩) len cap] w (ReadsAs (readN xs) w) := by
  have hlen := hr.1
  have hw0 : Below w.heap.size w (w.alloc (.cells #[.int .i64 0, .int .i64 0, .slice none 0 0] 24)) := (Below.refl _ _).alloc (Nat.le_refl _) _
  have ct := fun w' => refTold_any (xs.getD 0 0) (getD32_lt xs hx 0) w'
  unfold toldV at ct
  rw [hn] at ct
  obtain ⟨b', off', he, hbs, hc⟩ := hr.at (show 0 < len by omega)
  cases he
  have hr0 := hr.below hw0
  have c0 : (w.alloc (.cells #[.int .i64 0, .int .i64 0, .slice none 0 0] 24)).cell? ⟨b, off, none⟩ = some (.int .u32 ((xs.getD 0 0 : Nat) : Int)) := (hw0.cell (p := ⟨b, off, none⟩) hbs).trans (hc 0 (by omega))
  have hB0 : Block (w.alloc (.cells #[.int .i64 0, .int .i64 0, .slice none 0 0] 24)) w.heap.size 24 [.int .i64 0, .int .i64 0, .slice none 0 0] := Block.new w _ _
  have hc1 : (w.alloc (.cells #[.int .i64 0, .int .i64 0, .slice none 0 0] 24)).cell? ⟨b, off + 1, none⟩ = some (.int .u32 ((xs.getD 1 0 : Nat) : Int)) := (hw0.cell (p := ⟨b, off + 1, none⟩) hbs).trans (hc 1 (by omega))
  have hL := readsDrop (readsTake hr0 (n + 2) (by omega)) 2 (by omega)
  rw [show n + 2 - 2 = n by omega] at hL
  have hP := readsTake hr0 (n + 3) (by omega)
  obtain ⟨x1, hx1⟩ : ∃ x, x = xs.getD 1 0 := ⟨_, rfl⟩
  obtain ⟨L, hLd⟩ : ∃ L, L = (xs.take (n + 2)).drop 2 := ⟨_, rfl⟩
  have hre := readN_eq xs n hn n1 n2 (by omega) (x1 / 1073741824) (x1 % 1073741824) L (by rw [hx1]) (by rw [hx1]) hLd
  generalize readN xs = r at hre ⊢
  have hLL : ∀ x ∈ L, x < 4294967296 := fun x h => hx x (by rw [hLd] at h; exact List.mem_of_mem_take (List.mem_of_mem_drop h))
  have hPP : ∀ x ∈ xs.take (n + 3), x < 4294967296 := fun x h => hx x (List.mem_of_mem_take h)
  have hx1l : x1 < 4294967296 := by rw [hx1]; exact getD32_lt xs hx 1
  rw [← hx1] at hc1
  rw [← hLd] at hL
  generalize hps : xs.take (n + 3) = ps at *
  have HX1 := hid hx1l
  have HC1 := hid hc1
  have HLT : Hid (b < (w.alloc (.cells #[.int .i64 0, .int .i64 0, .slice none 0 0] 24)).heap.size) := hid (by simp; omega)
  have HI : Hid (1 < len) := hid (by omega)
  have HN1 : Hid (0 < n) := hid (by omega)
  have HN2 := hid n2
  have HCAP : Hid (2 + n ≤ cap) := hid (by omega)
  have HCAP3 : Hid (n + 3 ≤ cap) := hid (by omega)
  have HRE := hid hre
  have HB0 := hid hB0
  have HW0 := hid hw0
  have HL := hid hL
  have HP := hid hP
  have HLL0 := hid hLL
  have HPP := hid hPP
  have i1 : ¬ (len : Int) < 4 := by omega
  have i2 : (0 : Int) < len := by omega
  have j1 : ¬ (n : Int) < 1 := by omega
  have k1 : decide ((n : Int) < 1) = false := decide_eq_false (by omega)
  have j2 : ¬ (56 : Int) < n := by omega
  have k2 : decide ((56 : Int) < n) = false := decide_eq_false (by omega)
  have j3 : ¬ (len : Int) < (n : Int) + 3 := by omega
  have k3 : decide ((len : Int) < (n : Int) + 3) = false := decide_eq_false (by omega)
  have HLL : Hid ((Try.prog.info? 24).map (·.size) = some 3) := hid (by kernel_rfl)
  clear hr hx hlc hn n3 hlen hw0 hc hr0 hB0 hc1 hL hP hx1 hLd hre hLL hPP hx1l hps n1 n2
  generalize (toldN (xs.getD 0 0)).2 = tb at *
  generalize xs.getD 0 0 = x0 at *
  go_enter Try.func13, Try.ntmps13
  go_wp2_with (go_at_call 24; ((with_reducible refine (ct _).mono ?_); rintro e w' ⟨rfl, m1, rfl⟩))
  refine plan.region (by kernel_rfl) ?_
  refine plan.Rest.first 0 _ (.slice (some ⟨b, off, none⟩) len cap) rfl (by kernel_rfl) (by kernel_rfl) (by kernel_rfl) (by kernel_rfl) (fun w' hb' => (by kernel_rfl)) ?_
  refine plan.Rest.first 1 _ (.pointer (some ⟨b, off + 1, none⟩)) rfl (by kernel_rfl) (by kernel_rfl) (by kernel_rfl) (by kernel_rfl) (fun w' hb' => exec_index (b := b) (off := off) (len := len) (cap := cap) (i := 1) rfl (by kernel_rfl) (by kernel_rfl) HI.out) ?_
  refine plan.Rest.first 2 _ (.int .u32 (x1 : Int)) rfl (by kernel_rfl) (by kernel_rfl) (by kernel_rfl) (by kernel_rfl) (fun w' hb' => exec_word (ad := ⟨b, off + 1, none⟩) rfl (by kernel_rfl) ((hb'.cell (p := ⟨b, off + 1, none⟩) HLT.out).trans HC1.out)) ?_
  refine plan.Rest.first 3 _ (.int .u32 ((x1 : Int) / 1073741824)) rfl (by kernel_rfl) (by kernel_rfl) (by kernel_rfl) (by kernel_rfl) (fun w' hb' => exec_quo (n := x1) rfl (by kernel_rfl) (by kernel_rfl) HX1.out) ?_
  refine plan.Rest.first 4 _ (.int .i64 ((x1 : Int) / 1073741824)) rfl (by kernel_rfl) (by kernel_rfl) (by kernel_rfl) (by kernel_rfl) (fun w' hb' => exec_wide (n := (x1 : Int) / 1073741824) rfl (by kernel_rfl) (by have := HX1.out; omega) (by have := HX1.out; omega)) ?_
  refine plan.Rest.first 5 _ (.slice (some ⟨b, off, none⟩) len cap) rfl (by kernel_rfl) (by kernel_rfl) (by kernel_rfl) (by kernel_rfl) (fun w' hb' => (by kernel_rfl)) ?_
  refine plan.Rest.first 6 _ (.pointer (some ⟨b, off + 1, none⟩)) rfl (by kernel_rfl) (by kernel_rfl) (by kernel_rfl) (by kernel_rfl) (fun w' hb' => exec_index (b := b) (off := off) (len := len) (cap := cap) (i := 1) rfl (by kernel_rfl) (by kernel_rfl) HI.out) ?_
  refine plan.Rest.first 7 _ (.int .u32 (x1 : Int)) rfl (by kernel_rfl) (by kernel_rfl) (by kernel_rfl) (by kernel_rfl) (fun w' hb' => exec_word (ad := ⟨b, off + 1, none⟩) rfl (by kernel_rfl) ((hb'.cell (p := ⟨b, off + 1, none⟩) HLT.out).trans HC1.out)) ?_
  refine plan.Rest.first 8 _ (.int .u32 ((x1 : Int) % 1073741824)) rfl (by kernel_rfl) (by kernel_rfl) (by kernel_rfl) (by kernel_rfl) (fun w' hb' => exec_rem (n := x1) rfl (by kernel_rfl) (by kernel_rfl) HX1.out) ?_
  refine plan.Rest.first 9 _ (.int .i64 ((x1 : Int) % 1073741824)) rfl (by kernel_rfl) (by kernel_rfl) (by kernel_rfl) (by kernel_rfl) (fun w' hb' => exec_wide (n := (x1 : Int) % 1073741824) rfl (by kernel_rfl) (by have := HX1.out; omega) (by have := HX1.out; omega)) ?_
  refine plan.Rest.first 10 _ (.slice (some ⟨b, off, none⟩) len cap) rfl (by kernel_rfl) (by kernel_rfl) (by kernel_rfl) (by kernel_rfl) (fun w' hb' => (by kernel_rfl)) ?_
  refine plan.Rest.first 11 _ (.int .i64 (n : Int)) rfl (by kernel_rfl) (by kernel_rfl) (by kernel_rfl) (by kernel_rfl) (fun w' hb' => (by kernel_rfl)) ?_
  refine plan.Rest.first 12 _ (.int .i64 (2 + (n : Int))) rfl (by kernel_rfl) (by kernel_rfl) (by kernel_rfl) (by kernel_rfl) (fun w' hb' => exec_add2 (n := n) rfl (by kernel_rfl) (by kernel_rfl) HN2.out) ?_
  refine plan.Rest.first 13 _ (.slice (some ⟨b, off + 2, none⟩) n (cap - 2)) rfl (by kernel_rfl) (by kernel_rfl) (by kernel_rfl) (by kernel_rfl) (fun w' hb' => exec_cut (b := b) (off := off) (len := len) (cap := cap) (n := n) rfl (by kernel_rfl) (by kernel_rfl) (by kernel_rfl) HCAP.out HN1.out) ?_
  refine plan.Rest.to3 47 7 48 1 (fun p q r => #[true, true, true, true, true, true, true, true, true, true, true, true, true, true, p, r, q, false]) (by kernel_rfl) (by kernel_rfl) (by kernel_rfl) ?_
  refine plan.two _ _ 14 16 15 47 7 48 1 (by decide) (by decide) (by decide) _ _ _ (fun p q r => #[true, true, true, true, true, true, true, true, true, true, true, true, true, true, p, r, q, false])
    rfl rfl rfl rfl rfl rfl rfl rfl rfl (fun _ _ => rfl) (fun _ _ => rfl) (fun _ _ => rfl) (by kernel_rfl) (by kernel_rfl) (by kernel_rfl) (by kernel_rfl) (by kernel_rfl)
    (fun g v w' => ∃ c, v = .slice (some ⟨g, 0, none⟩) n c ∧ Row w' 40 .u32 g c L) (fun v => .agg #[.int .i64 ((x1 : Int) / 1073741824), .int .i64 ((x1 : Int) % 1073741824), v]) 24 [.int .i64 0, .int .i64 0, .slice none 0 0]
    (fun g v w1 w2 h hb => h.imp fun c h => ⟨h.1, h.2.later hb⟩) (fun g v w1 h => by obtain ⟨c, _, h⟩ := h; exact h.lt)
    ?rA (fun u v c w' => by kernel_rfl) ?rC ?rest undef undef undef
  case rA =>
    intro u v c w' hb'
    exact exec_row (ad := ⟨b, off + 2, none⟩) (n := n) (c := cap - 2) (L := L) rfl (by kernel_rfl) (by kernel_rfl) ((HL.out.drewN (m1 + 1)).below hb') HN1.out (by have := HN2.out; omega)
  case rC =>
    rintro g u v c w' ⟨c', rfl, _⟩
    kernel_rfl
  case rest =>
    rintro g g' x w' hg hg' hne ⟨c, rfl, hR⟩ hB hb
    refine plan.store _ 17 _ 24 (.tmp 7) (.tmp 48) g' 24 [.int .i64 0, .int .i64 0, .slice none 0 0] #[.int .i64 ((x1 : Int) / 1073741824), .int .i64 ((x1 : Int) % 1073741824), .slice (some ⟨g, 0, none⟩) n c] rfl rfl rfl rfl (by kernel_rfl) (by kernel_rfl) (by kernel_rfl) hB rfl (by kernel_rfl) (by simp [Value.oneCell']) hb hg' (fun V2 hb2 hB2 hk2 => ?_)
    refine ⟨by kernel_rfl, NoPanic.normal ?_⟩
    have hgw : w.heap.size < g := by have h := hg; simp at h; omega
    have hgw' : w.heap.size < g' := by have h := hg'; simp at h; omega
    have hrow : Row V2.drew 40 .u32 g c L := by
      obtain ⟨pad, h1, h2⟩ := hR
      exact ⟨pad, (hk2 g _ _ hne h1).drewN 1, h2⟩
    have hblk : Block V2.drew g' 24 [.int .i64 ((x1 : Int) / 1073741824), .int .i64 ((x1 : Int) % 1073741824), .slice (some ⟨g, 0, none⟩) n c] := hB2.drewN 1
    have hres : Block V2.drew w.heap.size 24 [.int .i64 0, .int .i64 0, .slice none 0 0] := (((HB0.out.drewN (m1 + 1)).later hb2)).drewN 1
    have hb : Below w.heap.size w V2.drew := below_drewN ((below_drewN HW0.out (m1 + 1)).trans (hb2.mono (by simp))) 1
    have hrd : Reads .u32 V2.drew (some ⟨b, off, none⟩) (n + 3) ps := ((HP.out.drewN (m1 + 1)).below hb2).drewN 1
    have e5 : ((x1 / 1073741824 : Nat) : Int) = (x1 : Int) / 1073741824 := by omega
    have e6 : ((x1 % 1073741824 : Nat) : Int) = (x1 : Int) % 1073741824 := by omega
    have e3 : ((n + 3 : Nat) : Int) = (n : Int) + 3 := by omega
    have hLn : L.length = n := HL.out.1
    have hwl := words_length (x1 / 1073741824) (x1 % 1073741824) L
    have rgt0 : ∀ W, Calls Try.prog 8 #[.agg #[.int .i64 ((x1 : Int) / 1073741824), .int .i64 ((x1 : Int) % 1073741824), .slice (some ⟨g, 0, none⟩) n c]] W (Gives (.bool (okB ((x1 / 1073741824 : Nat) : Int) ((x1 % 1073741824 : Nat) : Int) n)) W) := fun W => by
      rw [e5, e6]; exact refRight_any _ _ _ _ _ W
    have lay0 : okB ((x1 / 1073741824 : Nat) : Int) ((x1 % 1073741824 : Nat) : Int) n = true → ∀ W, Row W 40 .u32 g c L → Calls Try.prog 10 #[.agg #[.int .i64 ((x1 : Int) / 1073741824), .int .i64 ((x1 : Int) % 1073741824), .slice (some ⟨g, 0, none⟩) n c]] W fun e w' => ∃ gl cl, e = .returned (.slice (some ⟨gl, 0, none⟩) (n + 3) cl) ∧ W.heap.size ≤ gl ∧ Row w' 40 .u32 gl cl (words (x1 / 1073741824) (x1 % 1073741824) L) ∧ Below W.heap.size W w' := fun hok W h => by
      have hr := h.reads
      rw [hLn] at hr
      have := refLay_yes (x1 / 1073741824) (x1 % 1073741824) (some ⟨g, 0, none⟩) n c L W hr HLL0.out hok
      rw [e5, e6] at this
      exact this
    have sam0 : ∀ gl cl W, Row W 40 .u32 gl cl (words (x1 / 1073741824) (x1 % 1073741824) L) → Reads .u32 W (some ⟨b, off, none⟩) (n + 3) ps → Calls Try.prog 9 #[.slice (some ⟨gl, 0, none⟩) (n + 3) cl, .slice (some ⟨b, off, none⟩) (n + 3) cap] W (Quiet (.bool (decide (words (x1 / 1073741824) (x1 % 1073741824) L = ps))) W) := fun gl cl W h1 h2 => by
      have hr := h1.reads
      rw [hwl, hLn] at hr
      exact sameB_any _ _ (n + 3) cl cap _ ps W hr h2 (by have := HN2.out; omega)
    have HGW := hid hgw
    have HLEN := hid hLn
    clear hR hB hb2 hB2 hk2 hg hg' hne hgw hgw' hwl hLn
    simp only [plan.at3]
    walk_nrm
    go_wp2
    refine plan.region (by kernel_rfl) ?_
    by_cases hok : okB ((x1 / 1073741824 : Nat) : Int) ((x1 % 1073741824 : Nat) : Int) n = true
    · have rgt := rgt0
      rw [hok] at rgt
      have lay := lay0 hok
      clear rgt0 lay0
      by_cases hsm : words (x1 / 1073741824) (x1 % 1073741824) L = ps
      · have hre := HRE.out
        rw [if_pos ⟨hok, hsm⟩] at hre
        subst hre
        have sam := sam0
        rw [decide_eq_true hsm] at sam
        clear sam0 hok hsm
        unfold ReadsAs
        refine plan.Rest.first 0 _ (.agg #[.int .i64 ((x1 : Int) / 1073741824), .int .i64 ((x1 : Int) % 1073741824), .slice (some ⟨g, 0, none⟩) n c]) rfl (by kernel_rfl) (by kernel_rfl) (by kernel_rfl) (by kernel_rfl) (fun w' hb' => plan.exec_load rfl (by kernel_rfl) (hblk.later hb').whole Try.underlying24 rfl HLL.out) ?_
        refine plan.Rest.call 1 _ 8 #[.agg #[.int .i64 ((x1 : Int) / 1073741824), .int .i64 ((x1 : Int) % 1073741824), .slice (some ⟨g, 0, none⟩) n c]] rfl (by kernel_rfl) (by kernel_rfl) (by kernel_rfl) ((rgt V2.drew).mono ?_)
        rintro e W1 ⟨rfl, hn⟩
        have hb := hb.trans (hn.mono hb.size)
        have hblk := hblk.later hn
        have hrow := hrow.later hn
        have hrd := hrd.below hn
        have hres := hres.later hn
        refine ⟨_, rfl, hn, ?_⟩
        refine plan.Rest.first 2 _ (.bool false) rfl (by kernel_rfl) (by kernel_rfl) (by kernel_rfl) (by kernel_rfl) (fun w' hb' => (by kernel_rfl)) ?_
        refine plan.Rest.first 3 _ (.bool false) rfl (by kernel_rfl) (by kernel_rfl) (by kernel_rfl) (by kernel_rfl) (fun w' hb' => (by kernel_rfl)) ?_
        refine plan.Rest.first 4 _ (.agg #[.int .i64 ((x1 : Int) / 1073741824), .int .i64 ((x1 : Int) % 1073741824), .slice (some ⟨g, 0, none⟩) n c]) rfl (by kernel_rfl) (by kernel_rfl) (by kernel_rfl) (by kernel_rfl) (fun w' hb' => plan.exec_load rfl (by kernel_rfl) (hblk.later hb').whole Try.underlying24 rfl HLL.out) ?_
        refine plan.Rest.first 6 _ (.slice (some ⟨b, off, none⟩) len cap) rfl (by kernel_rfl) (by kernel_rfl) (by kernel_rfl) (by kernel_rfl) (fun w' hb' => (by kernel_rfl)) ?_
        refine plan.Rest.first 7 _ (.int .i64 (n : Int)) rfl (by kernel_rfl) (by kernel_rfl) (by kernel_rfl) (by kernel_rfl) (fun w' hb' => (by kernel_rfl)) ?_
        refine plan.Rest.first 8 _ (.int .i64 ((n : Int) + 3)) rfl (by kernel_rfl) (by kernel_rfl) (by kernel_rfl) (by kernel_rfl) (fun w' hb' => exec_add3 (n := n) rfl (by kernel_rfl) (by kernel_rfl) HN2.out) ?_
        refine plan.Rest.first 9 _ (.slice (some ⟨b, off, none⟩) (n + 3) cap) rfl (by kernel_rfl) (by kernel_rfl) (by kernel_rfl) (by kernel_rfl) (fun w' hb' => exec_pre (b := b) (off := off) (len := len) (cap := cap) (n := n) rfl (by kernel_rfl) (by kernel_rfl) HCAP3.out) ?_
        refine plan.Rest.call 5 _ 10 #[.agg #[.int .i64 ((x1 : Int) / 1073741824), .int .i64 ((x1 : Int) % 1073741824), .slice (some ⟨g, 0, none⟩) n c]] rfl (by kernel_rfl) (by kernel_rfl) (by kernel_rfl) ((lay W1 hrow).mono ?_)
        rintro e W2 ⟨gl, cl, rfl, hgl, hrl, hn⟩
        have hb := hb.trans (hn.mono hb.size)
        have hblk := hblk.later hn
        have hrow := hrow.later hn
        have hrd := hrd.below hn
        have hres := hres.later hn
        refine ⟨_, rfl, hn, ?_⟩
        refine plan.Rest.call 10 _ 9 #[.slice (some ⟨gl, 0, none⟩) (n + 3) cl, .slice (some ⟨b, off, none⟩) (n + 3) cap] rfl (by kernel_rfl) (by kernel_rfl) (by kernel_rfl) ((sam gl cl W2 hrl hrd).mono ?_)
        rintro e W3 ⟨rfl, m9, hm9⟩
        have hn : Below W2.heap.size W2 W3 := by rw [hm9]; exact below_drewN (Below.refl _ _) _
        clear hm9
        have hb := hb.trans (hn.mono hb.size)
        have hblk := hblk.later hn
        have hrow := hrow.later hn
        have hrd := hrd.below hn
        have hres := hres.later hn
        refine ⟨_, rfl, hn, ?_⟩
        refine plan.Rest.first 11 _ (.bool false) rfl (by kernel_rfl) (by kernel_rfl) (by kernel_rfl) (by kernel_rfl) (fun w' hb' => (by kernel_rfl)) ?_
        refine plan.Rest.first 12 _ (.bool false) rfl (by kernel_rfl) (by kernel_rfl) (by kernel_rfl) (by kernel_rfl) (fun w' hb' => (by kernel_rfl)) ?_
        refine plan.Rest.done (by kernel_rfl) ?_
        have k0 : (W3).cell? ⟨w.heap.size, 0, none⟩ = some (.int .i64 0) := hres.cell 0
        have k1 : (W3).cell? ⟨w.heap.size, 1, none⟩ = some (.int .i64 0) := hres.cell 1
        have k2 : (W3).cell? ⟨w.heap.size, 2, none⟩ = some (.slice none 0 0) := hres.cell 2
        have f0 := hres.frozen 0
        have f1 := hres.frozen 1
        have f2 := hres.frozen 2
        have hB5 := hres.setCell 0 (.int .i64 ((x1 : Int) / 1073741824))
        have s0 : ((W3).setCell ⟨w.heap.size, 0, none⟩ (.int .i64 ((x1 : Int) / 1073741824))).cell? ⟨w.heap.size, 0, none⟩ = some (.int .i64 ((x1 : Int) / 1073741824)) := hB5.cell 0
        have hB6 := hB5.setCell 1 (.int .i64 ((x1 : Int) % 1073741824))
        have s1 : (((W3).setCell ⟨w.heap.size, 0, none⟩ (.int .i64 ((x1 : Int) / 1073741824))).setCell ⟨w.heap.size, 1, none⟩ (.int .i64 ((x1 : Int) % 1073741824))).cell? ⟨w.heap.size, 1, none⟩ = some (.int .i64 ((x1 : Int) % 1073741824)) := hB6.cell 1
        have hB7 := hB6.setCell 2 (.slice (some ⟨g, 0, none⟩) n c)
        have s2 : ((((W3).setCell ⟨w.heap.size, 0, none⟩ (.int .i64 ((x1 : Int) / 1073741824))).setCell ⟨w.heap.size, 1, none⟩ (.int .i64 ((x1 : Int) % 1073741824))).setCell ⟨w.heap.size, 2, none⟩ (.slice (some ⟨g, 0, none⟩) n c)).cell? ⟨w.heap.size, 2, none⟩ = some (.slice (some ⟨g, 0, none⟩) n c) := hB7.cell 2
        have HBF := hid hb
        have HRF := hid hrow
        have q0 : W3.cell? ⟨g', 0, none⟩ = some (.int .i64 ((x1 : Int) / 1073741824)) := hblk.cell 0
        have q1 : W3.cell? ⟨g', 1, none⟩ = some (.int .i64 ((x1 : Int) % 1073741824)) := hblk.cell 1
        have q2 : W3.cell? ⟨g', 2, none⟩ = some (.slice (some ⟨g, 0, none⟩) n c) := hblk.cell 2
        clear hb hblk hrow hrd hres hB5 hB6 hB7
        walk_nrm
        go_wp2
        refine bodyPost_ret (by simp [results, Try.results13, go_sem, s0, s1, s2]; try rfl) rfl ?_
        have hgw : w.heap.size < g := HGW.out
        refine ⟨g, c, ?_, by omega, ((HRF.out.apart _ _ _ (by omega)).apart _ _ _ (by omega)).apart _ _ _ (by omega), ((HBF.out.setCell (p := ⟨w.heap.size, 0, none⟩) (Nat.le_refl _) _).setCell (p := ⟨w.heap.size, 1, none⟩) (Nat.le_refl _) _).setCell (p := ⟨w.heap.size, 2, none⟩) (Nat.le_refl _) _⟩
        rw [HLEN.out, e5, e6, e3]
      · have hre := HRE.out
        rw [if_neg (fun h => hsm h.2)] at hre
        subst hre
        have sam := sam0
        rw [decide_eq_false hsm] at sam
        clear sam0 hok hsm
        unfold ReadsAs
        refine plan.Rest.first 0 _ (.agg #[.int .i64 ((x1 : Int) / 1073741824), .int .i64 ((x1 : Int) % 1073741824), .slice (some ⟨g, 0, none⟩) n c]) rfl (by kernel_rfl) (by kernel_rfl) (by kernel_rfl) (by kernel_rfl) (fun w' hb' => plan.exec_load rfl (by kernel_rfl) (hblk.later hb').whole Try.underlying24 rfl HLL.out) ?_
        refine plan.Rest.call 1 _ 8 #[.agg #[.int .i64 ((x1 : Int) / 1073741824), .int .i64 ((x1 : Int) % 1073741824), .slice (some ⟨g, 0, none⟩) n c]] rfl (by kernel_rfl) (by kernel_rfl) (by kernel_rfl) ((rgt V2.drew).mono ?_)
        rintro e W1 ⟨rfl, hn⟩
        have hb := hb.trans (hn.mono hb.size)
        have hblk := hblk.later hn
        have hrow := hrow.later hn
        have hrd := hrd.below hn
        have hres := hres.later hn
        refine ⟨_, rfl, hn, ?_⟩
        refine plan.Rest.first 2 _ (.bool false) rfl (by kernel_rfl) (by kernel_rfl) (by kernel_rfl) (by kernel_rfl) (fun w' hb' => (by kernel_rfl)) ?_
        refine plan.Rest.first 3 _ (.bool false) rfl (by kernel_rfl) (by kernel_rfl) (by kernel_rfl) (by kernel_rfl) (fun w' hb' => (by kernel_rfl)) ?_
        refine plan.Rest.first 4 _ (.agg #[.int .i64 ((x1 : Int) / 1073741824), .int .i64 ((x1 : Int) % 1073741824), .slice (some ⟨g, 0, none⟩) n c]) rfl (by kernel_rfl) (by kernel_rfl) (by kernel_rfl) (by kernel_rfl) (fun w' hb' => plan.exec_load rfl (by kernel_rfl) (hblk.later hb').whole Try.underlying24 rfl HLL.out) ?_
        refine plan.Rest.first 6 _ (.slice (some ⟨b, off, none⟩) len cap) rfl (by kernel_rfl) (by kernel_rfl) (by kernel_rfl) (by kernel_rfl) (fun w' hb' => (by kernel_rfl)) ?_
        refine plan.Rest.first 7 _ (.int .i64 (n : Int)) rfl (by kernel_rfl) (by kernel_rfl) (by kernel_rfl) (by kernel_rfl) (fun w' hb' => (by kernel_rfl)) ?_
        refine plan.Rest.first 8 _ (.int .i64 ((n : Int) + 3)) rfl (by kernel_rfl) (by kernel_rfl) (by kernel_rfl) (by kernel_rfl) (fun w' hb' => exec_add3 (n := n) rfl (by kernel_rfl) (by kernel_rfl) HN2.out) ?_
        refine plan.Rest.first 9 _ (.slice (some ⟨b, off, none⟩) (n + 3) cap) rfl (by kernel_rfl) (by kernel_rfl) (by kernel_rfl) (by kernel_rfl) (fun w' hb' => exec_pre (b := b) (off := off) (len := len) (cap := cap) (n := n) rfl (by kernel_rfl) (by kernel_rfl) HCAP3.out) ?_
        refine plan.Rest.call 5 _ 10 #[.agg #[.int .i64 ((x1 : Int) / 1073741824), .int .i64 ((x1 : Int) % 1073741824), .slice (some ⟨g, 0, none⟩) n c]] rfl (by kernel_rfl) (by kernel_rfl) (by kernel_rfl) ((lay W1 hrow).mono ?_)
        rintro e W2 ⟨gl, cl, rfl, hgl, hrl, hn⟩
        have hb := hb.trans (hn.mono hb.size)
        have hblk := hblk.later hn
        have hrow := hrow.later hn
        have hrd := hrd.below hn
        have hres := hres.later hn
        refine ⟨_, rfl, hn, ?_⟩
        refine plan.Rest.call 10 _ 9 #[.slice (some ⟨gl, 0, none⟩) (n + 3) cl, .slice (some ⟨b, off, none⟩) (n + 3) cap] rfl (by kernel_rfl) (by kernel_rfl) (by kernel_rfl) ((sam gl cl W2 hrl hrd).mono ?_)
        rintro e W3 ⟨rfl, m9, hm9⟩
        have hn : Below W2.heap.size W2 W3 := by rw [hm9]; exact below_drewN (Below.refl _ _) _
        clear hm9
        have hb := hb.trans (hn.mono hb.size)
        have hblk := hblk.later hn
        have hrow := hrow.later hn
        have hrd := hrd.below hn
        have hres := hres.later hn
        refine ⟨_, rfl, hn, ?_⟩
        refine plan.Rest.first 11 _ (.bool true) rfl (by kernel_rfl) (by kernel_rfl) (by kernel_rfl) (by kernel_rfl) (fun w' hb' => (by kernel_rfl)) ?_
        refine plan.Rest.first 12 _ (.bool true) rfl (by kernel_rfl) (by kernel_rfl) (by kernel_rfl) (by kernel_rfl) (fun w' hb' => (by kernel_rfl)) ?_
        refine plan.Rest.done (by kernel_rfl) ?_
        have k0 : (W3).cell? ⟨w.heap.size, 0, none⟩ = some (.int .i64 0) := hres.cell 0
        have k1 : (W3).cell? ⟨w.heap.size, 1, none⟩ = some (.int .i64 0) := hres.cell 1
        have k2 : (W3).cell? ⟨w.heap.size, 2, none⟩ = some (.slice none 0 0) := hres.cell 2
        have f0 := hres.frozen 0
        have f1 := hres.frozen 1
        have f2 := hres.frozen 2
        have hB5 := hres.setCell 0 (.int .i64 0)
        have s0 : ((W3).setCell ⟨w.heap.size, 0, none⟩ (.int .i64 0)).cell? ⟨w.heap.size, 0, none⟩ = some (.int .i64 0) := hB5.cell 0
        have hB6 := hB5.setCell 1 (.int .i64 0)
        have s1 : (((W3).setCell ⟨w.heap.size, 0, none⟩ (.int .i64 0)).setCell ⟨w.heap.size, 1, none⟩ (.int .i64 0)).cell? ⟨w.heap.size, 1, none⟩ = some (.int .i64 0) := hB6.cell 1
        have hB7 := hB6.setCell 2 (.slice none 0 0)
        have s2 : ((((W3).setCell ⟨w.heap.size, 0, none⟩ (.int .i64 0)).setCell ⟨w.heap.size, 1, none⟩ (.int .i64 0)).setCell ⟨w.heap.size, 2, none⟩ (.slice none 0 0)).cell? ⟨w.heap.size, 2, none⟩ = some (.slice none 0 0) := hB7.cell 2
        have HBF := hid hb
        have HRF := hid hrow
        clear hb hblk hrow hrd hres hB5 hB6 hB7
        walk_nrm
        go_wp2
        refine bodyPost_ret (by simp [results, Try.results13, go_sem, s0, s1, s2]; try rfl) rfl ?_
        exact ⟨rfl, ((HBF.out.setCell (p := ⟨w.heap.size, 0, none⟩) (Nat.le_refl _) _).setCell (p := ⟨w.heap.size, 1, none⟩) (Nat.le_refl _) _).setCell (p := ⟨w.heap.size, 2, none⟩) (Nat.le_refl _) _⟩
    · have hre := HRE.out
      rw [if_neg (fun h => hok h.1)] at hre
      subst hre
      rw [Bool.not_eq_true] at hok
      have rgt := rgt0
      rw [hok] at rgt
      clear rgt0 lay0 sam0 hok
      unfold ReadsAs
      refine plan.Rest.first 0 _ (.agg #[.int .i64 ((x1 : Int) / 1073741824), .int .i64 ((x1 : Int) % 1073741824), .slice (some ⟨g, 0, none⟩) n c]) rfl (by kernel_rfl) (by kernel_rfl) (by kernel_rfl) (by kernel_rfl) (fun w' hb' => plan.exec_load rfl (by kernel_rfl) (hblk.later hb').whole Try.underlying24 rfl HLL.out) ?_
      refine plan.Rest.call 1 _ 8 #[.agg #[.int .i64 ((x1 : Int) / 1073741824), .int .i64 ((x1 : Int) % 1073741824), .slice (some ⟨g, 0, none⟩) n c]] rfl (by kernel_rfl) (by kernel_rfl) (by kernel_rfl) ((rgt V2.drew).mono ?_)
      rintro e W1 ⟨rfl, hn⟩
      have hb := hb.trans (hn.mono hb.size)
      have hblk := hblk.later hn
      have hrow := hrow.later hn
      have hrd := hrd.below hn
      have hres := hres.later hn
      refine ⟨_, rfl, hn, ?_⟩
      refine plan.Rest.first 2 _ (.bool true) rfl (by kernel_rfl) (by kernel_rfl) (by kernel_rfl) (by kernel_rfl) (fun w' hb' => (by kernel_rfl)) ?_
      refine plan.Rest.first 3 _ (.bool true) rfl (by kernel_rfl) (by kernel_rfl) (by kernel_rfl) (by kernel_rfl) (fun w' hb' => (by kernel_rfl)) ?_
      refine plan.Rest.skip 4 _ rfl (by kernel_rfl) (by kernel_rfl) (by kernel_rfl) (by kernel_rfl) ?_
      refine plan.Rest.skip 5 _ rfl (by kernel_rfl) (by kernel_rfl) (by kernel_rfl) (by kernel_rfl) ?_
      refine plan.Rest.skip 6 _ rfl (by kernel_rfl) (by kernel_rfl) (by kernel_rfl) (by kernel_rfl) ?_
      refine plan.Rest.skip 7 _ rfl (by kernel_rfl) (by kernel_rfl) (by kernel_rfl) (by kernel_rfl) ?_
      refine plan.Rest.skip 8 _ rfl (by kernel_rfl) (by kernel_rfl) (by kernel_rfl) (by kernel_rfl) ?_
      refine plan.Rest.skip 9 _ rfl (by kernel_rfl) (by kernel_rfl) (by kernel_rfl) (by kernel_rfl) ?_
      refine plan.Rest.skip 10 _ rfl (by kernel_rfl) (by kernel_rfl) (by kernel_rfl) (by kernel_rfl) ?_
      refine plan.Rest.skip 11 _ rfl (by kernel_rfl) (by kernel_rfl) (by kernel_rfl) (by kernel_rfl) ?_
      refine plan.Rest.first 12 _ (.bool true) rfl (by kernel_rfl) (by kernel_rfl) (by kernel_rfl) (by kernel_rfl) (fun w' hb' => (by kernel_rfl)) ?_
      refine plan.Rest.done (by kernel_rfl) ?_
      have k0 : (W1).cell? ⟨w.heap.size, 0, none⟩ = some (.int .i64 0) := hres.cell 0
      have k1 : (W1).cell? ⟨w.heap.size, 1, none⟩ = some (.int .i64 0) := hres.cell 1
      have k2 : (W1).cell? ⟨w.heap.size, 2, none⟩ = some (.slice none 0 0) := hres.cell 2
      have f0 := hres.frozen 0
      have f1 := hres.frozen 1
      have f2 := hres.frozen 2
      have hB5 := hres.setCell 0 (.int .i64 0)
      have s0 : ((W1).setCell ⟨w.heap.size, 0, none⟩ (.int .i64 0)).cell? ⟨w.heap.size, 0, none⟩ = some (.int .i64 0) := hB5.cell 0
      have hB6 := hB5.setCell 1 (.int .i64 0)
      have s1 : (((W1).setCell ⟨w.heap.size, 0, none⟩ (.int .i64 0)).setCell ⟨w.heap.size, 1, none⟩ (.int .i64 0)).cell? ⟨w.heap.size, 1, none⟩ = some (.int .i64 0) := hB6.cell 1
      have hB7 := hB6.setCell 2 (.slice none 0 0)
      have s2 : ((((W1).setCell ⟨w.heap.size, 0, none⟩ (.int .i64 0)).setCell ⟨w.heap.size, 1, none⟩ (.int .i64 0)).setCell ⟨w.heap.size, 2, none⟩ (.slice none 0 0)).cell? ⟨w.heap.size, 2, none⟩ = some (.slice none 0 0) := hB7.cell 2
      have HBF := hid hb
      have HRF := hid hrow
      clear hb hblk hrow hrd hres hB5 hB6 hB7
      walk_nrm
      go_wp2
      refine bodyPost_ret (by simp [results, Try.results13, go_sem, s0, s1, s2]; try rfl) rfl ?_
      exact ⟨rfl, ((HBF.out.setCell (p := ⟨w.heap.size, 0, none⟩) (Nat.le_refl _) _).setCell (p := ⟨w.heap.size, 1, none⟩) (Nat.le_refl _) _).setCell (p := ⟨w.heap.size, 2, none⟩) (Nat.le_refl _) _⟩
theorem refRead_any (a : Option Addr) (len cap : Nat) (xs : List Nat) (w : World) (hr : Reads .u32 w a len xs) (hx : ∀ x ∈ xs, x < 4294967296) (hlc : len ≤ cap) :
    Calls Try.prog 13 #[.slice a len cap] w (ReadsAs (readN xs) w) := by
  by_cases h : len < 4
  · exact refRead_few a len cap xs w hr h
  · obtain ⟨b, off, rfl, _, _⟩ := hr.at (show 0 < len by omega)
    by_cases h2 : (toldN (xs.getD 0 0)).1 < 1 ∨ 56 < (toldN (xs.getD 0 0)).1 ∨ len < (toldN (xs.getD 0 0)).1 + 3
    · exact refRead_not b off len cap _ xs w hr hx (by omega) rfl h2
    · exact refRead_in b off len cap _ xs w hr hx hlc rfl (by omega) (by omega) (by omega)
end Go.Proofs.Ytfgbiafoncaagaa.frame
/- FrameWords: any frame's words, or that it may not be, and the frame with which any words begin, are as the reference says. No condition. -/
namespace Go.Proofs.Ytfgbiafoncaagaa.frameWords
open Go.RowKit Go.Proofs.Ytfgbiafoncaagaa.word Go.Proofs.Ytfgbiafoncaagaa.zeros Go.Proofs.Ytfgbiafoncaagaa.frame Go.Proofs.Ytfgbiafoncaagaa.flash
set_option linter.unusedVariables false

/-- the call returns a frame, whose load L is a row of its own, and the number M -/
def ReadsM (k s : Int) (L : List Nat) (l : Nat) (M : Int) (w : World) (e : Ending) (w' : World) : Prop :=
  ∃ g c, e = .returned (.tuple #[.agg #[.int .i64 k, .int .i64 s, .slice (some ⟨g, 0, none⟩) l c], .int .i64 M, .bool true]) ∧ w.heap.size ≤ g ∧ Row w' 40 .u32 g c L ∧ Below w.heap.size w w'
theorem sameR (k s : Int) (g c g' c' l : Nat) (L : List Nat) (W : World) (h1 : Row W 40 .u32 g c L) (h2 : Row W 40 .u32 g' c' L) (hl : L.length = l) (hs : l ≤ 56) :
    Calls Try.prog 14 #[.agg #[.int .i64 k, .int .i64 s, .slice (some ⟨g, 0, none⟩) l c], .agg #[.int .i64 k, .int .i64 s, .slice (some ⟨g', 0, none⟩) l c']] W (Gives (.bool true) W) := by
  have r1 := h1.reads
  have r2 := h2.reads
  rw [hl] at r1 r2
  exact refSameF_any k s _ _ l c c' L W r1 r2 (by omega)
theorem sameZ (W : World) : Calls Try.prog 14 #[.agg #[.int .i64 0, .int .i64 0, .slice none 0 0], .agg #[.int .i64 0, .int .i64 0, .slice none 0 0]] W (Gives (.bool true) W) :=
  refSameF_any 0 0 none none 0 0 0 [] W Reads.nil Reads.nil (by decide)
set_option maxRecDepth 20000 in
set_option maxHeartbeats 6400000 in
theorem walk (p : FArg) (a1 : Option Addr) (len1 cap1 : Nat) (ms : List Nat) (w : World) (hp : p.Good w)
    (hr1 : Reads .u32 w a1 len1 ms) (hx1 : ∀ x ∈ ms, x < 4294967296) (hlc1 : len1 ≤ cap1) (hcap1 : cap1 * 4 ≤ 140737488351232) :
    Calls Try.prog 3 #[p.val, .slice a1 len1 cap1] w (Yes w) := by
  have HF := hid (cells3 p w)
  have HB := hid (belowNewF p w)
  have hbw : Below w.heap.size w (w.alloc (.cells #[.int .i64 p.k, .int .i64 p.s, .slice p.l p.lLen p.lCap] 24)) := (Below.refl _ _).alloc (Nat.le_refl _) _
  have hp0 := hp.below hbw
  have hr0 := hr1.below hbw
  obtain ⟨w0, hw0⟩ : ∃ x, Hid ((w.alloc (.cells #[.int .i64 p.k, .int .i64 p.s, .slice p.l p.lLen p.lCap] 24)) = x) := ⟨_, rfl⟩
  rw [hw0.out] at HF HB hp0 hr0
  clear hp hr1 hbw
  have hcm : cap1 ≤ maxLen := by unfold maxLen; omega
  have cra := fun W (h : Below w0.heap.size w0 W) => read_any a1 len1 cap1 ms W (hr0.below h) hx1 hlc1 hcm
  have crb := fun W (h : Below w0.heap.size w0 W) => refRead_any a1 len1 cap1 ms W (hr0.below h) hx1 hlc1
  have hsome := fun k s L (h : readN ms = some (k, s, L)) => (readN_some h).1
  generalize readN ms = r at *
  have hlt : w.heap.size < w0.heap.size := by rw [← hw0.out]; simp
  have crt := right_at p
  unfold FArg.val
  clear hr0 hx1 hlc1 hcap1 hcm
  by_cases hok : okB p.k p.s p.lLen = true
  · obtain ⟨_, _, _, o4, o5⟩ := okB_true.1 hok
    rw [hok] at crt
    have HWL := hid (words_len hp0)
    have cl := fun W hb => lay_yes_at hp0 hok W hb
    have clr := fun W hb => refLay_yes_at hp0 hok W hb
    have csz := fun w' => size_any (p.lLen : Int) w'
    rw [show sizeI (p.lLen : Int) = (p.lLen : Int) + 3 from by unfold sizeI; rw [if_pos (by omega)]] at csz
    clear hok
    match r, cra, crb, hsome with
    | none, cra, crb, _ =>
      have csM := fun w' => size_any 0 w'
      rw [show sizeI 0 = 0 from rfl] at csM
      unfold ReadsAs at cra crb
      simp only at cra crb
      clear hp0
      as_aux_lemma =>
        go_enter Try.func3, Try.ntmps3
        go_wp2_with fail
        rw [hw0.out]
        go_wp2_with (first
          | (go_at_call 7; ((with_reducible refine (cl _ (Below.refl _ _)).mono ?_); rintro e w1 ⟨g1, c1, rfl, hg1, hrow1, hb1⟩; obtain ⟨f0, f1, f2⟩ := HF.out w1 hb1))
          | (go_at_call 8; ((with_reducible refine (crt _).mono ?_); rintro e w2 ⟨rfl, hb2⟩; have hb02 := hb1.trans (hb2.mono hb1.size); obtain ⟨e0, e1, e2⟩ := HF.out w2 hb02))
          | (go_at_call 10; ((with_reducible refine (clr _ hb02).mono ?_); rintro e w3 ⟨g2, c2, rfl, hg2, hrow2, hb3⟩; have hb03 := hb02.trans (hb3.mono hb02.size); obtain ⟨d0, d1, d2⟩ := HF.out w3 hb03; have rd1 := ((hrow1.later hb2).later hb3).reads; have rd2 := hrow2.reads; rw [HWL.out] at rd1 rd2; have csm := same_any (some ⟨g1, 0, none⟩) (some ⟨g2, 0, none⟩) (p.lLen + 3) c1 c2 p.words w3 rd1 rd2 (by omega)))
          | (go_at_call 9; ((with_reducible refine csm.mono ?_); clear csm rd1 rd2; rintro e w' ⟨rfl, m1, rfl⟩))
          | (go_at_call 11; ((with_reducible refine (csz _).mono ?_); rintro e w' ⟨rfl, m2, rfl⟩))
          | (go_at_call 12; ((with_reducible refine (cra _ (below_drewN hb03 _)).mono ?_); rintro e w4 ⟨rfl, hb4⟩; have hb04 := (show Below w0.heap.size w0 _ from below_drewN hb03 _).trans (hb4.mono (show Below w0.heap.size w0 _ from below_drewN hb03 _).size); have hx4 : Below w4.heap.size w4 (w4.alloc (.cells #[.int .i64 0, .int .i64 0, .slice none 0 0] 28)) := (Below.refl _ _).alloc (Nat.le_refl _) _; have hb4x := hb04.trans (hx4.mono hb04.size); have hblk := Block.new w4 28 [.int .i64 0, .int .i64 0, .slice none 0 0]))
          | (go_at_call 13; ((with_reducible refine (crb _ hb4x).mono ?_); rintro e w5 ⟨rfl, hb5⟩; have hb05 := hb4x.trans (hb5.mono hb4x.size); have hblk5 := hblk.later hb5; have x0 := hblk5.cell 0; have x1 := hblk5.cell 1; have x2 := hblk5.cell 2; simp only [List.getElem?_cons_zero, List.getElem?_cons_succ] at x0 x1 x2; have hlt5 : w4.heap.size < w5.heap.size := hblk5.lt; have hx5 : Below w5.heap.size w5 (w5.alloc (.cells #[.int .i64 0, .int .i64 0, .slice none 0 0] 24)) := (Below.refl _ _).alloc (Nat.le_refl _) _; have hb5x := hb05.trans (hx5.mono hb05.size); have csf := sameZ (w5.alloc (.cells #[.int .i64 0, .int .i64 0, .slice none 0 0] 24))))
          | (go_at_call 14; ((with_reducible refine csf.mono ?_); clear csf; rintro e w6 ⟨rfl, hb6⟩; have hb06 := hb5x.trans (hb6.mono hb5x.size)))
          | (go_at_call 11; ((with_reducible refine (csM _).mono ?_); rintro e w' ⟨rfl, m5, rfl⟩))
          | (go_at_call 15; ((with_reducible refine (awake_any _).mono ?_); rintro e w7 ⟨rfl, hb7⟩)))
        go_ret
        exact ⟨ret_bool (by first | rfl | (simp only [Bool.and_eq_true, Bool.not_eq_true', decide_eq_false_iff_not]; omega)), HB.out _ ((below_drewN hb06 _).trans (hb7.mono (below_drewN hb06 _).size))⟩
    | some (k0, s0, L), cra, crb, hsome =>
      obtain ⟨_, _, _, o4, o5⟩ := okB_true.1 (hsome _ _ _ rfl)
      obtain ⟨k, hk⟩ : ∃ k : Int, (k0 : Int) = k := ⟨_, rfl⟩
      obtain ⟨s, hs⟩ : ∃ s : Int, (s0 : Int) = s := ⟨_, rfl⟩
      obtain ⟨l, hl⟩ : ∃ l, L.length = l := ⟨_, rfl⟩
      obtain ⟨M, hM⟩ : ∃ M : Int, ((l + 3 : Nat) : Int) = M := ⟨_, rfl⟩
      unfold ReadsAs at cra crb
      simp only [hk, hs, hl, hM] at cra crb
      have HLL := hid hl
      have HLS : Hid (l ≤ 56) := hid (by omega)
      have hm1 : ¬ M < 1 := by omega
      have hm4 : 4 ≤ M := by omega
      have hm5 : M ≤ 59 := by omega
      have csM := fun w' => size_any M w'
      clear hp0 hk hs hl hM o4 o5 hsome
      by_cases hg : M ≤ 56
      · have hm2 : ¬ 56 < M := by omega
        have hz : sizeI M = M + 3 := by unfold sizeI; rw [if_pos (by omega)]
        have q0 : (M + 3 == 0) = false := by rw [beq_eq_false_iff_ne]; omega
        rw [hz] at csM
        clear hz hg
        as_aux_lemma =>
          go_enter Try.func3, Try.ntmps3
          go_wp2_with fail
          rw [hw0.out]
          go_wp2_with (first
            | (go_at_call 7; ((with_reducible refine (cl _ (Below.refl _ _)).mono ?_); rintro e w1 ⟨g1, c1, rfl, hg1, hrow1, hb1⟩; obtain ⟨f0, f1, f2⟩ := HF.out w1 hb1))
            | (go_at_call 8; ((with_reducible refine (crt _).mono ?_); rintro e w2 ⟨rfl, hb2⟩; have hb02 := hb1.trans (hb2.mono hb1.size); obtain ⟨e0, e1, e2⟩ := HF.out w2 hb02))
            | (go_at_call 10; ((with_reducible refine (clr _ hb02).mono ?_); rintro e w3 ⟨g2, c2, rfl, hg2, hrow2, hb3⟩; have hb03 := hb02.trans (hb3.mono hb02.size); obtain ⟨d0, d1, d2⟩ := HF.out w3 hb03; have rd1 := ((hrow1.later hb2).later hb3).reads; have rd2 := hrow2.reads; rw [HWL.out] at rd1 rd2; have csm := same_any (some ⟨g1, 0, none⟩) (some ⟨g2, 0, none⟩) (p.lLen + 3) c1 c2 p.words w3 rd1 rd2 (by omega)))
            | (go_at_call 9; ((with_reducible refine csm.mono ?_); clear csm rd1 rd2; rintro e w' ⟨rfl, m1, rfl⟩))
            | (go_at_call 11; ((with_reducible refine (csz _).mono ?_); rintro e w' ⟨rfl, m2, rfl⟩))
            | (go_at_call 12; ((with_reducible refine (cra _ (below_drewN hb03 _)).mono ?_); rintro e w4 ⟨g4, c4, rfl, hg4, hrow4, hb4⟩; have hb04 := (show Below w0.heap.size w0 _ from below_drewN hb03 _).trans (hb4.mono (show Below w0.heap.size w0 _ from below_drewN hb03 _).size); have hx4 : Below w4.heap.size w4 (w4.alloc (.cells #[.int .i64 k, .int .i64 s, .slice (some ⟨g4, 0, none⟩) l c4] 28)) := (Below.refl _ _).alloc (Nat.le_refl _) _; have hb4x := hb04.trans (hx4.mono hb04.size); have hblk := Block.new w4 28 [.int .i64 k, .int .i64 s, .slice (some ⟨g4, 0, none⟩) l c4]))
            | (go_at_call 13; ((with_reducible refine (crb _ hb4x).mono ?_); rintro e w5 ⟨g5, c5, rfl, hg5, hrow5, hb5⟩; have hb05 := hb4x.trans (hb5.mono hb4x.size); have hblk5 := hblk.later hb5; have x0 := hblk5.cell 0; have x1 := hblk5.cell 1; have x2 := hblk5.cell 2; simp only [List.getElem?_cons_zero, List.getElem?_cons_succ] at x0 x1 x2; have hlt5 : w4.heap.size < w5.heap.size := hblk5.lt; have hx5 : Below w5.heap.size w5 (w5.alloc (.cells #[.int .i64 k, .int .i64 s, .slice (some ⟨g5, 0, none⟩) l c5] 24)) := (Below.refl _ _).alloc (Nat.le_refl _) _; have hb5x := hb05.trans (hx5.mono hb05.size); have csf := sameR k s g4 c4 g5 c5 l L (w5.alloc (.cells #[.int .i64 k, .int .i64 s, .slice (some ⟨g5, 0, none⟩) l c5] 24)) (((hrow4.later hx4).later hb5).later hx5) (hrow5.later hx5) HLL.out HLS.out))
            | (go_at_call 14; ((with_reducible refine csf.mono ?_); clear csf; rintro e w6 ⟨rfl, hb6⟩; have hb06 := hb5x.trans (hb6.mono hb5x.size)))
            | (go_at_call 11; ((with_reducible refine (csM _).mono ?_); rintro e w' ⟨rfl, m5, rfl⟩))
            | (go_at_call 15; ((with_reducible refine (awake_any _).mono ?_); rintro e w7 ⟨rfl, hb7⟩)))
          go_ret
          exact ⟨ret_bool (by first | rfl | (simp only [Bool.and_eq_true, Bool.not_eq_true', decide_eq_false_iff_not]; omega)), HB.out _ ((below_drewN hb06 _).trans (hb7.mono (below_drewN hb06 _).size))⟩
      · have hm2 : 56 < M := by omega
        have hz : sizeI M = 0 := by unfold sizeI; rw [if_neg (by omega)]
        rw [hz] at csM
        clear hz hg
        as_aux_lemma =>
          go_enter Try.func3, Try.ntmps3
          go_wp2_with fail
          rw [hw0.out]
          go_wp2_with (first
            | (go_at_call 7; ((with_reducible refine (cl _ (Below.refl _ _)).mono ?_); rintro e w1 ⟨g1, c1, rfl, hg1, hrow1, hb1⟩; obtain ⟨f0, f1, f2⟩ := HF.out w1 hb1))
            | (go_at_call 8; ((with_reducible refine (crt _).mono ?_); rintro e w2 ⟨rfl, hb2⟩; have hb02 := hb1.trans (hb2.mono hb1.size); obtain ⟨e0, e1, e2⟩ := HF.out w2 hb02))
            | (go_at_call 10; ((with_reducible refine (clr _ hb02).mono ?_); rintro e w3 ⟨g2, c2, rfl, hg2, hrow2, hb3⟩; have hb03 := hb02.trans (hb3.mono hb02.size); obtain ⟨d0, d1, d2⟩ := HF.out w3 hb03; have rd1 := ((hrow1.later hb2).later hb3).reads; have rd2 := hrow2.reads; rw [HWL.out] at rd1 rd2; have csm := same_any (some ⟨g1, 0, none⟩) (some ⟨g2, 0, none⟩) (p.lLen + 3) c1 c2 p.words w3 rd1 rd2 (by omega)))
            | (go_at_call 9; ((with_reducible refine csm.mono ?_); clear csm rd1 rd2; rintro e w' ⟨rfl, m1, rfl⟩))
            | (go_at_call 11; ((with_reducible refine (csz _).mono ?_); rintro e w' ⟨rfl, m2, rfl⟩))
            | (go_at_call 12; ((with_reducible refine (cra _ (below_drewN hb03 _)).mono ?_); rintro e w4 ⟨g4, c4, rfl, hg4, hrow4, hb4⟩; have hb04 := (show Below w0.heap.size w0 _ from below_drewN hb03 _).trans (hb4.mono (show Below w0.heap.size w0 _ from below_drewN hb03 _).size); have hx4 : Below w4.heap.size w4 (w4.alloc (.cells #[.int .i64 k, .int .i64 s, .slice (some ⟨g4, 0, none⟩) l c4] 28)) := (Below.refl _ _).alloc (Nat.le_refl _) _; have hb4x := hb04.trans (hx4.mono hb04.size); have hblk := Block.new w4 28 [.int .i64 k, .int .i64 s, .slice (some ⟨g4, 0, none⟩) l c4]))
            | (go_at_call 13; ((with_reducible refine (crb _ hb4x).mono ?_); rintro e w5 ⟨g5, c5, rfl, hg5, hrow5, hb5⟩; have hb05 := hb4x.trans (hb5.mono hb4x.size); have hblk5 := hblk.later hb5; have x0 := hblk5.cell 0; have x1 := hblk5.cell 1; have x2 := hblk5.cell 2; simp only [List.getElem?_cons_zero, List.getElem?_cons_succ] at x0 x1 x2; have hlt5 : w4.heap.size < w5.heap.size := hblk5.lt; have hx5 : Below w5.heap.size w5 (w5.alloc (.cells #[.int .i64 k, .int .i64 s, .slice (some ⟨g5, 0, none⟩) l c5] 24)) := (Below.refl _ _).alloc (Nat.le_refl _) _; have hb5x := hb05.trans (hx5.mono hb05.size); have csf := sameR k s g4 c4 g5 c5 l L (w5.alloc (.cells #[.int .i64 k, .int .i64 s, .slice (some ⟨g5, 0, none⟩) l c5] 24)) (((hrow4.later hx4).later hb5).later hx5) (hrow5.later hx5) HLL.out HLS.out))
            | (go_at_call 14; ((with_reducible refine csf.mono ?_); clear csf; rintro e w6 ⟨rfl, hb6⟩; have hb06 := hb5x.trans (hb6.mono hb5x.size)))
            | (go_at_call 11; ((with_reducible refine (csM _).mono ?_); rintro e w' ⟨rfl, m5, rfl⟩))
            | (go_at_call 15; ((with_reducible refine (awake_any _).mono ?_); rintro e w7 ⟨rfl, hb7⟩)))
          go_ret
          exact ⟨ret_bool (by first | rfl | (simp only [Bool.and_eq_true, Bool.not_eq_true', decide_eq_false_iff_not]; omega)), HB.out _ ((below_drewN hb06 _).trans (hb7.mono (below_drewN hb06 _).size))⟩
  · rw [Bool.not_eq_true] at hok
    rw [hok] at crt
    have cl := lay_no_at hok
    clear hok
    match r, cra, crb, hsome with
    | none, cra, crb, _ =>
      have csM := fun w' => size_any 0 w'
      rw [show sizeI 0 = 0 from rfl] at csM
      unfold ReadsAs at cra crb
      simp only at cra crb
      clear hp0
      as_aux_lemma =>
        go_enter Try.func3, Try.ntmps3
        go_wp2_with fail
        rw [hw0.out]
        go_wp2_with (first
          | (go_at_call 7; ((with_reducible refine (cl _).mono ?_); rintro e w1 ⟨rfl, hb1⟩; obtain ⟨f0, f1, f2⟩ := HF.out w1 hb1))
          | (go_at_call 8; ((with_reducible refine (crt _).mono ?_); rintro e w2 ⟨rfl, hb2⟩; have hb02 := hb1.trans (hb2.mono hb1.size)))
          | (go_at_call 12; ((with_reducible refine (cra _ (hb02)).mono ?_); rintro e w4 ⟨rfl, hb4⟩; have hb04 := (show Below w0.heap.size w0 _ from hb02).trans (hb4.mono (show Below w0.heap.size w0 _ from hb02).size); have hx4 : Below w4.heap.size w4 (w4.alloc (.cells #[.int .i64 0, .int .i64 0, .slice none 0 0] 28)) := (Below.refl _ _).alloc (Nat.le_refl _) _; have hb4x := hb04.trans (hx4.mono hb04.size); have hblk := Block.new w4 28 [.int .i64 0, .int .i64 0, .slice none 0 0]))
          | (go_at_call 13; ((with_reducible refine (crb _ hb4x).mono ?_); rintro e w5 ⟨rfl, hb5⟩; have hb05 := hb4x.trans (hb5.mono hb4x.size); have hblk5 := hblk.later hb5; have x0 := hblk5.cell 0; have x1 := hblk5.cell 1; have x2 := hblk5.cell 2; simp only [List.getElem?_cons_zero, List.getElem?_cons_succ] at x0 x1 x2; have hlt5 : w4.heap.size < w5.heap.size := hblk5.lt; have hx5 : Below w5.heap.size w5 (w5.alloc (.cells #[.int .i64 0, .int .i64 0, .slice none 0 0] 24)) := (Below.refl _ _).alloc (Nat.le_refl _) _; have hb5x := hb05.trans (hx5.mono hb05.size); have csf := sameZ (w5.alloc (.cells #[.int .i64 0, .int .i64 0, .slice none 0 0] 24))))
          | (go_at_call 14; ((with_reducible refine csf.mono ?_); clear csf; rintro e w6 ⟨rfl, hb6⟩; have hb06 := hb5x.trans (hb6.mono hb5x.size)))
          | (go_at_call 11; ((with_reducible refine (csM _).mono ?_); rintro e w' ⟨rfl, m5, rfl⟩))
          | (go_at_call 15; ((with_reducible refine (awake_any _).mono ?_); rintro e w7 ⟨rfl, hb7⟩)))
        go_ret
        exact ⟨ret_bool (by first | rfl | (simp only [Bool.and_eq_true, Bool.not_eq_true', decide_eq_false_iff_not]; omega)), HB.out _ ((below_drewN hb06 _).trans (hb7.mono (below_drewN hb06 _).size))⟩
    | some (k0, s0, L), cra, crb, hsome =>
      obtain ⟨_, _, _, o4, o5⟩ := okB_true.1 (hsome _ _ _ rfl)
      obtain ⟨k, hk⟩ : ∃ k : Int, (k0 : Int) = k := ⟨_, rfl⟩
      obtain ⟨s, hs⟩ : ∃ s : Int, (s0 : Int) = s := ⟨_, rfl⟩
      obtain ⟨l, hl⟩ : ∃ l, L.length = l := ⟨_, rfl⟩
      obtain ⟨M, hM⟩ : ∃ M : Int, ((l + 3 : Nat) : Int) = M := ⟨_, rfl⟩
      unfold ReadsAs at cra crb
      simp only [hk, hs, hl, hM] at cra crb
      have HLL := hid hl
      have HLS : Hid (l ≤ 56) := hid (by omega)
      have hm1 : ¬ M < 1 := by omega
      have hm4 : 4 ≤ M := by omega
      have hm5 : M ≤ 59 := by omega
      have csM := fun w' => size_any M w'
      clear hp0 hk hs hl hM o4 o5 hsome
      by_cases hg : M ≤ 56
      · have hm2 : ¬ 56 < M := by omega
        have hz : sizeI M = M + 3 := by unfold sizeI; rw [if_pos (by omega)]
        have q0 : (M + 3 == 0) = false := by rw [beq_eq_false_iff_ne]; omega
        rw [hz] at csM
        clear hz hg
        as_aux_lemma =>
          go_enter Try.func3, Try.ntmps3
          go_wp2_with fail
          rw [hw0.out]
          go_wp2_with (first
            | (go_at_call 7; ((with_reducible refine (cl _).mono ?_); rintro e w1 ⟨rfl, hb1⟩; obtain ⟨f0, f1, f2⟩ := HF.out w1 hb1))
            | (go_at_call 8; ((with_reducible refine (crt _).mono ?_); rintro e w2 ⟨rfl, hb2⟩; have hb02 := hb1.trans (hb2.mono hb1.size)))
            | (go_at_call 12; ((with_reducible refine (cra _ (hb02)).mono ?_); rintro e w4 ⟨g4, c4, rfl, hg4, hrow4, hb4⟩; have hb04 := (show Below w0.heap.size w0 _ from hb02).trans (hb4.mono (show Below w0.heap.size w0 _ from hb02).size); have hx4 : Below w4.heap.size w4 (w4.alloc (.cells #[.int .i64 k, .int .i64 s, .slice (some ⟨g4, 0, none⟩) l c4] 28)) := (Below.refl _ _).alloc (Nat.le_refl _) _; have hb4x := hb04.trans (hx4.mono hb04.size); have hblk := Block.new w4 28 [.int .i64 k, .int .i64 s, .slice (some ⟨g4, 0, none⟩) l c4]))
            | (go_at_call 13; ((with_reducible refine (crb _ hb4x).mono ?_); rintro e w5 ⟨g5, c5, rfl, hg5, hrow5, hb5⟩; have hb05 := hb4x.trans (hb5.mono hb4x.size); have hblk5 := hblk.later hb5; have x0 := hblk5.cell 0; have x1 := hblk5.cell 1; have x2 := hblk5.cell 2; simp only [List.getElem?_cons_zero, List.getElem?_cons_succ] at x0 x1 x2; have hlt5 : w4.heap.size < w5.heap.size := hblk5.lt; have hx5 : Below w5.heap.size w5 (w5.alloc (.cells #[.int .i64 k, .int .i64 s, .slice (some ⟨g5, 0, none⟩) l c5] 24)) := (Below.refl _ _).alloc (Nat.le_refl _) _; have hb5x := hb05.trans (hx5.mono hb05.size); have csf := sameR k s g4 c4 g5 c5 l L (w5.alloc (.cells #[.int .i64 k, .int .i64 s, .slice (some ⟨g5, 0, none⟩) l c5] 24)) (((hrow4.later hx4).later hb5).later hx5) (hrow5.later hx5) HLL.out HLS.out))
            | (go_at_call 14; ((with_reducible refine csf.mono ?_); clear csf; rintro e w6 ⟨rfl, hb6⟩; have hb06 := hb5x.trans (hb6.mono hb5x.size)))
            | (go_at_call 11; ((with_reducible refine (csM _).mono ?_); rintro e w' ⟨rfl, m5, rfl⟩))
            | (go_at_call 15; ((with_reducible refine (awake_any _).mono ?_); rintro e w7 ⟨rfl, hb7⟩)))
          go_ret
          exact ⟨ret_bool (by first | rfl | (simp only [Bool.and_eq_true, Bool.not_eq_true', decide_eq_false_iff_not]; omega)), HB.out _ ((below_drewN hb06 _).trans (hb7.mono (below_drewN hb06 _).size))⟩
      · have hm2 : 56 < M := by omega
        have hz : sizeI M = 0 := by unfold sizeI; rw [if_neg (by omega)]
        rw [hz] at csM
        clear hz hg
        as_aux_lemma =>
          go_enter Try.func3, Try.ntmps3
          go_wp2_with fail
          rw [hw0.out]
          go_wp2_with (first
            | (go_at_call 7; ((with_reducible refine (cl _).mono ?_); rintro e w1 ⟨rfl, hb1⟩; obtain ⟨f0, f1, f2⟩ := HF.out w1 hb1))
            | (go_at_call 8; ((with_reducible refine (crt _).mono ?_); rintro e w2 ⟨rfl, hb2⟩; have hb02 := hb1.trans (hb2.mono hb1.size)))
            | (go_at_call 12; ((with_reducible refine (cra _ (hb02)).mono ?_); rintro e w4 ⟨g4, c4, rfl, hg4, hrow4, hb4⟩; have hb04 := (show Below w0.heap.size w0 _ from hb02).trans (hb4.mono (show Below w0.heap.size w0 _ from hb02).size); have hx4 : Below w4.heap.size w4 (w4.alloc (.cells #[.int .i64 k, .int .i64 s, .slice (some ⟨g4, 0, none⟩) l c4] 28)) := (Below.refl _ _).alloc (Nat.le_refl _) _; have hb4x := hb04.trans (hx4.mono hb04.size); have hblk := Block.new w4 28 [.int .i64 k, .int .i64 s, .slice (some ⟨g4, 0, none⟩) l c4]))
            | (go_at_call 13; ((with_reducible refine (crb _ hb4x).mono ?_); rintro e w5 ⟨g5, c5, rfl, hg5, hrow5, hb5⟩; have hb05 := hb4x.trans (hb5.mono hb4x.size); have hblk5 := hblk.later hb5; have x0 := hblk5.cell 0; have x1 := hblk5.cell 1; have x2 := hblk5.cell 2; simp only [List.getElem?_cons_zero, List.getElem?_cons_succ] at x0 x1 x2; have hlt5 : w4.heap.size < w5.heap.size := hblk5.lt; have hx5 : Below w5.heap.size w5 (w5.alloc (.cells #[.int .i64 k, .int .i64 s, .slice (some ⟨g5, 0, none⟩) l c5] 24)) := (Below.refl _ _).alloc (Nat.le_refl _) _; have hb5x := hb05.trans (hx5.mono hb05.size); have csf := sameR k s g4 c4 g5 c5 l L (w5.alloc (.cells #[.int .i64 k, .int .i64 s, .slice (some ⟨g5, 0, none⟩) l c5] 24)) (((hrow4.later hx4).later hb5).later hx5) (hrow5.later hx5) HLL.out HLS.out))
            | (go_at_call 14; ((with_reducible refine csf.mono ?_); clear csf; rintro e w6 ⟨rfl, hb6⟩; have hb06 := hb5x.trans (hb6.mono hb5x.size)))
            | (go_at_call 11; ((with_reducible refine (csM _).mono ?_); rintro e w' ⟨rfl, m5, rfl⟩))
            | (go_at_call 15; ((with_reducible refine (awake_any _).mono ?_); rintro e w7 ⟨rfl, hb7⟩)))
          go_ret
          exact ⟨ret_bool (by first | rfl | (simp only [Bool.and_eq_true, Bool.not_eq_true', decide_eq_false_iff_not]; omega)), HB.out _ ((below_drewN hb06 _).trans (hb7.mono (below_drewN hb06 _).size))⟩
end Go.Proofs.Ytfgbiafoncaagaa.frameWords
/- FrameWords: any frame's words, or that it may not be, and the frame with which any words begin, are as the reference says. No condition. -/
namespace Go.Proofs.Ytfgbiafoncaagaa.frameWords
open Go.ChangeShapes Go.WideShapes Go.ChangeAt Go.RowKit Go.Proofs.Ytfgbiafoncaagaa.frame
open Go.ChangeMaps (open_string shut_string)
set_option linter.unusedVariables false
set_option maxRecDepth 100000 in
theorem lifted (os : Os) (started : os.Started) (H : Type) (enc : TypeId × Value → H) :
    ReturnsInHanded {} Try.checked os 3 .any (Rows.frameWordsSpec.pre6 enc Try.prog Try.f3 Rows.frameWordsRow.domain false) (Rows.frameWordsSpec.post enc Try.prog Try.f3 false true false false) := by
  refine returnsInHanded_of_change_sized (C := Try.checked) own started (by kernel_rfl) Try.func3
    (ChangeSpec.witness6 (enc := enc) (C := Try.checked) false ⟨#[], #[.agg #[.int .i64 0, .int .i64 0, .slice none 0 0], .slice none 0 0], []⟩ 8 (by kernel_rfl) (by kernel_rfl) (by kernel_rfl) (by kernel_rfl)) ?_
  intro W base args ds gs before hval0 hW hcnd hsz0 _
  have hsz : (DataW.weightsEach Try.prog (Try.f3.params.toList ++ Rows.frameWordsSpec.plain.varTypes Try.prog) (ds ++ gs)).all (· ≤ reachBytes) = true := hsz0
  clear hsz0
  have hval : ∀ (j : Nat) t v, Try.f3.params[j]? = some t → args[j]? = some v → Value.okWide Try.prog W .any base t v := hval0
  have hW' := hW
  obtain ⟨p, q, hA0, hV, rfl, hfz, hnd⟩ := hW
  have hA : DataW.TrodAll enc Try.prog W 0 (fun _ => true) true Try.f3.params.toList args.toList ds p := hA0
  rw [Try.params3] at hA hval hsz
  obtain ⟨v0, vs0, d0, ds0, p0, q0, hargs, rfl, rfl, h0, r0⟩ := trodAll_cons hA
  obtain ⟨v1, vs1, d1, ds1, p1, q1, rfl, rfl, rfl, h1, r1⟩ := trodAll_cons r0
  obtain ⟨rfl, rfl, rfl⟩ := trodAll_nil r1
  obtain rfl : args = #[v0, v1] := by cases args; simp_all
  obtain ⟨rfl, rfl⟩ := trodVars_none hV
  have k0 := h0
  have lt0 : ∀ x ∈ p0, x.block < W.heap.size := by obtain ⟨m, hm⟩ := k0; exact DataW.trod_lt m _ _ _ hm
  obtain ⟨pc0, fp0, rfl⟩ := open_FArg_arg Try.underlying24 (by kernel_rfl) (by kernel_rfl) (by kernel_rfl) (by kernel_rfl) Try.underlying22 Try.underlying40 (by kernel_rfl) (hval 0 24 v0 rfl rfl) h0
  obtain ⟨a1, len1, cap1, rfl⟩ := okWide_slice Try.underlying22 (hval 1 22 v1 rfl rfl)
  have k1 := h1
  have lt1 : ∀ x ∈ p1, x.block < W.heap.size := by obtain ⟨m, hm⟩ := k1; exact DataW.trod_lt m _ _ _ hm
  obtain ⟨xs1, rd1, xb1, lc1, rs1⟩ := open_uints (j := 1) Try.underlying22 Try.underlying40 (by kernel_rfl) (by kernel_rfl : Try.prog.bytesOf 40 = 4) wf_u32 h1 hsz rfl rfl
  clear hA0 hval0
  refine (walk pc0 a1 len1 cap1 xs1 W fp0 rd1 xb1 lc1 rs1).mono fun e W' ⟨he, bel⟩ => ?_
  subst he
  exact ⟨_, rfl, _, _, _, [], _, [], hW', trodAll_mk1 (shut_bool Try.underlying4 _), (trodAll_cons_mk (Below.trod laidOut (by kernel_rfl) (of_decide_eq_true (by kernel_rfl)) k0 bel lt0) (trodAll_cons_mk (Below.trod laidOut (by kernel_rfl) (of_decide_eq_true (by kernel_rfl)) k1 bel lt1) trodAll_mk0)), rfl, bel.frame _, fun h => by cases h⟩

theorem holds : Rows.FrameWordsSaid :=
  OpenClaim.holds_of_wide 3 Try.f3 rfl rfl rfl rfl rfl rfl rfl ⟨rfl, rfl, rfl, rfl, rfl⟩ rfl rfl rfl rfl rfl (by kernel_rfl) Try.func3 (by kernel_rfl)
    (of_decide_eq_true (by kernel_rfl)) (by unfold Func.isWrapper; first | (rw [if_pos (by decide +kernel)]; kernel_rfl) | (rw [if_neg (by decide +kernel)]; exact ⟨rfl, rfl⟩))
    (fun os started H enc _ => lifted os started H enc)
#print axioms holds
end Go.Proofs.Ytfgbiafoncaagaa.frameWords
