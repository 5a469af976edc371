/- Lemmas of the claim HJournalKeeps. Each says its own conditions. -/
import Derived.Test.YtphifanacehppaaGreatClHJournalKeepsJ
import Derived.Test.YtphifanacehppaaGreatClHJournalKeepsE
import Derived.Test.YtphifanacehppaaGreatCmC
import Derived.Test.YtphifanacehppaaGreatClHJournalKeepsF
import Derived.Test.YtphifanacehppaaGreatClHJournalKeepsB
import Derived.Test.YtphifanacehppaaGreatClHJournalKeepsH
import Derived.Conc.WalkWords
import Derived.Handy
/- Contract of the reference's Read of layer 10 (frame), for every slice of words. No condition. -/
namespace Go.Proofs.YtphifanacehppaaGreat.frame
open Go Go.RowKit Go.Proofs.YtphifanacehppaaGreat.word Go.Proofs.YtphifanacehppaaGreat.zeros
set_option linter.unusedVariables false

theorem refRead_few (a : Option Addr) (len cap : Nat) (xs : List Nat) (w : World) (hr : Reads .u32 w a len xs) (h : len < 4) :
    Calls Tryz.prog 83 #[.slice a len cap] w (ReadsAs (readN xs) w) := by
  rw [readN_few xs (by have := hr.1; omega)]
  unfold ReadsAs
  have hw0 : Below w.heap.size w (w.alloc (.cells #[.int .i64 0, .int .i64 0, .slice none 0 0] 118)) := (Below.refl _ _).alloc (Nat.le_refl _) _
  have HW0 := hid hw0
  have i1 : (len : Int) < 4 := by omega
  clear hw0 hr h
  go_enter Tryz.func83, Tryz.ntmps83
  go_wp2
  go_returns
  exact ⟨rfl, HW0.out⟩
theorem refRead_not (b off len cap n : Nat) (xs : List Nat) (w : World) (hr : Reads .u32 w (some ⟨b, off, none⟩) len xs) (hx : ∀ x ∈ xs, x < 4294967296) (h : 4 ≤ len) (hn : (toldN (xs.getD 0 0)).1 = n) (hnot : n < 1 ∨ 56 < n ∨ len < n + 3) :
    Calls Tryz.prog 83 #[.slice (some ⟨b, off, none⟩) len cap] w (ReadsAs (readN xs) w) := by
  rw [readN_not xs (by have := hr.1; omega)]
  unfold ReadsAs
  have hw0 : Below w.heap.size w (w.alloc (.cells #[.int .i64 0, .int .i64 0, .slice none 0 0] 118)) := (Below.refl _ _).alloc (Nat.le_refl _) _
  have ct := fun w' => refTold_any (xs.getD 0 0) (getD32_lt xs hx 0) w'
  unfold toldV at ct
  rw [hn] at ct
  obtain ⟨b', off', he, hbs, hc⟩ := (hr.below hw0).at (show 0 < len by omega)
  cases he
  have c1 : (w.alloc (.cells #[.int .i64 0, .int .i64 0, .slice none 0 0] 118)).cell? ⟨b, off, none⟩ = some (.int .u32 ((xs.getD 0 0 : Nat) : Int)) := hc 0 (by omega)
  have HW0 := hid hw0
  have i1 : ¬ (len : Int) < 4 := by omega
  have i2 : (0 : Int) < len := by omega
  clear hw0 hr h hc hn hx
  generalize (toldN (xs.getD 0 0)).2 = tb at *
  generalize xs.getD 0 0 = x0 at *
  rcases hnot with h1 | h1 | h1
  · have j1 : (n : Int) < 1 := by omega
    go_enter Tryz.func83, Tryz.ntmps83
    go_wp2_with (go_at_call 106; ((with_reducible refine (ct _).mono ?_); rintro e w' ⟨rfl, m1, rfl⟩))
    go_returns
    exact ⟨rfl, (((below_drewN HW0.out m1).setCell (p := ⟨w.heap.size, 0, none⟩) (Nat.le_refl _) _).setCell (p := ⟨w.heap.size, 1, none⟩) (Nat.le_refl _) _).setCell (p := ⟨w.heap.size, 2, none⟩) (Nat.le_refl _) _⟩
  · have j1 : ¬ (n : Int) < 1 := by omega
    have k1 : decide ((n : Int) < 1) = false := decide_eq_false (by omega)
    have j2 : (56 : Int) < n := by omega
    have k2 : decide ((56 : Int) < n) = true := decide_eq_true (by omega)
    go_enter Tryz.func83, Tryz.ntmps83
    go_wp2_with (go_at_call 106; ((with_reducible refine (ct _).mono ?_); rintro e w' ⟨rfl, m1, rfl⟩))
    go_returns
    exact ⟨rfl, (((below_drewN HW0.out m1).setCell (p := ⟨w.heap.size, 0, none⟩) (Nat.le_refl _) _).setCell (p := ⟨w.heap.size, 1, none⟩) (Nat.le_refl _) _).setCell (p := ⟨w.heap.size, 2, none⟩) (Nat.le_refl _) _⟩
  · by_cases h2 : n < 1
    · omega
    · by_cases h3 : 56 < n
      · have j1 : ¬ (n : Int) < 1 := by omega
        have k1 : decide ((n : Int) < 1) = false := decide_eq_false (by omega)
        have j2 : (56 : Int) < n := by omega
        have k2 : decide ((56 : Int) < n) = true := decide_eq_true (by omega)
        go_enter Tryz.func83, Tryz.ntmps83
        go_wp2_with (go_at_call 106; ((with_reducible refine (ct _).mono ?_); rintro e w' ⟨rfl, m1, rfl⟩))
        go_returns
        exact ⟨rfl, (((below_drewN HW0.out m1).setCell (p := ⟨w.heap.size, 0, none⟩) (Nat.le_refl _) _).setCell (p := ⟨w.heap.size, 1, none⟩) (Nat.le_refl _) _).setCell (p := ⟨w.heap.size, 2, none⟩) (Nat.le_refl _) _⟩
      · have j1 : ¬ (n : Int) < 1 := by omega
        have k1 : decide ((n : Int) < 1) = false := decide_eq_false (by omega)
        have j2 : ¬ (56 : Int) < n := by omega
        have k2 : decide ((56 : Int) < n) = false := decide_eq_false (by omega)
        have j3 : (len : Int) < (n : Int) + 3 := by omega
        have k3 : decide ((len : Int) < (n : Int) + 3) = true := decide_eq_true (by omega)
        go_enter Tryz.func83, Tryz.ntmps83
        go_wp2_with (go_at_call 106; ((with_reducible refine (ct _).mono ?_); rintro e w' ⟨rfl, m1, rfl⟩))
        go_returns
        exact ⟨rfl, (((below_drewN HW0.out m1).setCell (p := ⟨w.heap.size, 0, none⟩) (Nat.le_refl _) _).setCell (p := ⟨w.heap.size, 1, none⟩) (Nat.le_refl _) _).setCell (p := ⟨w.heap.size, 2, none⟩) (Nat.le_refl _) _⟩
set_option maxRecDepth 20000 in
set_option maxHeartbeats 3200000 in
theorem refRead_in (b off len cap n : Nat) (xs : List Nat) (w : World) (hr : Reads .u32 w (some ⟨b, off, none⟩) len xs) (hx : ∀ x ∈ xs, x < 4294967296) (hlc : len ≤ cap) (hn : (toldN (xs.getD 0 0)).1 = n) (n1 : 1 ≤ n) (n2 : n ≤ 56) (n3 : n + 3 ≤ len) :
    Calls Tryz.prog 83 #[.slice (some ⟨b, off, none⟩) len cap] w (ReadsAs (readN xs) w) := by
  have hlen := hr.1
  have hw0 : Below w.heap.size w (w.alloc (.cells #[.int .i64 0, .int .i64 0, .slice none 0 0] 118)) := (Below.refl _ _).alloc (Nat.le_refl _) _
  have ct := fun w' => refTold_any (xs.getD 0 0) (getD32_lt xs hx 0) w'
  unfold toldV at ct
  rw [hn] at ct
  obtain ⟨b', off', he, hbs, hc⟩ := hr.at (show 0 < len by omega)
  cases he
  have hr0 := hr.below hw0
  have c0 : (w.alloc (.cells #[.int .i64 0, .int .i64 0, .slice none 0 0] 118)).cell? ⟨b, off, none⟩ = some (.int .u32 ((xs.getD 0 0 : Nat) : Int)) := (hw0.cell (p := ⟨b, off, none⟩) hbs).trans (hc 0 (by omega))
  have hB0 : Block (w.alloc (.cells #[.int .i64 0, .int .i64 0, .slice none 0 0] 118)) w.heap.size 118 [.int .i64 0, .int .i64 0, .slice none 0 0] := Block.new w _ _
  have hc1 : (w.alloc (.cells #[.int .i64 0, .int .i64 0, .slice none 0 0] 118)).cell? ⟨b, off + 1, none⟩ = some (.int .u32 ((xs.getD 1 0 : Nat) : Int)) := (hw0.cell (p := ⟨b, off + 1, none⟩) hbs).trans (hc 1 (by omega))
  have hL := readsDrop (readsTake hr0 (n + 2) (by omega)) 2 (by omega)
  rw [show n + 2 - 2 = n by omega] at hL
  have hP := readsTake hr0 (n + 3) (by omega)
  obtain ⟨x1, hx1⟩ : ∃ x, x = xs.getD 1 0 := ⟨_, rfl⟩
  obtain ⟨L, hLd⟩ : ∃ L, L = (xs.take (n + 2)).drop 2 := ⟨_, rfl⟩
  have hre := readN_eq xs n hn n1 n2 (by omega) (x1 / 1073741824) (x1 % 1073741824) L (by rw [hx1]) (by rw [hx1]) hLd
  generalize readN xs = r at hre ⊢
  have hLL : ∀ x ∈ L, x < 4294967296 := fun x h => hx x (by rw [hLd] at h; exact List.mem_of_mem_take (List.mem_of_mem_drop h))
  have hPP : ∀ x ∈ xs.take (n + 3), x < 4294967296 := fun x h => hx x (List.mem_of_mem_take h)
  have hx1l : x1 < 4294967296 := by rw [hx1]; exact getD32_lt xs hx 1
  rw [← hx1] at hc1
  rw [← hLd] at hL
  generalize hps : xs.take (n + 3) = ps at *
  have HX1 := hid hx1l
  have HC1 := hid hc1
  have HLT : Hid (b < (w.alloc (.cells #[.int .i64 0, .int .i64 0, .slice none 0 0] 118)).heap.size) := hid (by simp; omega)
  have HI : Hid (1 < len) := hid (by omega)
  have HN1 : Hid (0 < n) := hid (by omega)
  have HN2 := hid n2
  have HCAP : Hid (2 + n ≤ cap) := hid (by omega)
  have HCAP3 : Hid (n + 3 ≤ cap) := hid (by omega)
  have HRE := hid hre
  have HB0 := hid hB0
  have HW0 := hid hw0
  have HL := hid hL
  have HP := hid hP
  have HLL0 := hid hLL
  have HPP := hid hPP
  have i1 : ¬ (len : Int) < 4 := by omega
  have i2 : (0 : Int) < len := by omega
  have j1 : ¬ (n : Int) < 1 := by omega
  have k1 : decide ((n : Int) < 1) = false := decide_eq_false (by omega)
  have j2 : ¬ (56 : Int) < n := by omega
  have k2 : decide ((56 : Int) < n) = false := decide_eq_false (by omega)
  have j3 : ¬ (len : Int) < (n : Int) + 3 := by omega
  have k3 : decide ((len : Int) < (n : Int) + 3) = false := decide_eq_false (by omega)
  have HLL : Hid ((Tryz.prog.info? 118).map (·.size) = some 3) := hid (by kernel_rfl)
  clear hr hx hlc hn n3 hlen hw0 hc hr0 hB0 hc1 hL hP hx1 hLd hre hLL hPP hx1l hps n1 n2
  generalize (toldN (xs.getD 0 0)).2 = tb at *
  generalize xs.getD 0 0 = x0 at *
  go_enter Tryz.func83, Tryz.ntmps83
  go_wp2_with (go_at_call 106; ((with_reducible refine (ct _).mono ?_); rintro e w' ⟨rfl, m1, rfl⟩))
  refine plan.region (by kernel_rfl) ?_
  refine plan.Rest.first 0 _ (.slice (some ⟨b, off, none⟩) len cap) rfl (by kernel_rfl) (by kernel_rfl) (by kernel_rfl) (by kernel_rfl) (fun w' hb' => (by kernel_rfl)) ?_
  refine plan.Rest.first 1 _ (.pointer (some ⟨b, off + 1, none⟩)) rfl (by kernel_rfl) (by kernel_rfl) (by kernel_rfl) (by kernel_rfl) (fun w' hb' => exec_index (b := b) (off := off) (len := len) (cap := cap) (i := 1) rfl (by kernel_rfl) (by kernel_rfl) HI.out) ?_
  refine plan.Rest.first 2 _ (.int .u32 (x1 : Int)) rfl (by kernel_rfl) (by kernel_rfl) (by kernel_rfl) (by kernel_rfl) (fun w' hb' => exec_word (ad := ⟨b, off + 1, none⟩) rfl (by kernel_rfl) ((hb'.cell (p := ⟨b, off + 1, none⟩) HLT.out).trans HC1.out)) ?_
  refine plan.Rest.first 3 _ (.int .u32 ((x1 : Int) / 1073741824)) rfl (by kernel_rfl) (by kernel_rfl) (by kernel_rfl) (by kernel_rfl) (fun w' hb' => exec_quo (n := x1) rfl (by kernel_rfl) (by kernel_rfl) HX1.out) ?_
  refine plan.Rest.first 4 _ (.int .i64 ((x1 : Int) / 1073741824)) rfl (by kernel_rfl) (by kernel_rfl) (by kernel_rfl) (by kernel_rfl) (fun w' hb' => exec_wide (n := (x1 : Int) / 1073741824) rfl (by kernel_rfl) (by have := HX1.out; omega) (by have := HX1.out; omega)) ?_
  refine plan.Rest.first 5 _ (.slice (some ⟨b, off, none⟩) len cap) rfl (by kernel_rfl) (by kernel_rfl) (by kernel_rfl) (by kernel_rfl) (fun w' hb' => (by kernel_rfl)) ?_
  refine plan.Rest.first 6 _ (.pointer (some ⟨b, off + 1, none⟩)) rfl (by kernel_rfl) (by kernel_rfl) (by kernel_rfl) (by kernel_rfl) (fun w' hb' => exec_index (b := b) (off := off) (len := len) (cap := cap) (i := 1) rfl (by kernel_rfl) (by kernel_rfl) HI.out) ?_
  refine plan.Rest.first 7 _ (.int .u32 (x1 : Int)) rfl (by kernel_rfl) (by kernel_rfl) (by kernel_rfl) (by kernel_rfl) (fun w' hb' => exec_word (ad := ⟨b, off + 1, none⟩) rfl (by kernel_rfl) ((hb'.cell (p := ⟨b, off + 1, none⟩) HLT.out).trans HC1.out)) ?_
  refine plan.Rest.first 8 _ (.int .u32 ((x1 : Int) % 1073741824)) rfl (by kernel_rfl) (by kernel_rfl) (by kernel_rfl) (by kernel_rfl) (fun w' hb' => exec_rem (n := x1) rfl (by kernel_rfl) (by kernel_rfl) HX1.out) ?_
  refine plan.Rest.first 9 _ (.int .i64 ((x1 : Int) % 1073741824)) rfl (by kernel_rfl) (by kernel_rfl) (by kernel_rfl) (by kernel_rfl) (fun w' hb' => exec_wide (n := (x1 : Int) % 1073741824) rfl (by kernel_rfl) (by have := HX1.out; omega) (by have := HX1.out; omega)) ?_
  refine plan.Rest.first 10 _ (.slice (some ⟨b, off, none⟩) len cap) rfl (by kernel_rfl) (by kernel_rfl) (by kernel_rfl) (by kernel_rfl) (fun w' hb' => (by kernel_rfl)) ?_
  refine plan.Rest.first 11 _ (.int .i64 (n : Int)) rfl (by kernel_rfl) (by kernel_rfl) (by kernel_rfl) (by kernel_rfl) (fun w' hb' => (by kernel_rfl)) ?_
  refine plan.Rest.first 12 _ (.int .i64 (2 + (n : Int))) rfl (by kernel_rfl) (by kernel_rfl) (by kernel_rfl) (by kernel_rfl) (fun w' hb' => exec_add2 (n := n) rfl (by kernel_rfl) (by kernel_rfl) HN2.out) ?_
  refine plan.Rest.first 13 _ (.slice (some ⟨b, off + 2, none⟩) n (cap - 2)) rfl (by kernel_rfl) (by kernel_rfl) (by kernel_rfl) (by kernel_rfl) (fun w' hb' => exec_cut (b := b) (off := off) (len := len) (cap := cap) (n := n) rfl (by kernel_rfl) (by kernel_rfl) (by kernel_rfl) HCAP.out HN1.out) ?_
  refine plan.Rest.to3 47 7 48 1 (fun p q r => #[true, true, true, true, true, true, true, true, true, true, true, true, true, true, p, r, q, false]) (by kernel_rfl) (by kernel_rfl) (by kernel_rfl) ?_
  refine plan.two _ _ 14 16 15 47 7 48 1 (by decide) (by decide) (by decide) _ _ _ (fun p q r => #[true, true, true, true, true, true, true, true, true, true, true, true, true, true, p, r, q, false])
    rfl rfl rfl rfl rfl rfl rfl rfl rfl (fun _ _ => rfl) (fun _ _ => rfl) (fun _ _ => rfl) (by kernel_rfl) (by kernel_rfl) (by kernel_rfl) (by kernel_rfl) (by kernel_rfl)
    (fun g v w' => ∃ c, v = .slice (some ⟨g, 0, none⟩) n c ∧ Row w' 43 .u32 g c L) (fun v => .agg #[.int .i64 ((x1 : Int) / 1073741824), .int .i64 ((x1 : Int) % 1073741824), v]) 118 [.int .i64 0, .int .i64 0, .slice none 0 0]
    (fun g v w1 w2 h hb => h.imp fun c h => ⟨h.1, h.2.later hb⟩) (fun g v w1 h => by obtain ⟨c, _, h⟩ := h; exact h.lt)
    ?rA (fun u v c w' => by kernel_rfl) ?rC ?rest undef undef undef
  case rA =>
    intro u v c w' hb'
    exact exec_row (ad := ⟨b, off + 2, none⟩) (n := n) (c := cap - 2) (L := L) rfl (by kernel_rfl) (by kernel_rfl) ((HL.out.drewN (m1 + 1)).below hb') HN1.out (by have := HN2.out; omega)
  case rC =>
    rintro g u v c w' ⟨c', rfl, _⟩
    kernel_rfl
  case rest =>
    rintro g g' x w' hg hg' hne ⟨c, rfl, hR⟩ hB hb
    refine plan.store _ 17 _ 118 (.tmp 7) (.tmp 48) g' 118 [.int .i64 0, .int .i64 0, .slice none 0 0] #[.int .i64 ((x1 : Int) / 1073741824), .int .i64 ((x1 : Int) % 1073741824), .slice (some ⟨g, 0, none⟩) n c] rfl rfl rfl rfl (by kernel_rfl) (by kernel_rfl) (by kernel_rfl) hB rfl (by kernel_rfl) (by simp [Value.oneCell']) hb hg' (fun V2 hb2 hB2 hk2 => ?_)
    refine ⟨by kernel_rfl, NoPanic.normal ?_⟩
    have hgw : w.heap.size < g := by have h := hg; simp at h; omega
    have hgw' : w.heap.size < g' := by have h := hg'; simp at h; omega
    have hrow : Row V2.drew 43 .u32 g c L := by
      obtain ⟨pad, h1, h2⟩ := hR
      exact ⟨pad, (hk2 g _ _ hne h1).drewN 1, h2⟩
    have hblk : Block V2.drew g' 118 [.int .i64 ((x1 : Int) / 1073741824), .int .i64 ((x1 : Int) % 1073741824), .slice (some ⟨g, 0, none⟩) n c] := hB2.drewN 1
    have hres : Block V2.drew w.heap.size 118 [.int .i64 0, .int .i64 0, .slice none 0 0] := (((HB0.out.drewN (m1 + 1)).later hb2)).drewN 1
    have hb : Below w.heap.size w V2.drew := below_drewN ((below_drewN HW0.out (m1 + 1)).trans (hb2.mono (by simp))) 1
    have hrd : Reads .u32 V2.drew (some ⟨b, off, none⟩) (n + 3) ps := ((HP.out.drewN (m1 + 1)).below hb2).drewN 1
    have e5 : ((x1 / 1073741824 : Nat) : Int) = (x1 : Int) / 1073741824 := by omega
    have e6 : ((x1 % 1073741824 : Nat) : Int) = (x1 : Int) % 1073741824 := by omega
    have e3 : ((n + 3 : Nat) : Int) = (n : Int) + 3 := by omega
    have hLn : L.length = n := HL.out.1
    have hwl := words_length (x1 / 1073741824) (x1 % 1073741824) L
    have rgt0 : ∀ W, Calls Tryz.prog 107 #[.agg #[.int .i64 ((x1 : Int) / 1073741824), .int .i64 ((x1 : Int) % 1073741824), .slice (some ⟨g, 0, none⟩) n c]] W (Gives (.bool (okB ((x1 / 1073741824 : Nat) : Int) ((x1 % 1073741824 : Nat) : Int) n)) W) := fun W => by
      rw [e5, e6]; exact refRight_any _ _ _ _ _ W
    have lay0 : okB ((x1 / 1073741824 : Nat) : Int) ((x1 % 1073741824 : Nat) : Int) n = true → ∀ W, Row W 43 .u32 g c L → Calls Tryz.prog 63 #[.agg #[.int .i64 ((x1 : Int) / 1073741824), .int .i64 ((x1 : Int) % 1073741824), .slice (some ⟨g, 0, none⟩) n c]] W fun e w' => ∃ gl cl, e = .returned (.slice (some ⟨gl, 0, none⟩) (n + 3) cl) ∧ W.heap.size ≤ gl ∧ Row w' 43 .u32 gl cl (words (x1 / 1073741824) (x1 % 1073741824) L) ∧ Below W.heap.size W w' := fun hok W h => by
      have hr := h.reads
      rw [hLn] at hr
      have := refLay_yes (x1 / 1073741824) (x1 % 1073741824) (some ⟨g, 0, none⟩) n c L W hr HLL0.out hok
      rw [e5, e6] at this
      exact this
    have sam0 : ∀ gl cl W, Row W 43 .u32 gl cl (words (x1 / 1073741824) (x1 % 1073741824) L) → Reads .u32 W (some ⟨b, off, none⟩) (n + 3) ps → Calls Tryz.prog 18 #[.slice (some ⟨gl, 0, none⟩) (n + 3) cl, .slice (some ⟨b, off, none⟩) (n + 3) cap] W (Quiet (.bool (decide (words (x1 / 1073741824) (x1 % 1073741824) L = ps))) W) := fun gl cl W h1 h2 => by
      have hr := h1.reads
      rw [hwl, hLn] at hr
      exact sameB_any _ _ (n + 3) cl cap _ ps W hr h2 (by have := HN2.out; omega)
    have HGW := hid hgw
    have HLEN := hid hLn
    clear hR hB hb2 hB2 hk2 hg hg' hne hgw hgw' hwl hLn
    simp only [plan.at3]
    walk_nrm
    go_wp2
    refine plan.region (by kernel_rfl) ?_
    by_cases hok : okB ((x1 / 1073741824 : Nat) : Int) ((x1 % 1073741824 : Nat) : Int) n = true
    · have rgt := rgt0
      rw [hok] at rgt
      have lay := lay0 hok
      clear rgt0 lay0
      by_cases hsm : words (x1 / 1073741824) (x1 % 1073741824) L = ps
      · have hre := HRE.out
        rw [if_pos ⟨hok, hsm⟩] at hre
        subst hre
        have sam := sam0
        rw [decide_eq_true hsm] at sam
        clear sam0 hok hsm
        unfold ReadsAs
        refine plan.Rest.first 0 _ (.agg #[.int .i64 ((x1 : Int) / 1073741824), .int .i64 ((x1 : Int) % 1073741824), .slice (some ⟨g, 0, none⟩) n c]) rfl (by kernel_rfl) (by kernel_rfl) (by kernel_rfl) (by kernel_rfl) (fun w' hb' => plan.exec_load rfl (by kernel_rfl) (hblk.later hb').whole Tryz.underlying118 rfl HLL.out) ?_
        refine plan.Rest.call 1 _ 107 #[.agg #[.int .i64 ((x1 : Int) / 1073741824), .int .i64 ((x1 : Int) % 1073741824), .slice (some ⟨g, 0, none⟩) n c]] rfl (by kernel_rfl) (by kernel_rfl) (by kernel_rfl) ((rgt V2.drew).mono ?_)
        rintro e W1 ⟨rfl, hn⟩
        have hb := hb.trans (hn.mono hb.size)
        have hblk := hblk.later hn
        have hrow := hrow.later hn
        have hrd := hrd.below hn
        have hres := hres.later hn
        refine ⟨_, rfl, hn, ?_⟩
        refine plan.Rest.first 2 _ (.bool false) rfl (by kernel_rfl) (by kernel_rfl) (by kernel_rfl) (by kernel_rfl) (fun w' hb' => (by kernel_rfl)) ?_
        refine plan.Rest.first 3 _ (.bool false) rfl (by kernel_rfl) (by kernel_rfl) (by kernel_rfl) (by kernel_rfl) (fun w' hb' => (by kernel_rfl)) ?_
        refine plan.Rest.first 4 _ (.agg #[.int .i64 ((x1 : Int) / 1073741824), .int .i64 ((x1 : Int) % 1073741824), .slice (some ⟨g, 0, none⟩) n c]) rfl (by kernel_rfl) (by kernel_rfl) (by kernel_rfl) (by kernel_rfl) (fun w' hb' => plan.exec_load rfl (by kernel_rfl) (hblk.later hb').whole Tryz.underlying118 rfl HLL.out) ?_
        refine plan.Rest.first 6 _ (.slice (some ⟨b, off, none⟩) len cap) rfl (by kernel_rfl) (by kernel_rfl) (by kernel_rfl) (by kernel_rfl) (fun w' hb' => (by kernel_rfl)) ?_
        refine plan.Rest.first 7 _ (.int .i64 (n : Int)) rfl (by kernel_rfl) (by kernel_rfl) (by kernel_rfl) (by kernel_rfl) (fun w' hb' => (by kernel_rfl)) ?_
        refine plan.Rest.first 8 _ (.int .i64 ((n : Int) + 3)) rfl (by kernel_rfl) (by kernel_rfl) (by kernel_rfl) (by kernel_rfl) (fun w' hb' => exec_add3 (n := n) rfl (by kernel_rfl) (by kernel_rfl) HN2.out) ?_
        refine plan.Rest.first 9 _ (.slice (some ⟨b, off, none⟩) (n + 3) cap) rfl (by kernel_rfl) (by kernel_rfl) (by kernel_rfl) (by kernel_rfl) (fun w' hb' => exec_pre (b := b) (off := off) (len := len) (cap := cap) (n := n) rfl (by kernel_rfl) (by kernel_rfl) HCAP3.out) ?_
        refine plan.Rest.call 5 _ 63 #[.agg #[.int .i64 ((x1 : Int) / 1073741824), .int .i64 ((x1 : Int) % 1073741824), .slice (some ⟨g, 0, none⟩) n c]] rfl (by kernel_rfl) (by kernel_rfl) (by kernel_rfl) ((lay W1 hrow).mono ?_)
        rintro e W2 ⟨gl, cl, rfl, hgl, hrl, hn⟩
        have hb := hb.trans (hn.mono hb.size)
        have hblk := hblk.later hn
        have hrow := hrow.later hn
        have hrd := hrd.below hn
        have hres := hres.later hn
        refine ⟨_, rfl, hn, ?_⟩
        refine plan.Rest.call 10 _ 18 #[.slice (some ⟨gl, 0, none⟩) (n + 3) cl, .slice (some ⟨b, off, none⟩) (n + 3) cap] rfl (by kernel_rfl) (by kernel_rfl) (by kernel_rfl) ((sam gl cl W2 hrl hrd).mono ?_)
        rintro e W3 ⟨rfl, m9, hm9⟩
        have hn : Below W2.heap.size W2 W3 := by rw [hm9]; exact below_drewN (Below.refl _ _) _
        clear hm9
        have hb := hb.trans (hn.mono hb.size)
        have hblk := hblk.later hn
        have hrow := hrow.later hn
        have hrd := hrd.below hn
        have hres := hres.later hn
        refine ⟨_, rfl, hn, ?_⟩
        refine plan.Rest.first 11 _ (.bool false) rfl (by kernel_rfl) (by kernel_rfl) (by kernel_rfl) (by kernel_rfl) (fun w' hb' => (by kernel_rfl)) ?_
        refine plan.Rest.first 12 _ (.bool false) rfl (by kernel_rfl) (by kernel_rfl) (by kernel_rfl) (by kernel_rfl) (fun w' hb' => (by kernel_rfl)) ?_
        refine plan.Rest.done (by kernel_rfl) ?_
        have k0 : (W3).cell? ⟨w.heap.size, 0, none⟩ = some (.int .i64 0) := hres.cell 0
        have k1 : (W3).cell? ⟨w.heap.size, 1, none⟩ = some (.int .i64 0) := hres.cell 1
        have k2 : (W3).cell? ⟨w.heap.size, 2, none⟩ = some (.slice none 0 0) := hres.cell 2
        have f0 := hres.frozen 0
        have f1 := hres.frozen 1
        have f2 := hres.frozen 2
        have hB5 := hres.setCell 0 (.int .i64 ((x1 : Int) / 1073741824))
        have s0 : ((W3).setCell ⟨w.heap.size, 0, none⟩ (.int .i64 ((x1 : Int) / 1073741824))).cell? ⟨w.heap.size, 0, none⟩ = some (.int .i64 ((x1 : Int) / 1073741824)) := hB5.cell 0
        have hB6 := hB5.setCell 1 (.int .i64 ((x1 : Int) % 1073741824))
        have s1 : (((W3).setCell ⟨w.heap.size, 0, none⟩ (.int .i64 ((x1 : Int) / 1073741824))).setCell ⟨w.heap.size, 1, none⟩ (.int .i64 ((x1 : Int) % 1073741824))).cell? ⟨w.heap.size, 1, none⟩ = some (.int .i64 ((x1 : Int) % 1073741824)) := hB6.cell 1
        have hB7 := hB6.setCell 2 (.slice (some ⟨g, 0, none⟩) n c)
        have s2 : ((((W3).setCell ⟨w.heap.size, 0, none⟩ (.int .i64 ((x1 : Int) / 1073741824))).setCell ⟨w.heap.size, 1, none⟩ (.int .i64 ((x1 : Int) % 1073741824))).setCell ⟨w.heap.size, 2, none⟩ (.slice (some ⟨g, 0, none⟩) n c)).cell? ⟨w.heap.size, 2, none⟩ = some (.slice (some ⟨g, 0, none⟩) n c) := hB7.cell 2
        have HBF := hid hb
        have HRF := hid hrow
        have q0 : W3.cell? ⟨g', 0, none⟩ = some (.int .i64 ((x1 : Int) / 1073741824)) := hblk.cell 0
        have q1 : W3.cell? ⟨g', 1, none⟩ = some (.int .i64 ((x1 : Int) % 1073741824)) := hblk.cell 1
        have q2 : W3.cell? ⟨g', 2, none⟩ = some (.slice (some ⟨g, 0, none⟩) n c) := hblk.cell 2
        clear hb hblk hrow hrd hres hB5 hB6 hB7
        walk_nrm
        go_wp2
        refine bodyPost_ret (by simp [results, Tryz.results83, go_sem, s0, s1, s2]; try rfl) rfl ?_
        have hgw : w.heap.size < g := HGW.out
        refine ⟨g, c, ?_, by omega, ((HRF.out.apart _ _ _ (by omega)).apart _ _ _ (by omega)).apart _ _ _ (by omega), ((HBF.out.setCell (p := ⟨w.heap.size, 0, none⟩) (Nat.le_refl _) _).setCell (p := ⟨w.heap.size, 1, none⟩) (Nat.le_refl _) _).setCell (p := ⟨w.heap.size, 2, none⟩) (Nat.le_refl _) _⟩
        rw [HLEN.out, e5, e6, e3]
      · have hre := HRE.out
        rw [if_neg (fun h => hsm h.2)] at hre
        subst hre
        have sam := sam0
        rw [decide_eq_false hsm] at sam
        clear sam0 hok hsm
        unfold ReadsAs
        refine plan.Rest.first 0 _ (.agg #[.int .i64 ((x1 : Int) / 1073741824), .int .i64 ((x1 : Int) % 1073741824), .slice (some ⟨g, 0, none⟩) n c]) rfl (by kernel_rfl) (by kernel_rfl) (by kernel_rfl) (by kernel_rfl) (fun w' hb' => plan.exec_load rfl (by kernel_rfl) (hblk.later hb').whole Tryz.underlying118 rfl HLL.out) ?_
        refine plan.Rest.call 1 _ 107 #[.agg #[.int .i64 ((x1 : Int) / 1073741824), .int .i64 ((x1 : Int) % 1073741824), .slice (some ⟨g, 0, none⟩) n c]] rfl (by kernel_rfl) (by kernel_rfl) (by kernel_rfl) ((rgt V2.drew).mono ?_)
        rintro e W1 ⟨rfl, hn⟩
        have hb := hb.trans (hn.mono hb.size)
        have hblk := hblk.later hn
        have hrow := hrow.later hn
        have hrd := hrd.below hn
        have hres := hres.later hn
        refine ⟨_, rfl, hn, ?_⟩
        refine plan.Rest.first 2 _ (.bool false) rfl (by kernel_rfl) (by kernel_rfl) (by kernel_rfl) (by kernel_rfl) (fun w' hb' => (by kernel_rfl)) ?_
        refine plan.Rest.first 3 _ (.bool false) rfl (by kernel_rfl) (by kernel_rfl) (by kernel_rfl) (by kernel_rfl) (fun w' hb' => (by kernel_rfl)) ?_
        refine plan.Rest.first 4 _ (.agg #[.int .i64 ((x1 : Int) / 1073741824), .int .i64 ((x1 : Int) % 1073741824), .slice (some ⟨g, 0, none⟩) n c]) rfl (by kernel_rfl) (by kernel_rfl) (by kernel_rfl) (by kernel_rfl) (fun w' hb' => plan.exec_load rfl (by kernel_rfl) (hblk.later hb').whole Tryz.underlying118 rfl HLL.out) ?_
        refine plan.Rest.first 6 _ (.slice (some ⟨b, off, none⟩) len cap) rfl (by kernel_rfl) (by kernel_rfl) (by kernel_rfl) (by kernel_rfl) (fun w' hb' => (by kernel_rfl)) ?_
        refine plan.Rest.first 7 _ (.int .i64 (n : Int)) rfl (by kernel_rfl) (by kernel_rfl) (by kernel_rfl) (by kernel_rfl) (fun w' hb' => (by kernel_rfl)) ?_
        refine plan.Rest.first 8 _ (.int .i64 ((n : Int) + 3)) rfl (by kernel_rfl) (by kernel_rfl) (by kernel_rfl) (by kernel_rfl) (fun w' hb' => exec_add3 (n := n) rfl (by kernel_rfl) (by kernel_rfl) HN2.out) ?_
        refine plan.Rest.first 9 _ (.slice (some ⟨b, off, none⟩) (n + 3) cap) rfl (by kernel_rfl) (by kernel_rfl) (by kernel_rfl) (by kernel_rfl) (fun w' hb' => exec_pre (b := b) (off := off) (len := len) (cap := cap) (n := n) rfl (by kernel_rfl) (by kernel_rfl) HCAP3.out) ?_
        refine plan.Rest.call 5 _ 63 #[.agg #[.int .i64 ((x1 : Int) / 1073741824), .int .i64 ((x1 : Int) % 1073741824), .slice (some ⟨g, 0, none⟩) n c]] rfl (by kernel_rfl) (by kernel_rfl) (by kernel_rfl) ((lay W1 hrow).mono ?_)
        rintro e W2 ⟨gl, cl, rfl, hgl, hrl, hn⟩
        have hb := hb.trans (hn.mono hb.size)
        have hblk := hblk.later hn
        have hrow := hrow.later hn
        have hrd := hrd.below hn
        have hres := hres.later hn
        refine ⟨_, rfl, hn, ?_⟩
        refine plan.Rest.call 10 _ 18 #[.slice (some ⟨gl, 0, none⟩) (n + 3) cl, .slice (some ⟨b, off, none⟩) (n + 3) cap] rfl (by kernel_rfl) (by kernel_rfl) (by kernel_rfl) ((sam gl cl W2 hrl hrd).mono ?_)
        rintro e W3 ⟨rfl, m9, hm9⟩
        have hn : Below W2.heap.size W2 W3 := by rw [hm9]; exact below_drewN (Below.refl _ _) _
        clear hm9
        have hb := hb.trans (hn.mono hb.size)
        have hblk := hblk.later hn
        have hrow := hrow.later hn
        have hrd := hrd.below hn
        have hres := hres.later hn
        refine ⟨_, rfl, hn, ?_⟩
        refine plan.Rest.first 11 _ (.bool true) rfl (by kernel_rfl) (by kernel_rfl) (by kernel_rfl) (by kernel_rfl) (fun w' hb' => (by kernel_rfl)) ?_
        refine plan.Rest.first 12 _ (.bool true) rfl (by kernel_rfl) (by kernel_rfl) (by kernel_rfl) (by kernel_rfl) (fun w' hb' => (by kernel_rfl)) ?_
        refine plan.Rest.done (by kernel_rfl) ?_
        have k0 : (W3).cell? ⟨w.heap.size, 0, none⟩ = some (.int .i64 0) := hres.cell 0
        have k1 : (W3).cell? ⟨w.heap.size, 1, none⟩ = some (.int .i64 0) := hres.cell 1
        have k2 : (W3).cell? ⟨w.heap.size, 2, none⟩ = some (.slice none 0 0) := hres.cell 2
        have f0 := hres.frozen 0
        have f1 := hres.frozen 1
        have f2 := hres.frozen 2
        have hB5 := hres.setCell 0 (.int .i64 0)
        have s0 : ((W3).setCell ⟨w.heap.size, 0, none⟩ (.int .i64 0)).cell? ⟨w.heap.size, 0, none⟩ = some (.int .i64 0) := hB5.cell 0
        have hB6 := hB5.setCell 1 (.int .i64 0)
        have s1 : (((W3).setCell ⟨w.heap.size, 0, none⟩ (.int .i64 0)).setCell ⟨w.heap.size, 1, none⟩ (.int .i64 0)).cell? ⟨w.heap.size, 1, none⟩ = some (.int .i64 0) := hB6.cell 1
        have hB7 := hB6.setCell 2 (.slice none 0 0)
        have s2 : ((((W3).setCell ⟨w.heap.size, 0, none⟩ (.int .i64 0)).setCell ⟨w.heap.size, 1, none⟩ (.int .i64 0)).setCell ⟨w.heap.size, 2, none⟩ (.slice none 0 0)).cell? ⟨w.heap.size, 2, none⟩ = some (.slice none 0 0) := hB7.cell 2
        have HBF := hid hb
        have HRF := hid hrow
        clear hb hblk hrow hrd hres hB5 hB6 hB7
        walk_nrm
        go_wp2
        refine bodyPost_ret (by simp [results, Tryz.results83, go_sem, s0, s1, s2]; try rfl) rfl ?_
        exact ⟨rfl, ((HBF.out.setCell (p := ⟨w.heap.size, 0, none⟩) (Nat.le_refl _) _).setCell (p := ⟨w.heap.size, 1, none⟩) (Nat.le_refl _) _).setCell (p := ⟨w.heap.size, 2, none⟩) (Nat.le_refl _) _⟩
    · have hre := HRE.out
      rw [if_neg (fun h => hok h.1)] at hre
      subst hre
      rw [Bool.not_eq_true] at hok
      have rgt := rgt0
      rw [hok] at rgt
      clear rgt0 lay0 sam0 hok
      unfold ReadsAs
      refine plan.Rest.first 0 _ (.agg #[.int .i64 ((x1 : Int) / 1073741824), .int .i64 ((x1 : Int) % 1073741824), .slice (some ⟨g, 0, none⟩) n c]) rfl (by kernel_rfl) (by kernel_rfl) (by kernel_rfl) (by kernel_rfl) (fun w' hb' => plan.exec_load rfl (by kernel_rfl) (hblk.later hb').whole Tryz.underlying118 rfl HLL.out) ?_
      refine plan.Rest.call 1 _ 107 #[.agg #[.int .i64 ((x1 : Int) / 1073741824), .int .i64 ((x1 : Int) % 1073741824), .slice (some ⟨g, 0, none⟩) n c]] rfl (by kernel_rfl) (by kernel_rfl) (by kernel_rfl) ((rgt V2.drew).mono ?_)
      rintro e W1 ⟨rfl, hn⟩
      have hb := hb.trans (hn.mono hb.size)
      have hblk := hblk.later hn
      have hrow := hrow.later hn
      have hrd := hrd.below hn
      have hres := hres.later hn
      refine ⟨_, rfl, hn, ?_⟩
      refine plan.Rest.first 2 _ (.bool true) rfl (by kernel_rfl) (by kernel_rfl) (by kernel_rfl) (by kernel_rfl) (fun w' hb' => (by kernel_rfl)) ?_
      refine plan.Rest.first 3 _ (.bool true) rfl (by kernel_rfl) (by kernel_rfl) (by kernel_rfl) (by kernel_rfl) (fun w' hb' => (by kernel_rfl)) ?_
      refine plan.Rest.skip 4 _ rfl (by kernel_rfl) (by kernel_rfl) (by kernel_rfl) (by kernel_rfl) ?_
      refine plan.Rest.skip 5 _ rfl (by kernel_rfl) (by kernel_rfl) (by kernel_rfl) (by kernel_rfl) ?_
      refine plan.Rest.skip 6 _ rfl (by kernel_rfl) (by kernel_rfl) (by kernel_rfl) (by kernel_rfl) ?_
      refine plan.Rest.skip 7 _ rfl (by kernel_rfl) (by kernel_rfl) (by kernel_rfl) (by kernel_rfl) ?_
      refine plan.Rest.skip 8 _ rfl (by kernel_rfl) (by kernel_rfl) (by kernel_rfl) (by kernel_rfl) ?_
      refine plan.Rest.skip 9 _ rfl (by kernel_rfl) (by kernel_rfl) (by kernel_rfl) (by kernel_rfl) ?_
      refine plan.Rest.skip 10 _ rfl (by kernel_rfl) (by kernel_rfl) (by kernel_rfl) (by kernel_rfl) ?_
      refine plan.Rest.skip 11 _ rfl (by kernel_rfl) (by kernel_rfl) (by kernel_rfl) (by kernel_rfl) ?_
      refine plan.Rest.first 12 _ (.bool true) rfl (by kernel_rfl) (by kernel_rfl) (by kernel_rfl) (by kernel_rfl) (fun w' hb' => (by kernel_rfl)) ?_
      refine plan.Rest.done (by kernel_rfl) ?_
      have k0 : (W1).cell? ⟨w.heap.size, 0, none⟩ = some (.int .i64 0) := hres.cell 0
      have k1 : (W1).cell? ⟨w.heap.size, 1, none⟩ = some (.int .i64 0) := hres.cell 1
      have k2 : (W1).cell? ⟨w.heap.size, 2, none⟩ = some (.slice none 0 0) := hres.cell 2
      have f0 := hres.frozen 0
      have f1 := hres.frozen 1
      have f2 := hres.frozen 2
      have hB5 := hres.setCell 0 (.int .i64 0)
      have s0 : ((W1).setCell ⟨w.heap.size, 0, none⟩ (.int .i64 0)).cell? ⟨w.heap.size, 0, none⟩ = some (.int .i64 0) := hB5.cell 0
      have hB6 := hB5.setCell 1 (.int .i64 0)
      have s1 : (((W1).setCell ⟨w.heap.size, 0, none⟩ (.int .i64 0)).setCell ⟨w.heap.size, 1, none⟩ (.int .i64 0)).cell? ⟨w.heap.size, 1, none⟩ = some (.int .i64 0) := hB6.cell 1
      have hB7 := hB6.setCell 2 (.slice none 0 0)
      have s2 : ((((W1).setCell ⟨w.heap.size, 0, none⟩ (.int .i64 0)).setCell ⟨w.heap.size, 1, none⟩ (.int .i64 0)).setCell ⟨w.heap.size, 2, none⟩ (.slice none 0 0)).cell? ⟨w.heap.size, 2, none⟩ = some (.slice none 0 0) := hB7.cell 2
      have HBF := hid hb
      have HRF := hid hrow
      clear hb hblk hrow hrd hres hB5 hB6 hB7
      walk_nrm
      go_wp2
      refine bodyPost_ret (by simp [results, Tryz.results83, go_sem, s0, s1, s2]; try rfl) rfl ?_
      exact ⟨rfl, ((HBF.out.setCell (p := ⟨w.heap.size, 0, none⟩) (Nat.le_refl _) _).setCell (p := ⟨w.heap.size, 1, none⟩) (Nat.le_refl _) _).setCell (p := ⟨w.heap.size, 2, none⟩) (Nat.le_refl _) _⟩
theorem refRead_any (a : Option Addr) (len cap : Nat) (xs : List Nat) (w : World) (hr : Reads .u32 w a len xs) (hx : ∀ x ∈ xs, x < 4294967296) (hlc : len ≤ cap) :
    Calls Tryz.prog 83 #[.slice a len cap] w (ReadsAs (readN xs) w) := by
  by_cases h : len < 4
  · exact refRead_few a len cap xs w hr h
  · obtain ⟨b, off, rfl, _, _⟩ := hr.at (show 0 < len by omega)
    by_cases h2 : (toldN (xs.getD 0 0)).1 < 1 ∨ 56 < (toldN (xs.getD 0 0)).1 ∨ len < (toldN (xs.getD 0 0)).1 + 3
    · exact refRead_not b off len cap _ xs w hr hx (by omega) rfl h2
    · exact refRead_in b off len cap _ xs w hr hx hlc rfl (by omega) (by omega) (by omega)
end Go.Proofs.YtphifanacehppaaGreat.frame
