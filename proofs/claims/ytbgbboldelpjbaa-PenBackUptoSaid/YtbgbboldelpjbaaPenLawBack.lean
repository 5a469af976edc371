/- PenBack: for every pieces of a bulk of at most 2^20, what a pen writes an eye reads back, and nothing is left. -/
import Derived.Test.YtbgbboldelpjbaaPenBackMath
import Derived.Deep.RegionHeld3
namespace Go.Proofs.Ytbgbboldelpjbaa.penBack
open Go.RowKit Go.Proofs.Ytbgbboldelpjbaa.pen Go.Proofs.Ytbgbboldelpjbaa.texts
set_option linter.unusedVariables false

set_option maxRecDepth 20000 in
set_option maxHeartbeats 16000000 in
theorem walk (al : Option Addr) (capl : Nat) (l : List Piece) (w : World)
    (ha : Acts w al l) (hf : ∀ p ∈ l, Fit p) (hll : l.length ≤ capl) (hcm : capl ≤ maxLen) (hsm : actsBulk l ≤ 1048576) : Calls Try.prog 5 #[.slice al l.length capl] w (Yes w) := by
  have hlm : l.length ≤ 9223372036854775807 := by unfold maxLen at hcm; omega
  have c0 := new_any w
  have HA := hid ha
  have HF := hid hf
  have HL : Hid ((encs l).length ≤ 3145728) := by show _ ≤ _; have := encs_len l hf; omega
  have HS := hid hsm
  clear ha hf hsm
  obtain ⟨B, hB⟩ : ∃ B, Hid (w.heap.size = B) := ⟨_, rfl⟩
  rw [hB.out] at c0
  go_enter Try.func5, Try.ntmps5
  go_wp2_with (go_at_call 7; (with_reducible refine c0.mono ?_); clear c0; rintro e w1 ⟨rfl, hp1, hb1⟩)
  have HT : Hid (PenAt w.heap.size B (.slice none 0 0) [] 0 w1 ∧ Below w.heap.size w w1) := ⟨by rw [hB.out]; exact hp1, by rw [hB.out]; exact hb1⟩
  have HBW : Hid (w.heap.size ≤ B) := Nat.le_of_eq hB.out
  clear hp1 hb1
  go_loopw [4] (fun i wr => ∃ (k : Nat) (vP : Value), k ≤ l.length ∧ i = .int .i64 (k : Int) ∧ PenAt w.heap.size B vP (encs (l.take k)) 0 wr ∧ Below w.heap.size w wr ∧ Hid (∀ q ∈ l.take k, ill q = false))
    (fun i _ => l.length - (intOf i).toNat)
  case atStart => exact ⟨0, _, Nat.zero_le _, rfl, HT.out.1, HT.out.2, fun q hq => by simp at hq⟩
  case round =>
    obtain ⟨k, vP, hk, rfl, hP, hbw, hill⟩ := hrel
    have HP := hid hP
    have HB := hid hbw
    clear hP hbw
    by_cases hlt : k < l.length
    · have hi : (k : Int) < l.length := by omega
      obtain ⟨g, off, p, rfl, hg, hp, e1, e2, e3⟩ := HA.out.at hlt
      have hfp := HF.out p (List.mem_of_getElem? hp)
      have hps : p.2.2.length ≤ 1048576 := by have := actsBulk_mem (List.mem_of_getElem? hp); have := HS.out; omega
      have hxl : (encs (l.take k)).length ≤ 3145728 := Nat.le_trans (encs_take l k) HL.out
      have dW : Hid (Calls Try.prog 8 #[.pointer (some ⟨B, 0, none⟩), .agg #[.int .i64 p.1, .int .i64 p.2.1, .string (strL p.2.2)]] wr (Penned w.heap.size B vP (encs (l.take k)) (enc p) (errOf p 0) wr)) :=
        write_any w.heap.size B vP (encs (l.take k)) 0 wr HP.out HB.out.size p hfp (by omega)
      have q1 : wr.cell? ⟨g, off + k * 3, none⟩ = some (.int .i64 p.1) := (HB.out.cell (p := ⟨g, off + k * 3, none⟩) hg).trans e1
      have q2 : wr.cell? ⟨g, off + k * 3 + 1, none⟩ = some (.int .i64 p.2.1) := (HB.out.cell (p := ⟨g, off + k * 3 + 1, none⟩) hg).trans e2
      have q3 : wr.cell? ⟨g, off + k * 3 + 2, none⟩ = some (.string (strL p.2.2)) := (HB.out.cell (p := ⟨g, off + k * 3 + 2, none⟩) hg).trans e3
      have HE1 := hid (encs_step hp)
      have HTK := hid (take_step hp)
      have hil : ill p = (p.1 == 1 && decide (p.2.1 < 0)) := rfl
      have HIL : Hid (ill p = false → errOf p 0 = 0 ∧ ∀ q ∈ l.take (k + 1), ill q = false) := fun h => by
        refine ⟨if_neg (by rw [h]; simp), fun q hq => ?_⟩
        rw [HTK.out] at hq
        rcases List.mem_append.1 hq with h1 | h1
        · exact hill.out q h1
        · rw [List.mem_singleton] at h1; rw [h1]; exact h
      obtain ⟨kd, n, t⟩ := p
      simp only at q1 q2 q3 dW hil hps
      obtain ⟨T, hT⟩ : ∃ T, Hid (strL t = T) := ⟨_, rfl⟩
      rw [hT.out] at q3 dW
      clear hp hfp e1 e2 e3 hxl hps HTK
      rw [hil] at HIL
      clear hil
      by_cases h1 : kd = 1
      · have x1 : (kd == 1) = true := by rw [beq_iff_eq]; exact h1
        by_cases h2 : n < 0
        · clear h1 dW HIL
          go_wp2_with (go_at_call 11; (with_reducible refine (awake_any _).mono ?_); rintro e w8 ⟨rfl, hb8⟩)
          go_ret
          exact ⟨rfl, HB.out.trans (hb8.mono HB.out.size)⟩
        · have HI2 := hid (HIL.out (by rw [decide_eq_false h2]; simp))
          rw [HI2.out.1] at dW
          clear h1 HIL
          go_wp2_with (go_at_call 8; (with_reducible refine dW.out.mono ?_); clear dW; rintro e w3 ⟨rfl, vP3, hp3, ht3⟩)
          exact ⟨⟨k + 1, vP3, by omega, by go_num, by rw [HE1.out]; exact hp3, turns_below HP.out HB.out HB.out.size HBW.out ht3, HI2.out.2⟩, by simp [intOf]; omega⟩
      · have x1 : (kd == 1) = false := by rw [beq_eq_false_iff_ne]; exact h1
        have HI2 := hid (HIL.out (by rw [x1]; rfl))
        rw [HI2.out.1] at dW
        clear h1 HIL
        go_wp2_with (go_at_call 8; (with_reducible refine dW.out.mono ?_); clear dW; rintro e w3 ⟨rfl, vP3, hp3, ht3⟩)
        exact ⟨⟨k + 1, vP3, by omega, by go_num, by rw [HE1.out]; exact hp3, turns_below HP.out HB.out HB.out.size HBW.out ht3, HI2.out.2⟩, by simp [intOf]; omega⟩
    · obtain rfl : k = l.length := by omega
      have hi : ¬ ((l.length : Int) < l.length) := by omega
      have hP := HP.out
      have hilq := hill.out
      rw [List.take_length] at hP hilq
      have HILQ := hid hilq
      have c1 := done_any w.heap.size B vP (encs l) wr hP (by have := HL.out; omega)
      have HX : Hid (∀ c ∈ encs l, c < 256) := fun c hc => by
        unfold encs at hc
        obtain ⟨x, hx, hc⟩ := List.mem_flatten.1 hc
        obtain ⟨p, _, rfl⟩ := List.mem_map.1 hx
        exact enc_lt p c hc
      have cO : Hid (∀ w1 a c, Reads .u8 w1 a (encs l).length (encs l) → Calls Try.prog 12 #[.slice a (encs l).length c] w1 fun e w' => ∃ b, e = .returned (.pointer (some ⟨b, 0, none⟩)) ∧ w1.heap.size ≤ b ∧ EyeAt 62 b (encs l, 0) w' ∧ Below w1.heap.size w1 w') := fun w1 a c hr => of_any a c (encs l) w1 hr HX.out (by have := HL.out; omega)
      have hd0 : encs (l.drop 0) = encs l := rfl
      have HD0 := hid hd0
      have HLi : (l.length : Int) ≤ 9223372036854775807 := by omega
      obtain ⟨X, hX⟩ : ∃ X, Hid (encs l = X) := ⟨_, rfl⟩
      rw [hX.out] at c1 cO HD0
      clear hP hilq HP HT hill hd0 hX HX
      go_wp2_with (first
        | (go_at_call 10; (with_reducible refine c1.mono ?_); clear c1; rintro e w7 ⟨u7, rfl, ho7, hb7⟩; obtain ⟨a7, k7, rfl, _⟩ := ownsRow_slice ho7; have hr7 := Reads.own ho7; have HB7 := hid (HB.out.trans (hb7.mono HB.out.size)); clear ho7 hb7)
        | (go_at_call 12; (with_reducible refine (cO.out _ _ _ hr7).mono ?_); clear cO hr7; rintro e w8 ⟨bx, rfl, hbx, hE8, hb8⟩; have HE8 := hid hE8; have HBX : Hid (w.heap.size ≤ bx) := Nat.le_trans HB7.out.size hbx; have HB8 := hid (HB7.out.trans (hb8.mono HB7.out.size)); clear hE8 hb8 hbx))
      go_loopw [8] (fun i wr => ∃ (k : Nat), k ≤ l.length ∧ i = .int .i64 (k : Int) ∧ EyeAt 62 bx (encs (l.drop k), 0) wr ∧ Below w.heap.size w wr)
        (fun i _ => l.length - (intOf i).toNat)
      case atStart => exact ⟨0, Nat.zero_le _, rfl, by rw [HD0.out]; exact HE8.out, HB8.out⟩
      case round =>
        obtain ⟨k, hk, rfl, hE, hbw⟩ := hrel
        have HE := hid hE
        have HB := hid hbw
        clear hE hbw
        by_cases hlt : k < l.length
        · have hi : (k : Int) < l.length := by omega
          obtain ⟨g, off, p, rfl, hg, hp, e1, e2, e3⟩ := HA.out.at hlt
          have hfp := HF.out p (List.mem_of_getElem? hp)
          have hilp := HILQ.out p (List.mem_of_getElem? hp)
          have q1 : wr.cell? ⟨g, off + k * 3, none⟩ = some (.int .i64 p.1) := (HB.out.cell (p := ⟨g, off + k * 3, none⟩) hg).trans e1
          have q2 : wr.cell? ⟨g, off + k * 3 + 1, none⟩ = some (.int .i64 p.2.1) := (HB.out.cell (p := ⟨g, off + k * 3 + 1, none⟩) hg).trans e2
          have q3 : wr.cell? ⟨g, off + k * 3 + 2, none⟩ = some (.string (strL p.2.2)) := (HB.out.cell (p := ⟨g, off + k * 3 + 2, none⟩) hg).trans e3
          have hE := HE.out
          rw [encs_drop hp] at hE
          obtain ⟨kd, n, t⟩ := p
          simp only at q1 q2 q3
          clear HE
          obtain ⟨T, hT⟩ : ∃ T, Hid (strL t = T) := ⟨_, rfl⟩
          rw [hT.out] at q3
          have HE := hid hE
          clear hE hp e1 e2 e3
          have hn1 := hfp.n1
          have hn2 := hfp.n2
          have hts := hfp.s
          simp only at hn1 hn2 hts
          have ha8 := i64_low8 n
          have ha32 := i64_low32 n
          have hw8 : IntKind.u8.wrap (n % 256) = n % 256 := by rw [IntKind.wrap_u8]; omega
          have hw32 : IntKind.u32.wrap (n % 4294967296) = n % 4294967296 := by rw [IntKind.wrap_u32]; omega
          have hne : wr.heap.size ≠ bx := fun e => by have := HE.out.lt; omega
          by_cases h0 : kd = 0
          · subst h0
            rw [show enc (0, n, t) = [(n % 256).toNat] from rfl] at HE
            obtain ⟨R, hR⟩ : ∃ R, Hid (encs (l.drop (k + 1)) = R) := ⟨_, rfl⟩
            rw [hR.out] at HE
            obtain ⟨w9, hw9⟩ : ∃ x, Hid (wr.alloc (.cells #[.int .i64 0, .int .i64 n, .string T] 28) = x) := ⟨_, rfl⟩
            obtain ⟨h, hh⟩ : ∃ x, Hid (wr.heap.size = x) := ⟨_, rfl⟩
            have HAt : Hid (At w bx h ([(n % 256).toNat] ++ R, 0) [.int .i64 0, .int .i64 n, .string T] w9) := by
              show At _ _ _ _ _ _
              rw [← hw9.out, ← hh.out]
              exact ⟨HE.out.later ((Below.refl _ _).alloc (Nat.le_refl _) _), HBX.out, HB.out.alloc HB.out.size _, Block.new wr _ [.int .i64 0, .int .i64 n, .string T], hne⟩
            have hs9 : w9.cell? ⟨h, 1, none⟩ = some (.int .i64 n) := by rw [HAt.out.2.2.2.1.cell]; rfl
            have HD := hid HAt.out.drew
            have d1 : ∀ w1, At w bx h ([(n % 256).toNat] ++ R, 0) [.int .i64 0, .int .i64 n, .string T] w1 → Calls Try.prog 13 #[.pointer (some ⟨bx, 0, none⟩)] w1 fun e w' => e = .returned (.int .u8 (n % 256)) ∧ At w bx h (R, 0) [.int .i64 0, .int .i64 n, .string T] w' := fun w1 hA => by
              have := eyeByte_any bx _ w1 hA.1
              rw [see_one, Int.toNat_of_nonneg (Int.emod_nonneg _ (by omega))] at this
              exact this.mono fun e w' hs => hA.saw hs
            clear HAt
            clear ha32 hw32
            go_wp2
            rw [hw9.out, hh.out]
            go_region_held3 (fun w' => w'.cell? ⟨h, 1, none⟩ = some (.int .i64 n)) (first | assumption | go_keep) (first
              | (go_at_call 13; (with_reducible refine (d1 _ HD.out).mono ?_); rintro e w10 ⟨rfl, hA10⟩; have hs10 : w10.cell? ⟨h, 1, none⟩ = some (.int .i64 n) := by (rw [hA10.2.2.2.1.cell]; rfl)))
            try simp only [hw8, beq_self_eq_true]
            have HA10 := hid hA10
            clear hA10
            go_wp2
            exact ⟨⟨k + 1, by omega, by go_num, by rw [hR.out]; exact HA10.out.1, HA10.out.2.2.1⟩, by simp [intOf]; omega⟩
          · by_cases h1 : kd = 1
            · subst h1
              have hn0 : 0 ≤ n := by
                have h2 : decide (n < 0) = false := hilp
                have := of_decide_eq_false h2
                omega
              rw [show enc (1, n, t) = vb n.toNat from (if_neg (show ¬ ((1 : Int) = 0) by decide)).trans ((if_pos rfl).trans (if_neg (show ¬ n < 0 by omega)))] at HE
              obtain ⟨R, hR⟩ : ∃ R, Hid (encs (l.drop (k + 1)) = R) := ⟨_, rfl⟩
              rw [hR.out] at HE
              obtain ⟨w9, hw9⟩ : ∃ x, Hid (wr.alloc (.cells #[.int .i64 1, .int .i64 n, .string T] 28) = x) := ⟨_, rfl⟩
              obtain ⟨h, hh⟩ : ∃ x, Hid (wr.heap.size = x) := ⟨_, rfl⟩
              have HAt : Hid (At w bx h (vb n.toNat ++ R, 0) [.int .i64 1, .int .i64 n, .string T] w9) := by
                show At _ _ _ _ _ _
                rw [← hw9.out, ← hh.out]
                exact ⟨HE.out.later ((Below.refl _ _).alloc (Nat.le_refl _) _), HBX.out, HB.out.alloc HB.out.size _, Block.new wr _ [.int .i64 1, .int .i64 n, .string T], hne⟩
              have hs9 : w9.cell? ⟨h, 1, none⟩ = some (.int .i64 n) := by rw [HAt.out.2.2.2.1.cell]; rfl
              have HD := hid HAt.out.drew
              have d1 : ∀ w1, At w bx h (vb n.toNat ++ R, 0) [.int .i64 1, .int .i64 n, .string T] w1 → Calls Try.prog 15 #[.pointer (some ⟨bx, 0, none⟩), .int .i64 n] w1 fun e w' => e = .returned (.int .i64 n) ∧ At w bx h (R, 0) [.int .i64 1, .int .i64 n, .string T] w' := fun w1 hA => by
                have := eyeCount_any bx _ w1 hA.1 n hn1 hn2
                rw [see_count n hn0 hn2, Int.toNat_of_nonneg hn0] at this
                exact this.mono fun e w' hs => hA.saw hs
              clear HAt
              clear ha8 ha32 hw8 hw32
              go_wp2
              rw [hw9.out, hh.out]
              go_region_held3 (fun w' => w'.cell? ⟨h, 1, none⟩ = some (.int .i64 n)) (first | assumption | go_keep) (first
                | (go_at_call 15; (with_reducible refine (d1 _ HD.out).mono ?_); rintro e w10 ⟨rfl, hA10⟩; have hs10 : w10.cell? ⟨h, 1, none⟩ = some (.int .i64 n) := by (rw [hA10.2.2.2.1.cell]; rfl)))
              try simp only [beq_self_eq_true]
              have HA10 := hid hA10
              clear hA10
              go_wp2
              exact ⟨⟨k + 1, by omega, by go_num, by rw [hR.out]; exact HA10.out.1, HA10.out.2.2.1⟩, by simp [intOf]; omega⟩
            · by_cases h2 : kd = 2
              · subst h2
                rw [show enc (2, n, t) = vb (zig n) from rfl] at HE
                obtain ⟨R, hR⟩ : ∃ R, Hid (encs (l.drop (k + 1)) = R) := ⟨_, rfl⟩
                rw [hR.out] at HE
                obtain ⟨w9, hw9⟩ : ∃ x, Hid (wr.alloc (.cells #[.int .i64 2, .int .i64 n, .string T] 28) = x) := ⟨_, rfl⟩
                obtain ⟨h, hh⟩ : ∃ x, Hid (wr.heap.size = x) := ⟨_, rfl⟩
                have HAt : Hid (At w bx h (vb (zig n) ++ R, 0) [.int .i64 2, .int .i64 n, .string T] w9) := by
                  show At _ _ _ _ _ _
                  rw [← hw9.out, ← hh.out]
                  exact ⟨HE.out.later ((Below.refl _ _).alloc (Nat.le_refl _) _), HBX.out, HB.out.alloc HB.out.size _, Block.new wr _ [.int .i64 2, .int .i64 n, .string T], hne⟩
                have hs9 : w9.cell? ⟨h, 1, none⟩ = some (.int .i64 n) := by rw [HAt.out.2.2.2.1.cell]; rfl
                have HD := hid HAt.out.drew
                have d1 : ∀ w1, At w bx h (vb (zig n) ++ R, 0) [.int .i64 2, .int .i64 n, .string T] w1 → Calls Try.prog 17 #[.pointer (some ⟨bx, 0, none⟩)] w1 fun e w' => e = .returned (.int .i64 n) ∧ At w bx h (R, 0) [.int .i64 2, .int .i64 n, .string T] w' := fun w1 hA => by
                  have := eyeNum_any bx _ w1 hA.1
                  rw [see_int n hn1 hn2] at this
                  exact this.mono fun e w' hs => hA.saw hs
                clear HAt
                clear ha8 ha32 hw8 hw32
                go_wp2
                rw [hw9.out, hh.out]
                go_region_held3 (fun w' => w'.cell? ⟨h, 1, none⟩ = some (.int .i64 n)) (first | assumption | go_keep) (first
                  | (go_at_call 17; (with_reducible refine (d1 _ HD.out).mono ?_); rintro e w10 ⟨rfl, hA10⟩; have hs10 : w10.cell? ⟨h, 1, none⟩ = some (.int .i64 n) := by (rw [hA10.2.2.2.1.cell]; rfl)))
                try simp only [beq_self_eq_true]
                have HA10 := hid hA10
                clear hA10
                go_wp2
                exact ⟨⟨k + 1, by omega, by go_num, by rw [hR.out]; exact HA10.out.1, HA10.out.2.2.1⟩, by simp [intOf]; omega⟩
              · by_cases h3 : kd = 3
                · subst h3
                  rw [show enc (3, n, t) = wb (n % 4294967296).toNat from rfl] at HE
                  obtain ⟨R, hR⟩ : ∃ R, Hid (encs (l.drop (k + 1)) = R) := ⟨_, rfl⟩
                  rw [hR.out] at HE
                  obtain ⟨w9, hw9⟩ : ∃ x, Hid (wr.alloc (.cells #[.int .i64 3, .int .i64 n, .string T] 28) = x) := ⟨_, rfl⟩
                  obtain ⟨h, hh⟩ : ∃ x, Hid (wr.heap.size = x) := ⟨_, rfl⟩
                  have HAt : Hid (At w bx h (wb (n % 4294967296).toNat ++ R, 0) [.int .i64 3, .int .i64 n, .string T] w9) := by
                    show At _ _ _ _ _ _
                    rw [← hw9.out, ← hh.out]
                    exact ⟨HE.out.later ((Below.refl _ _).alloc (Nat.le_refl _) _), HBX.out, HB.out.alloc HB.out.size _, Block.new wr _ [.int .i64 3, .int .i64 n, .string T], hne⟩
                  have hs9 : w9.cell? ⟨h, 1, none⟩ = some (.int .i64 n) := by rw [HAt.out.2.2.2.1.cell]; rfl
                  have HD := hid HAt.out.drew
                  have d1 : ∀ w1, At w bx h (wb (n % 4294967296).toNat ++ R, 0) [.int .i64 3, .int .i64 n, .string T] w1 → Calls Try.prog 19 #[.pointer (some ⟨bx, 0, none⟩)] w1 fun e w' => e = .returned (.int .u32 (n % 4294967296)) ∧ At w bx h (R, 0) [.int .i64 3, .int .i64 n, .string T] w' := fun w1 hA => by
                    have := eyeWord_any bx _ w1 hA.1
                    rw [see_word _ (by omega), Int.toNat_of_nonneg (Int.emod_nonneg _ (by omega))] at this
                    exact this.mono fun e w' hs => hA.saw hs
                  clear HAt
                  clear ha8 hw8
                  go_wp2
                  rw [hw9.out, hh.out]
                  go_region_held3 (fun w' => w'.cell? ⟨h, 1, none⟩ = some (.int .i64 n)) (first | assumption | go_keep) (first
                    | (go_at_call 19; (with_reducible refine (d1 _ HD.out).mono ?_); rintro e w10 ⟨rfl, hA10⟩; have hs10 : w10.cell? ⟨h, 1, none⟩ = some (.int .i64 n) := by (rw [hA10.2.2.2.1.cell]; rfl)))
                  try simp only [hw32, beq_self_eq_true]
                  have HA10 := hid hA10
                  clear hA10
                  go_wp2
                  exact ⟨⟨k + 1, by omega, by go_num, by rw [hR.out]; exact HA10.out.1, HA10.out.2.2.1⟩, by simp [intOf]; omega⟩
                · have z0 : (kd == 0) = false := by rw [beq_eq_false_iff_ne]; exact h0
                  have z1 : (kd == 1) = false := by rw [beq_eq_false_iff_ne]; exact h1
                  have z2 : (kd == 2) = false := by rw [beq_eq_false_iff_ne]; exact h2
                  have z3 : (kd == 3) = false := by rw [beq_eq_false_iff_ne]; exact h3
                  have HTs : Hid (T.size = t.length) := by show _ = _; rw [← hT.out, strL_size]
                  have hTz : T.size ≤ 9223372036854775807 := by have := HTs.out; omega
                  rw [show enc (kd, n, t) = (vb t.length ++ nums t) from (if_neg h0).trans ((if_neg h1).trans ((if_neg h2).trans (if_neg h3)))] at HE
                  obtain ⟨R, hR⟩ : ∃ R, Hid (encs (l.drop (k + 1)) = R) := ⟨_, rfl⟩
                  rw [hR.out] at HE
                  obtain ⟨w9, hw9⟩ : ∃ x, Hid (wr.alloc (.cells #[.int .i64 kd, .int .i64 n, .string T] 28) = x) := ⟨_, rfl⟩
                  obtain ⟨h, hh⟩ : ∃ x, Hid (wr.heap.size = x) := ⟨_, rfl⟩
                  have HAt : Hid (At w bx h ((vb t.length ++ nums t) ++ R, 0) [.int .i64 kd, .int .i64 n, .string T] w9) := by
                    show At _ _ _ _ _ _
                    rw [← hw9.out, ← hh.out]
                    exact ⟨HE.out.later ((Below.refl _ _).alloc (Nat.le_refl _) _), HBX.out, HB.out.alloc HB.out.size _, Block.new wr _ [.int .i64 kd, .int .i64 n, .string T], hne⟩
                  have hs9 : w9.cell? ⟨h, 2, none⟩ = some (.string T) := by rw [HAt.out.2.2.2.1.cell]; rfl
                  have HD := hid HAt.out.drew
                  have d1 : ∀ w1, At w bx h ((vb t.length ++ nums t) ++ R, 0) [.int .i64 kd, .int .i64 n, .string T] w1 → Calls Try.prog 21 #[.pointer (some ⟨bx, 0, none⟩), .int .i64 (T.size : Int)] w1 fun e w' => e = .returned (.string T) ∧ At w bx h (R, 0) [.int .i64 kd, .int .i64 n, .string T] w' := fun w1 hA => by
                    have := eyeText_any bx _ w1 hA.1 (t.length : Int) (by omega) (by omega)
                    rw [see_text t hts, strOf_nums, hT.out] at this
                    rw [HTs.out]; exact this.mono fun e w' hs => hA.saw hs
                  clear HAt
                  clear ha8 ha32 hw8 hw32 h0 h1 h2 h3 hilp hts
                  go_wp2
                  rw [hw9.out, hh.out]
                  go_region_held3 (fun w' => w'.cell? ⟨h, 2, none⟩ = some (.string T)) (first | assumption | go_keep) (first
                    | (go_at_call 21; (with_reducible refine (d1 _ HD.out).mono ?_); rintro e w10 ⟨rfl, hA10⟩; have hs10 : w10.cell? ⟨h, 2, none⟩ = some (.string T) := by (rw [hA10.2.2.2.1.cell]; rfl)))
                  try simp only [beq_self_eq_true]
                  have HA10 := hid hA10
                  clear hA10
                  go_wp2
                  exact ⟨⟨k + 1, by omega, by go_num, by rw [hR.out]; exact HA10.out.1, HA10.out.2.2.1⟩, by simp [intOf]; omega⟩
        · have hi : ¬ (k : Int) < l.length := by omega
          have hE := HE.out
          rw [List.drop_of_length_le (show l.length ≤ k by omega), encs_nil] at hE
          have HE2 := hid hE
          have cE : ∀ m, Calls Try.prog 25 #[.pointer (some ⟨bx, 0, none⟩)] (wr.drewN m) (Quiet (.int .i64 0) (wr.drewN m)) := fun m => end_any bx ([], 0) _ (HE2.out.later (below_drewN (Below.refl _ _) m))
          have cE0 : Calls Try.prog 25 #[.pointer (some ⟨bx, 0, none⟩)] wr (Quiet (.int .i64 0) wr) := end_any bx ([], 0) _ HE2.out
          have cL : ∀ m, Calls Try.prog 23 #[.pointer (some ⟨bx, 0, none⟩)] (wr.drewN m) (Quiet (.int .i64 0) (wr.drewN m)) := fun m => left_any bx ([], 0) _ (HE2.out.later (below_drewN (Below.refl _ _) m))
          clear hE HE
          go_wp2_with (first
            | (go_at_call 25; (with_reducible refine cE0.mono ?_); clear cE0; rintro e w10 ⟨rfl, m10, rfl⟩)
            | (go_at_call 23; (with_reducible refine (cL _).mono ?_); clear cL; rintro e w11 ⟨rfl, m11, rfl⟩)
            | (go_at_call 11; (with_reducible refine (awake_any _).mono ?_); rintro e w12 ⟨rfl, hb12⟩))
          go_ret
          exact ⟨rfl, (below_drewN HB.out _).trans (hb12.mono (by simpa using HB.out.size))⟩
end Go.Proofs.Ytbgbboldelpjbaa.penBack
