/- Contracts of the reference's Arm and of the law file's told of layer 7. No condition but masks of at most 2^45. -/
import Derived.Test.YtdpddcmbilipfaaFlashRefErase
import Derived.Test.YtdpddcmbilipfaaFlashArm
namespace Go.Proofs.Ytdpddcmbilipfaa.flash
open Go.RowKit Go.Proofs.Ytdpddcmbilipfaa.word
set_option linter.unusedVariables false

set_option maxHeartbeats 1600000 in
theorem refArm_any {S : Nat → Prop} {g : Nat} {F : Fl} {cm : Value} {gW cW gV cV : Nat} {w : World} (h : RAt S g F cm gW cW gV cV w) (n : Int) (hn : n ≤ 9223372036854775807) (hn2 : -9223372036854775808 ≤ n) (a : Option Addr) (len cap : Nat) (M : List Nat) (hr : Reads .u32 w a len M) (hlen : len * 4 ≤ 140737488355328)
    (hsep : len = 0 ∨ ∃ x, a = some x ∧ ¬ S x.block) :
    Calls Try.prog 36 #[.pointer (some ⟨g, 0, none⟩), .int .i64 n, .slice a len cap] w (RDid S g (F.arm n M) (.tuple #[]) w) := by
  obtain ⟨i0, hi, hz0, hz1, hz2⟩ := info_parts u32_info
  obtain ⟨mx, hmx⟩ : ∃ mx : Int, mx = (if n < 0 then -1 else n) := ⟨_, rfl⟩
  have em : ∀ ts t W, (Builtin.max_ ts t #[.int .i64 n, .int .i64 (-1)]).run Try.prog W = .ok (.int .i64 mx) W := fun ts t W => by
    rw [run_max_int2, show (if (-1 : Int) > n then (-1 : Int) else n) = mx by rw [hmx]; split <;> split <;> omega]
  have haf : afterOf (F.arm n M).fuse = mx := by
    unfold Fl.arm
    rw [hmx]
    by_cases h0 : n < 0
    · simp only [if_pos h0]; rfl
    · simp only [if_neg h0]
      show (n.toNat : Int) = n
      omega
  have c5 : w.cell? ⟨g, 5, none⟩ = some (.int .i64 (afterOf F.fuse)) := h.cell.2.2.2.2.2.1
  have f5 := h.blk.frozen 5
  have ho1 : Only (fun x => x = g) w (w.setCell ⟨g, 5, none⟩ (.int .i64 mx)) := h.put 5 _
  have hr1 : Reads .u32 (w.setCell ⟨g, 5, none⟩ (.int .i64 mx)) a len M := reads_only hr ho1 (hsep.imp id fun ⟨x, hx, hS⟩ => ⟨x, hx, fun e => hS (by rw [e]; exact h.s1)⟩)
  have HB1 := hid (h.blk.setCell 5 (.int .i64 mx))
  have HN := hid (reads_news hr1)
  have HM : Hid (M.length = len) := hid hr.1
  have HU := hid (nums_length .u32 M)
  have HN2 : Hid (0 + len ≤ maxLen) := hid (by unfold maxLen; omega)
  have HN3 : Hid ((0 + len) * 4 ≤ 140737488355328) := hid (by omega)
  have HBS : Hid (w.heap.size ≤ (w.setCell ⟨g, 5, none⟩ (.int .i64 mx)).heap.size) := hid (by simp)
  have HO1 := hid ho1
  have HH := hid h
  have HAF := hid haf
  clear hr hr1 hsep hlen ho1 haf hmx h
  go_enter Try.func36, Try.ntmps36
  go_wp2_with (at_builtin; refine wpList_append_from rfl _ _ 33 rfl w.heap.size 32 i0 (.int .u32 0) 4 Try.underlying33 hi hz0 hz1 hz2 rfl (.slice none 0 0) 0 [] rfl (World.ownsRow_nil _ _ _ _) a len cap (nums .u32 M) rfl (by rw [HU.out, HM.out]) HN.out (nums_one .u32 M) HN2.out HN3.out HBS.out ?_)
  intro v' w3 ho hg
  have ho' : w3.ownsRow w.heap.size 32 1 v' len (nums .u32 M) := by simpa using ho
  obtain ⟨av, cv, rfl, hcv⟩ := ownsRow_slice ho'
  have hb3 : Below w.heap.size (w.setCell ⟨g, 5, none⟩ (.int .i64 mx)) w3 := Below.grown (Below.refl _ _) hg HBS.out (fun k hk => by cases hk)
  have B3 := HB1.out.below hb3 (by have := HH.out.blk.lt; exact this)
  have e6 := B3.cell 6
  have f6 := B3.frozen 6
  have HO3 := hid ho'
  have HB3 := hid hb3
  have HBB := hid (B3.setCell 6 (.slice av len cv))
  have HCV := hid hcv
  clear ho ho' hg hb3 B3
  go_wp2
  refine ret0 rfl rfl ?_
  have hb3' : Below (w.setCell ⟨g, 5, none⟩ (.int .i64 mx)).heap.size (w.setCell ⟨g, 5, none⟩ (.int .i64 mx)) w3 := by
    rw [show (w.setCell ⟨g, 5, none⟩ (.int .i64 mx)).heap.size = w.heap.size by simp]
    exact HB3.out
  have hO2 : Only (fun x => x = g) (w.setCell ⟨g, 5, none⟩ (.int .i64 mx)) (w3.setCell ⟨g, 6, none⟩ (.slice av len cv)) := (Only.of (S := fun x => x = g) hb3').setCell (.inl rfl) _ _
  have hO : Only (fun x => x = g) w (w3.setCell ⟨g, 6, none⟩ (.slice av len cv)) := HO1.out.trans hO2
  have h0 := HH.out
  have hA : RAt (up S w) g (F.arm n M) (.slice av len cv) gW cW gV cV (w3.setCell ⟨g, 6, none⟩ (.slice av len cv)) := by
    refine ⟨?_, ?_, h0.ws.only hO h0.n1.symm, h0.wn.only hO h0.n2.symm, h0.n1, h0.n2, h0.n3, .inl h0.s1, .inl h0.s2, .inl h0.s3⟩
    · have := HBB.out
      rw [← HAF.out] at this
      exact this
    · unfold RFuse
      split
      · trivial
      · rename_i k M' e
        have eM : M' = M := by
          simp only [Fl.arm] at e
          split at e
          · cases e
          · cases e; rfl
        subst eM
        have ho := HO3.out
        have hcv := HCV.out
        rw [← HM.out] at ho hcv
        have ho2 : (w3.setCell ⟨g, 6, none⟩ (.slice av len cv)).ownsRow w.heap.size 32 1 (.slice av M'.length cv) M'.length (nums .u32 M') := ownsRow_same ho fun x hx => Below.heap_setCell w3 ⟨g, 6, none⟩ _ x (by
          have := (World.ownsRow.lt ho x hx).1
          have := h0.blk.lt
          show x ≠ g
          omega)
        refine ⟨av, cv, by rw [Nat.min_self, HM.out], by rw [Nat.min_self]; exact hcv, ?_, ?_⟩
        · rw [Nat.min_self, List.take_of_length_le (Nat.le_refl _)]
          exact Reads.own ho2
        · rw [Nat.min_self]
          by_cases hz : M'.length = 0
          · exact .inl hz
          · right
            obtain ⟨q, c', hv, hq, _⟩ := ownsRow_form ho2 (by omega)
            cases hv
            refine ⟨_, rfl, .inr hq, ?_⟩
            have := h0.blk.lt
            have := h0.ws.lt
            have := h0.wn.lt
            rintro (e | e | e) <;> simp at e <;> omega
  exact ⟨rfl, _, ⟨_, _, _, _, _, hA.clip⟩, fun x hx => ⟨hx.2, hx.1⟩, hO.mono fun x hx _ => by rw [hx]; exact h0.s1⟩
theorem RDid.before {S : Nat → Prop} {g : Nat} {G : Fl} {v : Value} {w w1 w' : World} {e : Ending} (hb : Below w.heap.size w w1) (k : RDid S g G v w1 e w') : RDid S g G v w e w' := by
  obtain ⟨he, S', h1, h2, h3⟩ := k
  exact ⟨he, S', h1, fun x hx => ⟨(h2 x hx).1, (h2 x hx).2.imp id fun h => Nat.le_trans hb.size h⟩, (Only.of hb).next h3 fun x hx _ => hx⟩
theorem told_any {S : Nat → Prop} {g : Nat} {F : Fl} {w : World} (h0 : RefAt S g F w) (ok : F.Ok) (hc : F.count < 4611686018427387904) (k A : Int) (X : Nat) (a : Option Addr) (len cap : Nat) (M : List Nat) (hA : A ≤ 9223372036854775807) (hA2 : -9223372036854775808 ≤ A) (hX : X < 4294967296)
    (hr : Reads .u32 w a len M) (hlen : len * 4 ≤ 140737488355328) (hsep : len = 0 ∨ ∃ x, a = some x ∧ ¬ S x.block) :
    Calls Try.prog 13 #[.pointer (some ⟨g, 0, none⟩), actV k A X a len cap] w (RDid S g (step F k A X M).2 (.tuple #[.int .u32 ((step F k A X M).1.1 : Nat), .int .i64 (step F k A X M).1.2]) w) := by
  have hb : Below w.heap.size w (w.alloc (.cells #[.int .i64 k, .int .i64 A, .int .u32 X, .slice a len cap] 35)) := (Below.refl _ _).alloc (Nat.le_refl _) _
  obtain ⟨cm, gW, cW, gV, cV, h⟩ := h0
  have h1 := h.later hb
  have hpr := refProgram_any h1 ok hc A X hX
  have her := refErase_any h1 ok hc A
  have hre := refRead_any h1 ok A
  have har := refArm_any h1 A hA hA2 a len cap M (hr.below hb) hlen hsep
  have hpo := (refPower_any h1).mono fun e w' k => k.did h1
  have HB := hid hb
  have H1 := hid h1
  clear h hr ok hsep h1 hb
  unfold actV step
  by_cases k2 : k = 2
  · subst k2
    rw [if_pos rfl]
    generalize (F.erase A).1 = z at *
    generalize (F.erase A).2 = G at *
    go_enter Try.func13, Try.ntmps13
    go_wp2_with (go_at_call 34; (with_reducible refine her.mono ?_); rintro e w1 ⟨rfl, hd⟩)
    go_ret2
    exact RDid.before HB.out ⟨rfl, hd⟩
  rw [if_neg k2]
  by_cases k3 : k = 3
  · subst k3
    rw [if_pos rfl]
    generalize F.read A = z at *
    go_enter Try.func13, Try.ntmps13
    go_wp2_with (go_at_call 35; (with_reducible refine hre.mono ?_); rintro e w1 ⟨rfl, n, rfl⟩)
    go_ret2
    exact RDid.before HB.out (Quiet.rdid H1.out ⟨rfl, n, rfl⟩)
  rw [if_neg k3]
  by_cases k4 : k = 4
  · subst k4
    rw [if_pos rfl]
    generalize F.arm A M = G at *
    go_enter Try.func13, Try.ntmps13
    go_wp2_with (go_at_call 36; (with_reducible refine har.mono ?_); rintro e w1 ⟨rfl, hd⟩)
    go_ret2
    exact RDid.before HB.out ⟨rfl, hd⟩
  rw [if_neg k4]
  by_cases k5 : k = 5
  · subst k5
    rw [if_pos rfl]
    generalize F.power = G at *
    go_enter Try.func13, Try.ntmps13
    go_wp2_with (go_at_call 37; (with_reducible refine hpo.mono ?_); rintro e w1 ⟨rfl, hd⟩)
    go_ret2
    exact RDid.before HB.out ⟨rfl, hd⟩
  rw [if_neg k5]
  by_cases k0 : k = 0 ∨ k = 1
  · rw [if_pos k0]
    generalize (F.program A X).1 = z at *
    generalize (F.program A X).2 = G at *
    rcases k0 with rfl | rfl
    all_goals
      go_enter Try.func13, Try.ntmps13
      go_wp2_with (go_at_call 38; (with_reducible refine hpr.mono ?_); rintro e w1 ⟨rfl, hd⟩)
      go_ret2
      exact RDid.before HB.out ⟨rfl, hd⟩
  · rw [if_neg k0]
    have k0a : ¬ k = 0 := fun h => k0 (.inl h)
    have k0b : ¬ k = 1 := fun h => k0 (.inr h)
    clear k0 hpr her hre har hpo
    go_enter Try.func13, Try.ntmps13
    go_wp2
    go_ret2
    exact RDid.before HB.out (Quiet.rdid H1.out ⟨rfl, 0, rfl⟩)
end Go.Proofs.Ytdpddcmbilipfaa.flash
