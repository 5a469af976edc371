/- Contracts of Arm and Copy of layer 7 (flash), for every argument. No condition but masks of at most 2^47 bytes. -/
import Derived.Test.YtdpddcmbilipfaaFlashClone
import Derived.Test.YtdpddcmbilipfaaFlashWrite
import Derived.Deep.WholeRow
namespace Go.Proofs.Ytdpddcmbilipfaa.flash
open Go.RowKit Go.Proofs.Ytdpddcmbilipfaa.word
set_option linter.unusedVariables false

theorem reads_prefix {k : IntKind} {w : World} {a : Option Addr} {len m : Nat} {xs : List Nat} (h : Reads k w a len xs) (hm : m ≤ len) : Reads k w a m (xs.take m) := by
  refine ⟨by rw [List.length_take, h.1]; omega, ?_⟩
  rcases h.2 with h0 | ⟨b, off, ha, hlt, hc⟩
  · exact .inl (by omega)
  · refine .inr ⟨b, off, ha, hlt, fun i hi => ?_⟩
    rw [hc i (by omega)]
    simp [List.getD, hi]
/-- S, and what is new since w -/
def up (S : Nat → Prop) (w : World) (k : Nat) : Prop := S k ∨ w.heap.size ≤ k
theorem arm_nil (n : Int) (v : Value) (w : World) : Calls Try.prog 23 #[.pointer none, .int .i64 n, v] w (Quiet (.tuple #[]) w) := by
  go_enter Try.func23, Try.ntmps23
  go_wp2
  exact ret0 rfl rfl ⟨rfl, 0, rfl⟩
theorem At.armed {S : Nat → Prop} {b : Nat} {F : Fl} {bw cw bv cv : Nat} {w : World} (h : At S b { F with fuse := none } (.bool false) (.int .i64 0) (.slice none 0 0) bw cw bv cv w) (n : Nat) :
    ∃ w', w' = (w.setCell ⟨b, 0, none⟩ (.bool true)).setCell ⟨b, 1, none⟩ (.int .i64 (n : Int)) ∧ At S b { F with fuse := some (n, []) } (.bool true) (.int .i64 (n : Int)) (.slice none 0 0) bw cw bv cv w' ∧ Only (fun x => x = b) w w' := by
  refine ⟨_, rfl, ⟨(h.blk.setCell 0 _).setCell 1 _, ?_, (h.ws.apart _ _ _ h.n1.symm).apart _ _ _ h.n1.symm, (h.wn.apart _ _ _ h.n2.symm).apart _ _ _ h.n2.symm, h.n1, h.n2, h.n3, h.s1, h.s2, h.s3⟩, ((Only.refl (fun x => x = b) w).setCell (.inl rfl) 0 _).setCell (.inl rfl) 1 _⟩
  exact ⟨rfl, rfl, none, 0, by simp, by simp, by simpa using Reads.nil, .inl (by simp)⟩
theorem At.masked {S : Nat → Prop} {b : Nat} {F : Fl} {n : Nat} {M0 : List Nat} {cm : Value} {bw cw bv cv : Nat} {w : World} (h : At S b { F with fuse := some (n, M0) } (.bool true) (.int .i64 (n : Int)) cm bw cw bv cv w) (M : List Nat) (v : Value)
    (hm : MasksAt S (at3 b bw bv) F.long M v w) : At S b { F with fuse := some (n, M) } (.bool true) (.int .i64 (n : Int)) v bw cw bv cv (w.setCell ⟨b, 2, none⟩ v) :=
  ⟨h.blk.setCell 2 v, ⟨rfl, rfl, hm.only (h.put 2 v) (only_b h)⟩, h.ws.apart _ _ _ h.n1.symm, h.wn.apart _ _ _ h.n2.symm, h.n1, h.n2, h.n3, h.s1, h.s2, h.s3⟩
set_option maxHeartbeats 16000000 in
theorem arm_any {S : Nat → Prop} {b : Nat} {F : Fl} {ca cb cm : Value} {bw cw bv cv : Nat} {w : World} (h : At S b F ca cb cm bw cw bv cv w) (ok : F.Ok) (n : Int) (hn : n ≤ 9223372036854775807) (a : Option Addr) (len cap : Nat) (M : List Nat) (hr : Reads .u32 w a len M) (hlc : len ≤ cap) (hlen : len ≤ 140737488355328)
    (hcap : cap ≤ maxLen) (hsep : len = 0 ∨ ∃ x, a = some x ∧ ¬ S x.block) :
    Calls Try.prog 23 #[.pointer (some ⟨b, 0, none⟩), .int .i64 n, .slice a len cap] w fun e w' => e = .returned (.tuple #[]) ∧ (∃ ca cb cm, At (up S w) b (F.arm n M) ca cb cm bw cw bv cv w') ∧ Only (at3 b bw bv) w w' := by
  obtain ⟨c0, c1, c2, _, c4, _⟩ := h.cell
  have f0 := h.blk.frozen 0
  have f1 := h.blk.frozen 1
  have f2 := h.blk.frozen 2
  have h1 := h.unfused (w' := _) rfl
  have HA := hid h1.1
  have HO := hid (h1.2.mono (T := at3 b bw bv) fun x hx _ => .inl hx)
  have g0 := h1.1.blk.frozen 0
  have g1 := h1.1.blk.frozen 1
  have g2 := h1.1.blk.frozen 2
  obtain ⟨d0, d1, d2, _, d4, _⟩ := h1.1.cell
  by_cases h0 : n < 0
  · have e : F.arm n M = { F with fuse := none } := by rw [Fl.arm, if_pos h0]
    rw [e]
    clear h h1 e ok hr hlc hlen hcap hsep
    go_enter Try.func23, Try.ntmps23
    go_wp2
    exact bodyPost_ret (v := .tuple #[]) (by kernel_rfl) rfl ⟨rfl, ⟨_, _, _, HA.out.wide fun x hx => .inl hx⟩, HO.out⟩
  · obtain ⟨k, rfl⟩ := Int.eq_ofNat_of_zero_le (show 0 ≤ n by omega)
    have e : F.arm k M = { F with fuse := some (k, M) } := by rw [Fl.arm, if_neg h0, Int.toNat_natCast]
    rw [e]
    obtain ⟨w2, hw2, hA2, hO2⟩ := HA.out.armed k
    obtain ⟨mn, hmn⟩ : ∃ mn, mn = min len F.long := ⟨_, rfl⟩
    have em : ∀ ts t W, (Builtin.min_ ts t #[.int .i64 (len : Int), .int .i64 (F.long : Int)]).run Try.prog W = .ok (.int .i64 (mn : Int)) W := fun ts t W => by
      rw [run_min_int2, show (if (F.long : Int) < (len : Int) then (F.long : Int) else (len : Int)) = (mn : Int) by split <;> omega]
    have hl2 := ok.l2
    have hMl : M.length = len := hr.1
    have hO3 : Only (at3 b bw bv) w w2 := HO.out.trans (hO2.mono fun x hx _ => .inl hx)
    have hr2 : Reads .u32 w2 a len M := reads_only hr hO3 (hsep.imp id fun ⟨x, hx, hS⟩ => ⟨x, hx, fun h3 => hS (h.mem _ h3)⟩)
    have hcl := u32_clone a mn cap (M.take mn) w2 (reads_prefix hr2 (by omega)) (by omega)
    have m1 : (mn : Int) ≤ cap := by omega
    have m2 : mn ≤ cap := by omega
    have hml : (M.take mn).length = mn := by rw [List.length_take]; omega
    have HMN : Hid (mn = min M.length F.long) := hid (by omega)
    have HTK : Hid (M.take mn = M.take F.long) := hid (by
      rw [hmn]
      by_cases hq : len ≤ F.long
      · rw [Nat.min_eq_left hq, List.take_of_length_le (by omega), List.take_of_length_le (by omega)]
      · rw [Nat.min_eq_right (by omega)])
    have HML := hid hml
    have HA2 := hid hA2
    have HO3 := hid hO3
    have HW2 := hid hw2
    have HH := hid h
    have f22 : w2.frozen? ⟨b, 2, none⟩ = false := hA2.blk.frozen 2
    clear h h1 e ok hr hlen hcap hsep hr2 hmn hMl hml hO2 hO3 hA2
    go_enter Try.func23, Try.ntmps23
    go_wp2_with (go_at_call 27; rw [← HW2.out]; (with_reducible refine hcl.mono ?_); rintro e w3 ⟨v, rfl, ho, hb, _⟩; rw [HML.out] at ho; obtain ⟨av, cv', rfl, hcv⟩ := ownsRow_slice ho; have hb3 := HA2.out.later hb; have f3 := hb3.blk.frozen 2; have e3 := hb3.cell.2.2.1; have HB := hid hb; have HO4 := hid ho; have HB3 := hid hb3; have HCV := hid hcv; clear ho hb hb3 hcv)
    refine ret0 rfl rfl ?_
    refine ⟨rfl, ⟨_, _, _, ((HB3.out.wide fun x hx => .inl hx).masked M (.slice av mn cv') ?_)⟩, (HO3.out.later HB.out).setCell (.inl (.inl rfl)) _ _⟩
    have ho := HO4.out
    have hcv := HCV.out
    rw [HMN.out] at ho hcv
    have hrd := Reads.own (k := .u32) (xs := M.take F.long) (by rw [← HTK.out, HMN.out]; exact ho)
    refine ⟨av, cv', by rw [HMN.out], hcv, hrd, ?_⟩
    by_cases hz : min M.length F.long = 0
    · exact .inl hz
    · right
      obtain ⟨g, c, hv, hg, _⟩ := ownsRow_form ho (by omega)
      cases hv
      have hs : w.heap.size ≤ g := Nat.le_trans HO3.out.size hg
      refine ⟨_, rfl, .inr hs, ?_⟩
      have := HA2.out.blk.lt
      have := HA2.out.ws.lt
      have := HA2.out.wn.lt
      rintro (e | e | e) <;> simp at e <;> omega
end Go.Proofs.Ytdpddcmbilipfaa.flash
