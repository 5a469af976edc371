/- An eye in the memory, and the contracts of its calls that read no varint: Bad, Left, End, next, number, Byte, Word. No condition. -/
import Derived.Test.YtbgbboldelpjbaaPenDone
namespace Go.Proofs.Ytbgbboldelpjbaa.pen
open Go.RowKit Go.Proofs.Ytbgbboldelpjbaa.texts
set_option linter.unusedVariables false

/-- where a part of a slice from k on lies -/
def shift (a : Option Addr) (k cap : Nat) : Option Addr := if cap = k then a else a.map (·.add k)
theorem cut_from (W : World) (a : Option Addr) (len cap k : Nat) (h : k ≤ len) : (Instr.slice 25 (.slice a len cap) (some (.int .i64 (k : Int))) none none).run Try.prog W = .ok (.slice (shift a k cap) (len - k) (cap - k)) W := by
  rw [run_slice_l W 25 a len cap (by kernel_rfl) .i64 k (by omega) (by omega)]
  rw [show (sizeOf (Try.prog.elem 25)).run Try.prog W = .ok 1 W by kernel_rfl]
  simp [Result.andThen, sliced, shift]
theorem cut_to (W : World) (a : Option Addr) (len cap k : Nat) (h : k ≤ cap) : (Instr.slice 25 (.slice a len cap) none (some (.int .i64 (k : Int))) none).run Try.prog W = .ok (.slice (shift a 0 cap) k cap) W := by
  rw [run_slice_h W 25 a len cap (by kernel_rfl) .i64 k (by omega) (by omega)]
  rw [show (sizeOf (Try.prog.elem 25)).run Try.prog W = .ok 1 W by kernel_rfl]
  simp [Result.andThen, sliced, shift]
theorem cut_full (W : World) (a : Option Addr) (len cap k : Nat) (h : k ≤ cap) : (Instr.slice 25 (.slice a len cap) none (some (.int .i64 (k : Int))) (some (.int .i64 (k : Int)))).run Try.prog W = .ok (.slice (shift a 0 k) k k) W := by
  rw [run_slice_hm W 25 a len cap (by kernel_rfl) .i64 .i64 k k (by omega) (by omega) (by omega)]
  rw [show (sizeOf (Try.prog.elem 25)).run Try.prog W = .ok 1 W by kernel_rfl]
  simp [Result.andThen, sliced, shift]
theorem shift_block {a : Option Addr} {k cap b : Nat} (h : ∀ x, a = some x → x.block ≠ b) : ∀ x, shift a k cap = some x → x.block ≠ b := by
  intro x hx
  unfold shift at hx
  split at hx
  · exact h x hx
  · cases a with
    | none => cases hx
    | some y =>
      cases hx
      have := h y rfl
      unfold Addr.add
      split <;> exact this
theorem reads_shift {w : World} {a : Option Addr} {len cap k : Nat} {xs : List Nat} (h : Reads .u8 w a len xs) (hk : k ≤ len) (hc : len ≤ cap) : Reads .u8 w (shift a k cap) (len - k) (xs.drop k) := by
  refine ⟨by rw [List.length_drop, h.1], ?_⟩
  by_cases h0 : len - k = 0
  · exact .inl h0
  · obtain ⟨b, off, rfl, hb, hcell⟩ := h.at (i := 0) (by omega)
    refine .inr ⟨b, off + k, ?_, hb, fun i hi => ?_⟩
    · rw [shift, if_neg (by omega), Option.map_some, Addr.add_lit]
    · have := hcell (k + i) (by omega)
      rw [Nat.add_assoc, this, List.getD_eq_getElem?_getD, List.getD_eq_getElem?_getD, List.getElem?_drop]
theorem reads_take {w : World} {a : Option Addr} {len cap k : Nat} {xs : List Nat} (h : Reads .u8 w a len xs) (hk : k ≤ len) : Reads .u8 w (shift a 0 cap) k (xs.take k) := by
  refine ⟨by rw [List.length_take, h.1]; omega, ?_⟩
  by_cases h0 : k = 0
  · exact .inl h0
  · obtain ⟨b, off, rfl, hb, hcell⟩ := h.at (i := 0) (by omega)
    refine .inr ⟨b, off, ?_, hb, fun i hi => ?_⟩
    · unfold shift; split <;> rfl
    · have := hcell i (by omega)
      rw [this, List.getD_eq_getElem?_getD, List.getD_eq_getElem?_getD, List.getElem?_take, if_pos hi]
theorem reads_but {w w' : World} {a : Option Addr} {len b : Nat} {xs : List Nat} (h : Reads .u8 w a len xs) (hb : But w.heap.size b w w') (ha : ∀ x, a = some x → x.block ≠ b) : Reads .u8 w' a len xs := by
  by_cases h0 : len = 0
  · exact ⟨h.1, .inl h0⟩
  · obtain ⟨g, off, rfl, hg, _⟩ := h.at (i := 0) (by omega)
    exact Reads.but h hb hg (ha _ rfl)

/-- the eye at block b, a struct of type t -/
def EyeAt (t : TypeId) (b : Nat) (s : Sight) (w : World) : Prop :=
  (∀ c ∈ s.1, c < 256) ∧ s.1.length ≤ 140737488355328 ∧ ∃ a cap, Block w b t [.slice a s.1.length cap, .int .i64 (s.2 : Int)] ∧ s.1.length ≤ cap ∧ Reads .u8 w a s.1.length s.1 ∧ ∀ x, a = some x → x.block ≠ b
theorem EyeAt.lt {t : TypeId} {b : Nat} {s : Sight} {w : World} (h : EyeAt t b s w) : b < w.heap.size := by
  obtain ⟨_, _, a, c, hb, _⟩ := h; exact hb.lt
theorem EyeAt.later {t : TypeId} {b : Nat} {s : Sight} {w w' : World} (h : EyeAt t b s w) (hb : Below w.heap.size w w') : EyeAt t b s w' := by
  obtain ⟨h1, h2, a, c, h3, h4, h5, h6⟩ := h
  exact ⟨h1, h2, a, c, h3.later hb, h4, h5.below hb, h6⟩
theorem EyeAt.fail {t : TypeId} {b : Nat} {s : Sight} {w : World} (h : EyeAt t b s w) (z : Nat) : EyeAt t b (s.1, z) (w.setCell ⟨b, 1, none⟩ (.int .i64 (z : Int))) ∧ But w.heap.size b w (w.setCell ⟨b, 1, none⟩ (.int .i64 (z : Int))) := by
  obtain ⟨h1, h2, a, c, h3, h4, h5, h6⟩ := h
  have hbut := (But.refl w.heap.size b w).setCell 1 (.int .i64 (z : Int))
  exact ⟨⟨h1, h2, a, c, h3.setCell 1 _, h4, reads_but h5 hbut h6, h6⟩, hbut⟩

/-- how a call on the eye ends: it returns v, the eye stands at s -/
def Saw (t : TypeId) (b : Nat) (v : Value) (s : Sight) (w : World) (e : Ending) (w' : World) : Prop := e = .returned v ∧ EyeAt t b s w' ∧ But w.heap.size b w w'

theorem bad_any (b : Nat) (s : Sight) (w : World) (h : EyeAt 62 b s w) : Calls Try.prog 24 #[.pointer (some ⟨b, 0, none⟩)] w (Quiet (.int .i64 (s.2 : Int)) w) := by
  obtain ⟨_, _, a, c, hb, _, _, _⟩ := h
  have c1 : w.cell? ⟨b, 1, none⟩ = some (.int .i64 (s.2 : Int)) := by rw [hb.cell]; rfl
  clear hb
  go_enter Try.func24, Try.ntmps24
  go_wp2
  go_ret
  exact ⟨rfl, 0, rfl⟩
theorem bad_nil (w : World) : Calls Try.prog 24 #[.pointer none] w (Quiet (.int .i64 1) w) := by
  go_enter Try.func24, Try.ntmps24
  go_wp2
  go_ret
  exact ⟨rfl, 0, rfl⟩
theorem left_any (b : Nat) (s : Sight) (w : World) (h : EyeAt 62 b s w) : Calls Try.prog 23 #[.pointer (some ⟨b, 0, none⟩)] w (Quiet (.int .i64 (s.1.length : Int)) w) := by
  obtain ⟨_, _, a, c, hb, _, _, _⟩ := h
  have c1 : w.cell? ⟨b, 0, none⟩ = some (.slice a s.1.length c) := by rw [hb.cell]; rfl
  clear hb
  go_enter Try.func23, Try.ntmps23
  go_wp2
  go_ret
  exact ⟨rfl, 0, rfl⟩
theorem left_nil (w : World) : Calls Try.prog 23 #[.pointer none] w (Quiet (.int .i64 0) w) := by
  go_enter Try.func23, Try.ntmps23
  go_wp2
  go_ret
  exact ⟨rfl, 0, rfl⟩
theorem end_nil (w : World) : Calls Try.prog 25 #[.pointer none] w (Quiet (.int .i64 1) w) := by
  have c1 : ∀ n, Calls Try.prog 24 #[.pointer none] (w.drewN n) (Quiet (.int .i64 1) (w.drewN n)) := fun n => bad_nil _
  go_enter Try.func25, Try.ntmps25
  go_wp2_with (go_at_call 24; (with_reducible refine (bad_nil _).mono ?_); rintro e w' ⟨rfl, m, rfl⟩)
  go_ret
  exact ⟨rfl, _, by repeat (first | rfl | rw [World.drewN_drewN])⟩
theorem end_any (b : Nat) (s : Sight) (w : World) (h : EyeAt 62 b s w) : Calls Try.prog 25 #[.pointer (some ⟨b, 0, none⟩)] w (Quiet (.int .i64 (eEnd s : Int)) w) := by
  have HE := hid h
  have c1 : ∀ n, Calls Try.prog 24 #[.pointer (some ⟨b, 0, none⟩)] (w.drewN n) (Quiet (.int .i64 (s.2 : Int)) (w.drewN n)) := fun n => bad_any b s _ HE.out
  have c2 : ∀ n, Calls Try.prog 23 #[.pointer (some ⟨b, 0, none⟩)] (w.drewN n) (Quiet (.int .i64 (s.1.length : Int)) (w.drewN n)) := fun n => left_any b s _ HE.out
  have c0 := bad_any b s w h
  obtain ⟨E, hE⟩ : ∃ E, Hid (eEnd s = E) := ⟨_, rfl⟩
  rw [hE.out]
  have hlen := h.2.1
  clear h
  by_cases hs : s.2 = 0
  · have hi : ((s.2 : Int) == 0) = true := by rw [hs]; rfl
    by_cases hl : 0 < s.1.length
    · have hj : (0 : Int) < s.1.length := by omega
      have HV : Hid (E = 6) := by show _ = _; rw [← hE.out, eEnd, if_pos ⟨hs, hl⟩]
      clear hs
      go_enter Try.func25, Try.ntmps25
      go_wp2_with (first
        | (go_at_call 24; (with_reducible refine c0.mono ?_); rintro e w' ⟨rfl, m, rfl⟩)
        | (go_at_call 24; (with_reducible refine (c1 _).mono ?_); rintro e w' ⟨rfl, m1, rfl⟩)
        | (go_at_call 23; (with_reducible refine (c2 _).mono ?_); rintro e w' ⟨rfl, m2, rfl⟩))
      go_ret
      rw [HV.out]
      exact ⟨rfl, _, by repeat (first | rfl | rw [World.drewN_drewN])⟩
    · have hj : ¬ (0 : Int) < s.1.length := by omega
      have HV : Hid (E = s.2) := by show _ = _; rw [← hE.out, eEnd, if_neg (by omega)]
      clear hs
      go_enter Try.func25, Try.ntmps25
      go_wp2_with (first
        | (go_at_call 24; (with_reducible refine c0.mono ?_); rintro e w' ⟨rfl, m, rfl⟩)
        | (go_at_call 24; (with_reducible refine (c1 _).mono ?_); rintro e w' ⟨rfl, m1, rfl⟩)
        | (go_at_call 23; (with_reducible refine (c2 _).mono ?_); rintro e w' ⟨rfl, m2, rfl⟩))
      go_ret
      rw [HV.out]
      exact ⟨rfl, _, by repeat (first | rfl | rw [World.drewN_drewN])⟩
  · have hi : ((s.2 : Int) == 0) = false := by rw [beq_eq_false_iff_ne]; omega
    have HV : Hid (E = s.2) := by show _ = _; rw [← hE.out, eEnd, if_neg (by omega)]
    clear hs
    go_enter Try.func25, Try.ntmps25
    go_wp2_with (first
      | (go_at_call 24; (with_reducible refine c0.mono ?_); rintro e w' ⟨rfl, m, rfl⟩)
      | (go_at_call 24; (with_reducible refine (c1 _).mono ?_); rintro e w' ⟨rfl, m1, rfl⟩))
    go_ret
    rw [HV.out]
    exact ⟨rfl, _, by repeat (first | rfl | rw [World.drewN_drewN])⟩
end Go.Proofs.Ytbgbboldelpjbaa.pen
