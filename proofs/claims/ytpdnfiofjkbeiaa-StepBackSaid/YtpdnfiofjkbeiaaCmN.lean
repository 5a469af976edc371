/- Contracts and lemmas that the claims of this seat share: PenEye, PenNext, PenLow, PenFirst, PenVar, PenLook, FieldRow, SchemaEye, EyeHelp. Each says its own conditions. -/
import Derived.Test.YtpdnfiofjkbeiaaCmE
import Derived.Laws.BitsAllLaws
import Derived.Laws.Bits64b
import Derived.Test.YtpdnfiofjkbeiaaCmA
import Derived.Maps.AppendAt
import Derived.Laws.Cover3
import Derived.Test.YtpdnfiofjkbeiaaCmB
import Derived.Test.YtpdnfiofjkbeiaaCmD
/- An eye in the memory, and the contracts of its calls that read no varint: Bad, Left, End, next, number, Byte, Word. No condition. -/
namespace Go.Proofs.Ytpdnfiofjkbeiaa.pen
open Go.RowKit Go.Proofs.Ytpdnfiofjkbeiaa.texts
set_option linter.unusedVariables false

/-- where a part of a slice from k on lies -/
def shift (a : Option Addr) (k cap : Nat) : Option Addr := if cap = k then a else a.map (·.add k)
theorem cut_from (W : World) (a : Option Addr) (len cap k : Nat) (h : k ≤ len) : (Instr.slice 35 (.slice a len cap) (some (.int .i64 (k : Int))) none none).run Try.prog W = .ok (.slice (shift a k cap) (len - k) (cap - k)) W := by
  rw [run_slice_l W 35 a len cap (by kernel_rfl) .i64 k (by omega) (by omega)]
  rw [show (sizeOf (Try.prog.elem 35)).run Try.prog W = .ok 1 W by kernel_rfl]
  simp [Result.andThen, sliced, shift]
theorem cut_to (W : World) (a : Option Addr) (len cap k : Nat) (h : k ≤ cap) : (Instr.slice 35 (.slice a len cap) none (some (.int .i64 (k : Int))) none).run Try.prog W = .ok (.slice (shift a 0 cap) k cap) W := by
  rw [run_slice_h W 35 a len cap (by kernel_rfl) .i64 k (by omega) (by omega)]
  rw [show (sizeOf (Try.prog.elem 35)).run Try.prog W = .ok 1 W by kernel_rfl]
  simp [Result.andThen, sliced, shift]
theorem cut_full (W : World) (a : Option Addr) (len cap k : Nat) (h : k ≤ cap) : (Instr.slice 35 (.slice a len cap) none (some (.int .i64 (k : Int))) (some (.int .i64 (k : Int)))).run Try.prog W = .ok (.slice (shift a 0 k) k k) W := by
  rw [run_slice_hm W 35 a len cap (by kernel_rfl) .i64 .i64 k k (by omega) (by omega) (by omega)]
  rw [show (sizeOf (Try.prog.elem 35)).run Try.prog W = .ok 1 W by kernel_rfl]
  simp [Result.andThen, sliced, shift]
theorem shift_block {a : Option Addr} {k cap b : Nat} (h : ∀ x, a = some x → x.block ≠ b) : ∀ x, shift a k cap = some x → x.block ≠ b := by
  intro x hx
  unfold shift at hx
  split at hx
  · exact h x hx
  · cases a with
    | none => cases hx
    | some y =>
      cases hx
      have := h y rfl
      unfold Addr.add
      split <;> exact this
theorem shift_low {a : Option Addr} {k cap b n m : Nat} (h : 0 < n → ∀ x, a = some x → x.block < b) (hm : m ≤ n) : 0 < m → ∀ x, shift a k cap = some x → x.block < b := by
  intro h0 x hx
  have h := h (Nat.lt_of_lt_of_le h0 hm)
  unfold shift at hx
  split at hx
  · exact h x hx
  · cases a with
    | none => cases hx
    | some y =>
      cases hx
      have := h y rfl
      unfold Addr.add
      split <;> exact this
theorem reads_shift {w : World} {a : Option Addr} {len cap k : Nat} {xs : List Nat} (h : Reads .u8 w a len xs) (hk : k ≤ len) (hc : len ≤ cap) : Reads .u8 w (shift a k cap) (len - k) (xs.drop k) := by
  refine ⟨by rw [List.length_drop, h.1], ?_⟩
  by_cases h0 : len - k = 0
  · exact .inl h0
  · obtain ⟨b, off, rfl, hb, hcell⟩ := h.at (i := 0) (by omega)
    refine .inr ⟨b, off + k, ?_, hb, fun i hi => ?_⟩
    · rw [shift, if_neg (by omega), Option.map_some, Addr.add_lit]
    · have := hcell (k + i) (by omega)
      rw [Nat.add_assoc, this, List.getD_eq_getElem?_getD, List.getD_eq_getElem?_getD, List.getElem?_drop]
theorem reads_take {w : World} {a : Option Addr} {len cap k : Nat} {xs : List Nat} (h : Reads .u8 w a len xs) (hk : k ≤ len) : Reads .u8 w (shift a 0 cap) k (xs.take k) := by
  refine ⟨by rw [List.length_take, h.1]; omega, ?_⟩
  by_cases h0 : k = 0
  · exact .inl h0
  · obtain ⟨b, off, rfl, hb, hcell⟩ := h.at (i := 0) (by omega)
    refine .inr ⟨b, off, ?_, hb, fun i hi => ?_⟩
    · unfold shift; split <;> rfl
    · have := hcell i (by omega)
      rw [this, List.getD_eq_getElem?_getD, List.getD_eq_getElem?_getD, List.getElem?_take, if_pos hi]
theorem reads_but {w w' : World} {a : Option Addr} {len b : Nat} {xs : List Nat} (h : Reads .u8 w a len xs) (hb : But w.heap.size b w w') (ha : ∀ x, a = some x → x.block ≠ b) : Reads .u8 w' a len xs := by
  by_cases h0 : len = 0
  · exact ⟨h.1, .inl h0⟩
  · obtain ⟨g, off, rfl, hg, _⟩ := h.at (i := 0) (by omega)
    exact Reads.but h hb hg (ha _ rfl)

theorem reads_low {w w' : World} {a : Option Addr} {len b : Nat} {xs : List Nat} (h : Reads .u8 w a len xs) (hb : But w.heap.size b w w') (ha : 0 < len → ∀ x, a = some x → x.block < b) : Reads .u8 w' a len xs := by
  by_cases h0 : len = 0
  · exact ⟨h.1, .inl h0⟩
  · exact reads_but h hb fun x hx => Nat.ne_of_lt (ha (by omega) x hx)

/-- the eye at block b, a struct of type t -/
def EyeAt (t : TypeId) (b : Nat) (s : Sight) (w : World) : Prop :=
  (∀ c ∈ s.1, c < 256) ∧ s.1.length ≤ 140737488355328 ∧ ∃ a cap, Block w b t [.slice a s.1.length cap, .int .i64 (s.2 : Int)] ∧ s.1.length ≤ cap ∧ Reads .u8 w a s.1.length s.1 ∧ (0 < s.1.length → ∀ x, a = some x → x.block < b)
theorem EyeAt.lt {t : TypeId} {b : Nat} {s : Sight} {w : World} (h : EyeAt t b s w) : b < w.heap.size := by
  obtain ⟨_, _, a, c, hb, _⟩ := h; exact hb.lt
theorem EyeAt.later {t : TypeId} {b : Nat} {s : Sight} {w w' : World} (h : EyeAt t b s w) (hb : Below w.heap.size w w') : EyeAt t b s w' := by
  obtain ⟨h1, h2, a, c, h3, h4, h5, h6⟩ := h
  exact ⟨h1, h2, a, c, h3.later hb, h4, h5.below hb, h6⟩
theorem EyeAt.fail {t : TypeId} {b : Nat} {s : Sight} {w : World} (h : EyeAt t b s w) (z : Nat) : EyeAt t b (s.1, z) (w.setCell ⟨b, 1, none⟩ (.int .i64 (z : Int))) ∧ But w.heap.size b w (w.setCell ⟨b, 1, none⟩ (.int .i64 (z : Int))) := by
  obtain ⟨h1, h2, a, c, h3, h4, h5, h6⟩ := h
  have hbut := (But.refl w.heap.size b w).setCell 1 (.int .i64 (z : Int))
  exact ⟨⟨h1, h2, a, c, h3.setCell 1 _, h4, reads_low h5 hbut h6, h6⟩, hbut⟩

/-- how a call on the eye ends: it returns v, the eye stands at s -/
def Saw (t : TypeId) (b : Nat) (v : Value) (s : Sight) (w : World) (e : Ending) (w' : World) : Prop := e = .returned v ∧ EyeAt t b s w' ∧ But w.heap.size b w w'

theorem bad_any (b : Nat) (s : Sight) (w : World) (h : EyeAt 98 b s w) : Calls Try.prog 66 #[.pointer (some ⟨b, 0, none⟩)] w (Quiet (.int .i64 (s.2 : Int)) w) := by
  obtain ⟨_, _, a, c, hb, _, _, _⟩ := h
  have c1 : w.cell? ⟨b, 1, none⟩ = some (.int .i64 (s.2 : Int)) := by rw [hb.cell]; rfl
  clear hb
  go_enter Try.func66, Try.ntmps66
  go_wp2
  go_ret
  exact ⟨rfl, 0, rfl⟩
theorem bad_nil (w : World) : Calls Try.prog 66 #[.pointer none] w (Quiet (.int .i64 1) w) := by
  go_enter Try.func66, Try.ntmps66
  go_wp2
  go_ret
  exact ⟨rfl, 0, rfl⟩
theorem left_any (b : Nat) (s : Sight) (w : World) (h : EyeAt 98 b s w) : Calls Try.prog 67 #[.pointer (some ⟨b, 0, none⟩)] w (Quiet (.int .i64 (s.1.length : Int)) w) := by
  obtain ⟨_, _, a, c, hb, _, _, _⟩ := h
  have c1 : w.cell? ⟨b, 0, none⟩ = some (.slice a s.1.length c) := by rw [hb.cell]; rfl
  clear hb
  go_enter Try.func67, Try.ntmps67
  go_wp2
  go_ret
  exact ⟨rfl, 0, rfl⟩
theorem left_nil (w : World) : Calls Try.prog 67 #[.pointer none] w (Quiet (.int .i64 0) w) := by
  go_enter Try.func67, Try.ntmps67
  go_wp2
  go_ret
  exact ⟨rfl, 0, rfl⟩
theorem end_nil (w : World) : Calls Try.prog 42 #[.pointer none] w (Quiet (.int .i64 1) w) := by
  have c1 : ∀ n, Calls Try.prog 66 #[.pointer none] (w.drewN n) (Quiet (.int .i64 1) (w.drewN n)) := fun n => bad_nil _
  go_enter Try.func42, Try.ntmps42
  go_wp2_with (go_at_call 66; (with_reducible refine (bad_nil _).mono ?_); rintro e w' ⟨rfl, m, rfl⟩)
  go_ret
  exact ⟨rfl, _, by repeat (first | rfl | rw [World.drewN_drewN])⟩
theorem end_any (b : Nat) (s : Sight) (w : World) (h : EyeAt 98 b s w) : Calls Try.prog 42 #[.pointer (some ⟨b, 0, none⟩)] w (Quiet (.int .i64 (eEnd s : Int)) w) := by
  have HE := hid h
  have c1 : ∀ n, Calls Try.prog 66 #[.pointer (some ⟨b, 0, none⟩)] (w.drewN n) (Quiet (.int .i64 (s.2 : Int)) (w.drewN n)) := fun n => bad_any b s _ HE.out
  have c2 : ∀ n, Calls Try.prog 67 #[.pointer (some ⟨b, 0, none⟩)] (w.drewN n) (Quiet (.int .i64 (s.1.length : Int)) (w.drewN n)) := fun n => left_any b s _ HE.out
  have c0 := bad_any b s w h
  obtain ⟨E, hE⟩ : ∃ E, Hid (eEnd s = E) := ⟨_, rfl⟩
  rw [hE.out]
  have hlen := h.2.1
  clear h
  by_cases hs : s.2 = 0
  · have hi : ((s.2 : Int) == 0) = true := by rw [hs]; rfl
    by_cases hl : 0 < s.1.length
    · have hj : (0 : Int) < s.1.length := by omega
      have HV : Hid (E = 6) := by show _ = _; rw [← hE.out, eEnd, if_pos ⟨hs, hl⟩]
      clear hs
      go_enter Try.func42, Try.ntmps42
      go_wp2_with (first
        | (go_at_call 66; (with_reducible refine c0.mono ?_); rintro e w' ⟨rfl, m, rfl⟩)
        | (go_at_call 66; (with_reducible refine (c1 _).mono ?_); rintro e w' ⟨rfl, m1, rfl⟩)
        | (go_at_call 67; (with_reducible refine (c2 _).mono ?_); rintro e w' ⟨rfl, m2, rfl⟩))
      go_ret
      rw [HV.out]
      exact ⟨rfl, _, by repeat (first | rfl | rw [World.drewN_drewN])⟩
    · have hj : ¬ (0 : Int) < s.1.length := by omega
      have HV : Hid (E = s.2) := by show _ = _; rw [← hE.out, eEnd, if_neg (by omega)]
      clear hs
      go_enter Try.func42, Try.ntmps42
      go_wp2_with (first
        | (go_at_call 66; (with_reducible refine c0.mono ?_); rintro e w' ⟨rfl, m, rfl⟩)
        | (go_at_call 66; (with_reducible refine (c1 _).mono ?_); rintro e w' ⟨rfl, m1, rfl⟩)
        | (go_at_call 67; (with_reducible refine (c2 _).mono ?_); rintro e w' ⟨rfl, m2, rfl⟩))
      go_ret
      rw [HV.out]
      exact ⟨rfl, _, by repeat (first | rfl | rw [World.drewN_drewN])⟩
  · have hi : ((s.2 : Int) == 0) = false := by rw [beq_eq_false_iff_ne]; omega
    have HV : Hid (E = s.2) := by show _ = _; rw [← hE.out, eEnd, if_neg (by omega)]
    clear hs
    go_enter Try.func42, Try.ntmps42
    go_wp2_with (first
      | (go_at_call 66; (with_reducible refine c0.mono ?_); rintro e w' ⟨rfl, m, rfl⟩)
      | (go_at_call 66; (with_reducible refine (c1 _).mono ?_); rintro e w' ⟨rfl, m1, rfl⟩))
    go_ret
    rw [HV.out]
    exact ⟨rfl, _, by repeat (first | rfl | rw [World.drewN_drewN])⟩
end Go.Proofs.Ytpdnfiofjkbeiaa.pen
/- Contracts of the eye's calls next, number, Byte and Word. No condition. -/
namespace Go.Proofs.Ytpdnfiofjkbeiaa.pen
open Go.RowKit Go.Proofs.Ytpdnfiofjkbeiaa.texts
set_option linter.unusedVariables false

/-- what EyeAt says of the eye at s, part by part -/
structure Stand (t : TypeId) (b : Nat) (r : List Nat) (z : Nat) (w : World) (a : Option Addr) (c : Nat) : Prop where
  small : ∀ c ∈ r, c < 256
  len : r.length ≤ 140737488355328
  block : Block w b t [.slice a r.length c, .int .i64 (z : Int)]
  room : r.length ≤ c
  reads : Reads .u8 w a r.length r
  off : 0 < r.length → ∀ x, a = some x → x.block < b
theorem EyeAt.stand {t : TypeId} {b : Nat} {r : List Nat} {z : Nat} {w : World} (h : EyeAt t b (r, z) w) : ∃ a c, Stand t b r z w a c := by
  obtain ⟨h1, h2, a, c, h3, h4, h5, h6⟩ := h
  exact ⟨a, c, h1, h2, h3, h4, h5, h6⟩
theorem Stand.eye {t : TypeId} {b : Nat} {r : List Nat} {z : Nat} {w : World} {a : Option Addr} {c : Nat} (h : Stand t b r z w a c) : EyeAt t b (r, z) w :=
  ⟨h.small, h.len, a, c, h.block, h.room, h.reads, h.off⟩
theorem Stand.rest {t : TypeId} {b : Nat} {r : List Nat} {z : Nat} {w : World} {a : Option Addr} {c : Nat} (h : Stand t b r z w a c) : w.cell? ⟨b, 0, none⟩ = some (.slice a r.length c) := by rw [h.block.cell]; rfl
theorem Stand.err {t : TypeId} {b : Nat} {r : List Nat} {z : Nat} {w : World} {a : Option Addr} {c : Nat} (h : Stand t b r z w a c) : w.cell? ⟨b, 1, none⟩ = some (.int .i64 (z : Int)) := by rw [h.block.cell]; rfl
theorem Stand.drewN {t : TypeId} {b : Nat} {r : List Nat} {z : Nat} {w : World} {a : Option Addr} {c : Nat} (h : Stand t b r z w a c) (m : Nat) : Stand t b r z (w.drewN m) a c :=
  ⟨h.small, h.len, h.block, h.room, h.reads.drewN m, h.off⟩
theorem Stand.cut {t : TypeId} {b : Nat} {r : List Nat} {z : Nat} {w : World} {a : Option Addr} {c : Nat} (h : Stand t b r z w a c) (n : Nat) (hn : n ≤ r.length) :
    EyeAt t b (r.drop n, z) (w.setCell ⟨b, 0, none⟩ (.slice (shift a n c) (r.length - n) (c - n))) ∧ But w.heap.size b w (w.setCell ⟨b, 0, none⟩ (.slice (shift a n c) (r.length - n) (c - n))) := by
  have hbut := (But.refl w.heap.size b w).setCell 0 (.slice (shift a n c) (r.length - n) (c - n))
  refine ⟨⟨fun x hx => h.small x (List.mem_of_mem_drop hx), ?_, shift a n c, c - n, ?_, ?_, ?_, shift_low h.off (by simp)⟩, hbut⟩
  · show (r.drop n).length ≤ _
    rw [List.length_drop]; have := h.len; omega
  · show Block _ b t [.slice _ (r.drop n).length _, _]
    rw [List.length_drop]; exact h.block.setCell 0 _
  · show (r.drop n).length ≤ _
    rw [List.length_drop]; have := h.room; omega
  · show Reads .u8 _ _ (r.drop n).length (r.drop n)
    rw [List.length_drop]
    exact reads_low (reads_shift h.reads hn h.room) hbut (shift_low h.off (by omega))

/-- the call takes the bytes r, the eye then stands at s -/
def Took (t : TypeId) (b : Nat) (r : List Nat) (s : Sight) (w : World) (e : Ending) (w' : World) : Prop :=
  ∃ a c, e = .returned (.slice a r.length c) ∧ r.length ≤ c ∧ Reads .u8 w' a r.length r ∧ EyeAt t b s w' ∧ But w.heap.size b w w'
theorem Stand.took {t : TypeId} {b : Nat} {r : List Nat} {w : World} {a : Option Addr} {c : Nat} (h : Stand t b r 0 w a c) (n : Nat) (hn : n ≤ r.length) (k : Nat) (hk : n ≤ k) (m : Nat) (w0 : World) (hw : w = w0.drewN m) :
    Took t b (r.take n) (r.drop n, 0) w0 (.returned (.slice (shift a 0 k) n k)) (w.setCell ⟨b, 0, none⟩ (.slice (shift a n c) (r.length - n) (c - n))) := by
  subst hw
  obtain ⟨h1, h2⟩ := h.cut n hn
  have hl : (r.take n).length = n := by rw [List.length_take]; omega
  refine ⟨_, k, by rw [hl], by omega, ?_, h1, h2⟩
  rw [hl]
  exact reads_low (reads_take h.reads hn) h2 (shift_low h.off hn)
theorem eNext_bad (n : Nat) (r : List Nat) (z : Nat) (h : z ≠ 0) : eNext n (r, z) = ([], (r, z)) := by unfold eNext; exact if_pos h
theorem eNext_short (n : Nat) (r : List Nat) (h : r.length < n) : eNext n (r, 0) = ([], (r, 5)) := by unfold eNext; rw [if_neg (by simp)]; exact if_pos h
theorem eNext_take (n : Nat) (r : List Nat) (h : n ≤ r.length) : eNext n (r, 0) = (r.take n, (r.drop n, 0)) := by unfold eNext; rw [if_neg (by simp)]; exact if_neg (by show ¬ r.length < n; omega)
theorem But.drew {B g : Nat} {w : World} (m : Nat) : But B g w (w.drewN m) := But.refl B g w

theorem next_any (b : Nat) (s : Sight) (w : World) (h : EyeAt 98 b s w) (n : Nat) (hn : n ≤ 9223372036854775807) :
    Calls Try.prog 83 #[.pointer (some ⟨b, 0, none⟩), .int .i64 (n : Int)] w (Took 98 b (eNext n s).1 (eNext n s).2 w) := by
  obtain ⟨r, z⟩ := s
  have c0 := bad_any b (r, z) w h
  simp only at c0
  have HE := hid h
  obtain ⟨a, c, st⟩ := h.stand
  clear h
  by_cases hz : z = 0
  · subst hz
    have hlen := st.len
    have c1 : ∀ m, (w.drewN m).cell? ⟨b, 0, none⟩ = some (.slice a r.length c) := fun m => (st.drewN m).rest
    have c2 : ∀ m, (w.drewN m).cell? ⟨b, 1, none⟩ = some (.int .i64 0) := fun m => (st.drewN m).err
    have f0 : ∀ m, (w.drewN m).frozen? ⟨b, 0, none⟩ = false := fun m => (st.drewN m).block.frozen 0
    have f1 : ∀ m, (w.drewN m).frozen? ⟨b, 1, none⟩ = false := fun m => (st.drewN m).block.frozen 1
    by_cases hs : r.length < n
    · rw [eNext_short n r hs]
      have hi : (r.length : Int) < n := by omega
      clear st hs
      rw [show ((0 : Nat) : Int) = 0 from rfl] at c0
      go_enter Try.func83, Try.ntmps83
      go_wp2_with (go_at_call 66; (with_reducible refine c0.mono ?_); rintro e w' ⟨rfl, m, rfl⟩)
      go_ret
      have hf := (HE.out.later (below_drewN (Below.refl _ _) m)).fail 5
      exact ⟨none, 0, rfl, Nat.le_refl _, Reads.nil, hf.1, hf.2⟩
    · rw [eNext_take n r (by omega)]
      have hi : ¬ (r.length : Int) < n := by omega
      have hroom := st.room
      have e1 := fun W => cut_full W a r.length c n (by omega)
      have e2 := fun W => cut_from W a r.length c n (by omega)
      have ST := hid st
      have HR : Hid (n ≤ r.length) := by show _ ≤ _; omega
      have HT := hid (fun m => (ST.out.drewN m).took n HR.out n (Nat.le_refl _) m w rfl)
      obtain ⟨A1, hA1⟩ : ∃ A, Hid (shift a 0 n = A) := ⟨_, rfl⟩
      obtain ⟨A2, hA2⟩ : ∃ A, Hid (shift a n c = A) := ⟨_, rfl⟩
      rw [hA1.out] at e1 HT
      rw [hA2.out] at e2 HT
      clear st hs
      rw [show ((0 : Nat) : Int) = 0 from rfl] at c0
      go_enter Try.func83, Try.ntmps83
      go_wp2_with (go_at_call 66; (with_reducible refine c0.mono ?_); rintro e w' ⟨rfl, m, rfl⟩)
      go_ret
      exact HT.out m
  · rw [eNext_bad n r z hz]
    have hi : ((z : Int) != 0) = true := by rw [bne_iff_ne]; omega
    clear st hz
    go_enter Try.func83, Try.ntmps83
    go_wp2_with (go_at_call 66; (with_reducible refine c0.mono ?_); rintro e w' ⟨rfl, m, rfl⟩)
    go_ret
    exact ⟨none, 0, rfl, Nat.le_refl _, Reads.nil, HE.out.later (below_drewN (Below.refl _ _) m), But.drew m⟩
theorem next_nil (n : Int) (w : World) : Calls Try.prog 83 #[.pointer none, .int .i64 n] w (Quiet (.slice none 0 0) w) := by
  go_enter Try.func83, Try.ntmps83
  go_wp2_with (go_at_call 66; (with_reducible refine (bad_nil _).mono ?_); rintro e w' ⟨rfl, m, rfl⟩)
  go_ret
  exact ⟨rfl, _, rfl⟩
end Go.Proofs.Ytpdnfiofjkbeiaa.pen
/- Numbers of bytes. No condition. -/
namespace Go.Proofs.Ytpdnfiofjkbeiaa.pen
open Go.RowKit Go.Proofs.Ytpdnfiofjkbeiaa.texts
set_option linter.unusedVariables false

theorem take_snoc (l : List Nat) (k : Nat) (h : k < l.length) : l.take (k + 1) = l.take k ++ [l.getD k 0] := by
  rw [List.take_add_one, List.getElem?_eq_getElem h, List.getD_eq_getElem?_getD, List.getElem?_eq_getElem h]; rfl
theorem getD_lt {l : List Nat} (h : ∀ c ∈ l, c < 256) (k : Nat) : l.getD k 0 < 256 := by
  rw [List.getD_eq_getElem?_getD]
  by_cases hk : k < l.length
  · rw [List.getElem?_eq_getElem hk]; exact h _ (List.getElem_mem hk)
  · rw [List.getElem?_eq_none (by omega)]; decide
theorem or_low32 (x c : Nat) (hx : x < 16777216) (hc : c < 256) : bits .or .u32 ((x : Int) * 256) (c : Int) = ((256 * x + c : Nat) : Int) := by
  rw [bits_join .u32 32 (by decide) (fun n h0 h1 => by rw [IntKind.wrap_u32]; omega) 8 ((x : Int) * 256) c (by omega) (by omega) (by omega) (by omega) (by omega) (by omega)]
  omega
end Go.Proofs.Ytpdnfiofjkbeiaa.pen
/- Contract of first: the number of the varint at the start of a row of bytes. No condition. -/
namespace Go.Proofs.Ytpdnfiofjkbeiaa.pen
open Go.RowKit Go.Proofs.Ytpdnfiofjkbeiaa.texts
set_option linter.unusedVariables false

theorem or_high (U C j : Nat) (hU : U < 2 ^ j) (h : C * 2 ^ j < 18446744073709551616) (h2 : U < 18446744073709551616) : bits .or .u64 (U : Int) ((C * 2 ^ j : Nat) : Int) = ((U + C * 2 ^ j : Nat) : Int) := by
  rw [bits_or_u64_nat U (C * 2 ^ j) h2 h, Nat.or_comm, Nat.mul_comm C, ← Nat.two_pow_add_eq_or_of_lt hU, Nat.add_comm]
theorem drop_next (l : List Nat) (k : Nat) (h : k < l.length) : l.drop k = l.getD k 0 :: l.drop (k + 1) := by
  rw [List.drop_eq_getElem_cons h, List.getD_eq_getElem?_getD, List.getElem?_eq_getElem h]; rfl
theorem or_shift (U e k : Nat) (z : Int) (hz : z = (e : Int)) (hU : U < 2 ^ (7 * k)) (h : e * 2 ^ (7 * k) < 18446744073709551616) (h2 : U < 18446744073709551616) :
    bits .or .u64 (U : Int) (IntKind.u64.wrap (z * 2 ^ (7 * k))) = ((U + e * 2 ^ (7 * k) : Nat) : Int) := by
  subst hz
  have e1 : (e : Int) * 2 ^ (7 * k) = ((e * 2 ^ (7 * k) : Nat) : Int) := by simp
  have e2 : IntKind.u64.wrap (((e * 2 ^ (7 * k) : Nat) : Int)) = ((e * 2 ^ (7 * k) : Nat) : Int) := by
    generalize e * 2 ^ (7 * k) = q at *
    simp [IntKind.wrap, IntKind.bits, IntKind.signed]; omega
  rw [e1, e2]
  exact or_high U e (7 * k) hU h h2
theorem grp_form (i u c : Nat) (r : List Nat) : grp i u (c :: r) = if i = 9 ∧ 1 < c then (0, 0, 4) else if 0 < i ∧ c = 0 then (0, 0, 4) else if c < 128 then (u + c * 128 ^ i, i + 1, 0) else grp (i + 1) (u + (c - 128) * 128 ^ i) r := rfl
def grpV (g : Nat × Nat × Nat) : Value := .tuple #[.int .u64 (g.1 : Int), .int .i64 (g.2.1 : Int), .int .i64 (g.2.2 : Int)]

set_option maxRecDepth 8000 in
theorem first_any (a : Option Addr) (c : Nat) (xs : List Nat) (w : World) (hr : Reads .u8 w a xs.length xs) (hc : xs.length ≤ c) (hx : ∀ c ∈ xs, c < 256) (hl : xs.length ≤ 140737488355328) :
    Calls Try.prog 82 #[.slice a xs.length c] w (Quiet (grpV (grp 0 0 xs)) w) := by
  have HR := hid hr
  clear hr
  obtain ⟨G, hG⟩ : ∃ G, Hid (grp 0 0 xs = G) := ⟨_, rfl⟩
  rw [hG.out]
  have HD : Hid (grp 0 0 (xs.drop 0) = G) := hG.out
  by_cases h10 : xs.length ≤ 10
  · have hi10 : (xs.length : Int) ≤ 10 := by omega
    go_enter Try.func82, Try.ntmps82
    go_wp2
    go_loopw [5, 14] (fun x i wr => ∃ k U : Nat, k ≤ xs.length ∧ k ≤ 9 ∧ i = .int .i64 (k : Int) ∧ x = .int .u64 (U : Int) ∧ U < 2 ^ (7 * k) ∧ wr = w ∧ Hid (grp k U (xs.drop k) = G))
      (fun x i _ => xs.length - (intOf i).toNat)
    case atStart => exact ⟨0, 0, Nat.zero_le _, by omega, rfl, rfl, by simp, rfl, HD⟩
    case round =>
      obtain ⟨k, U, hkN, hk9, rfl, rfl, hU, rfl, hg⟩ := hrel
      by_cases hlt : k < xs.length
      · have hi : (k : Int) < xs.length := by omega
        have hkl : k < xs.length := by omega
        obtain ⟨g, off, rfl, hgb, hcell⟩ := HR.out.at hkl
        have hcl := hcell k hkl
        have h256 := getD_lt hx k
        have hg2 := hg.out
        rw [drop_next xs k hkl, grp_form] at hg2
        have HG := hid hg2
        obtain ⟨C, hC⟩ : ∃ C, Hid (xs.getD k 0 = C) := ⟨_, rfl⟩
        rw [hC.out] at hcl h256 HG
        have hD : Hid (xs.drop (k + 1) = xs.drop (k + 1)) := rfl
        clear hcell hg hg2 HR hC
        have p9 : (128 : Nat) ^ k = 2 ^ (7 * k) := by rw [show (128 : Nat) = 2 ^ 7 from rfl, ← Nat.pow_mul]
        rw [p9] at HG
        have hp63 : 2 ^ (7 * k) ≤ 2 ^ 63 := Nat.pow_le_pow_right (by omega) (by omega)
        have hU64 : U < 18446744073709551616 := by omega
        by_cases h9 : k = 9
        · have q1 : ((k : Int) == 9) = true := by rw [beq_iff_eq]; omega
          have q3 : (0 : Int) < k := by omega
          by_cases h1 : 1 < C
          · have q2 : (1 : Int) < C := by omega
            have HV : Hid (G = (0, 0, 4)) := by show _ = _; rw [← HG.out, if_pos ⟨h9, h1⟩]
            clear h9 h1 p9 hp63 HG hD hkl hlt hU
            go_wp2
            go_ret3
            exact ⟨by rw [HV.out]; rfl, 0, rfl⟩
          · have q2 : ¬ (1 : Int) < C := by omega
            by_cases h0 : C = 0
            · have q4 : ((C : Int) == 0) = true := by rw [beq_iff_eq]; omega
              have HV : Hid (G = (0, 0, 4)) := by show _ = _; rw [← HG.out, if_neg (by omega), if_pos (by omega)]
              clear h9 h1 p9 hp63 HG hD hkl hlt h0 hU
              go_wp2
              go_ret3
              exact ⟨by rw [HV.out]; rfl, 0, rfl⟩
            · have q4 : ((C : Int) == 0) = false := by rw [beq_eq_false_iff_ne]; omega
              have q5 : (C : Int) < 128 := by omega
              have HV : Hid (G = (U + C * 2 ^ (7 * k), k + 1, 0)) := by show _ = _; rw [← HG.out, if_neg (by omega), if_neg (by omega), if_pos (by omega)]
              have hm : C * 2 ^ (7 * k) ≤ 1 * 2 ^ (7 * k) := Nat.mul_le_mul_right _ (by omega)
              have HO := hid (or_shift U C k C rfl hU (by omega) hU64)
              clear h9 h1 p9 HG hD hkl hlt h0 hm hp63 hU
              go_wp2
              go_ret3
              have ho := HO.out
              exact ⟨by rw [HV.out, grpV, ← ho]; rfl, 0, rfl⟩
        · have q1 : ((k : Int) == 9) = false := by rw [beq_eq_false_iff_ne]; omega
          have hp56 : 2 ^ (7 * k) ≤ 2 ^ 56 := Nat.pow_le_pow_right (by omega) (by omega)
          by_cases hB : 0 < k ∧ C = 0
          · have q3 : (0 : Int) < k := by omega
            have q4 : ((C : Int) == 0) = true := by rw [beq_iff_eq]; omega
            have HV : Hid (G = (0, 0, 4)) := by show _ = _; rw [← HG.out, if_neg (by omega), if_pos hB]
            clear h9 p9 hp63 HG hD hkl hlt hU hB hp56
            go_wp2
            go_ret3
            exact ⟨by rw [HV.out]; rfl, 0, rfl⟩
          · by_cases h128 : C < 128
            · have q5 : (C : Int) < 128 := by omega
              have HV : Hid (G = (U + C * 2 ^ (7 * k), k + 1, 0)) := by show _ = _; rw [← HG.out, if_neg (by omega), if_neg hB, if_pos h128]
              have hm : C * 2 ^ (7 * k) ≤ 128 * 2 ^ (7 * k) := Nat.mul_le_mul_right _ (by omega)
              have HO := hid (or_shift U C k C rfl hU (by omega) hU64)
              by_cases h0 : 0 < k
              · have q3 : (0 : Int) < k := by omega
                have q4 : ((C : Int) == 0) = false := by rw [beq_eq_false_iff_ne]; omega
                clear h9 p9 hp63 HG hD hkl hlt hU hB hp56 h128 hm h0
                go_wp2
                go_ret3
                have ho := HO.out
                exact ⟨by rw [HV.out, grpV, ← ho]; rfl, 0, rfl⟩
              · have q3 : ¬ (0 : Int) < k := by omega
                clear h9 p9 hp63 HG hD hkl hlt hU hB hp56 h128 hm h0
                go_wp2
                go_ret3
                have ho := HO.out
                exact ⟨by rw [HV.out, grpV, ← ho]; rfl, 0, rfl⟩
            · have q5 : ¬ (C : Int) < 128 := by omega
              have HV : Hid (grp (k + 1) (U + (C - 128) * 2 ^ (7 * k)) (xs.drop (k + 1)) = G) := by show _ = _; rw [← HG.out, if_neg (by omega), if_neg hB, if_neg h128]
              have hm : (C - 128) * 2 ^ (7 * k) ≤ 127 * 2 ^ (7 * k) := Nat.mul_le_mul_right _ (by omega)
              have HO := hid (or_shift U (C - 128) k ((C : Int) - 128) (by omega) hU (by omega) hU64)
              have HU' : Hid (U + (C - 128) * 2 ^ (7 * k) < 2 ^ (7 * (k + 1))) := by
                show _ < _
                rw [show 7 * (k + 1) = 7 * k + 7 by omega, Nat.pow_add]; omega
              have q4 : ((C : Int) == 0) = false := by rw [beq_eq_false_iff_ne]; omega
              have HK : Hid (k + 1 ≤ xs.length ∧ k + 1 ≤ 9) := ⟨by omega, by omega⟩
              by_cases h0 : 0 < k
              · have q3 : (0 : Int) < k := by omega
                clear h9 p9 hp63 HG hD hkl hU hB hp56 h128 hm h0
                go_wp2
                exact ⟨⟨k + 1, U + (C - 128) * 2 ^ (7 * k), HK.out.1, HK.out.2, by go_num, congrArg (Value.int .u64) HO.out, HU'.out, trivial, HV⟩, by simp [intOf]; omega⟩
              · have q3 : ¬ (0 : Int) < k := by omega
                clear h9 p9 hp63 HG hD hkl hU hB hp56 h128 hm h0
                go_wp2
                exact ⟨⟨k + 1, U + (C - 128) * 2 ^ (7 * k), HK.out.1, HK.out.2, by go_num, congrArg (Value.int .u64) HO.out, HU'.out, trivial, HV⟩, by simp [intOf]; omega⟩
      · have HV : Hid (G = (0, 0, 5)) := by
          have := hg.out
          rw [List.drop_of_length_le (by omega)] at this
          exact this.symm
        have hi : ¬ (k : Int) < xs.length := by omega
        clear hg
        go_wp2
        go_ret3
        exact ⟨by rw [HV.out]; rfl, 0, rfl⟩
  · have hi10 : (10 : Int) < xs.length := by omega
    go_enter Try.func82, Try.ntmps82
    go_wp2
    go_loopw [5, 14] (fun x i wr => ∃ k U : Nat, k ≤ 10 ∧ k ≤ 9 ∧ i = .int .i64 (k : Int) ∧ x = .int .u64 (U : Int) ∧ U < 2 ^ (7 * k) ∧ wr = w ∧ Hid (grp k U (xs.drop k) = G))
      (fun x i _ => 10 - (intOf i).toNat)
    case atStart => exact ⟨0, 0, Nat.zero_le _, by omega, rfl, rfl, by simp, rfl, HD⟩
    case round =>
      obtain ⟨k, U, hkN, hk9, rfl, rfl, hU, rfl, hg⟩ := hrel
      by_cases hlt : k < 10
      · have hi : (k : Int) < 10 := by omega
        have hkl : k < xs.length := by omega
        obtain ⟨g, off, rfl, hgb, hcell⟩ := HR.out.at hkl
        have hcl := hcell k hkl
        have h256 := getD_lt hx k
        have hg2 := hg.out
        rw [drop_next xs k hkl, grp_form] at hg2
        have HG := hid hg2
        obtain ⟨C, hC⟩ : ∃ C, Hid (xs.getD k 0 = C) := ⟨_, rfl⟩
        rw [hC.out] at hcl h256 HG
        have hD : Hid (xs.drop (k + 1) = xs.drop (k + 1)) := rfl
        clear hcell hg hg2 HR hC
        have p9 : (128 : Nat) ^ k = 2 ^ (7 * k) := by rw [show (128 : Nat) = 2 ^ 7 from rfl, ← Nat.pow_mul]
        rw [p9] at HG
        have hp63 : 2 ^ (7 * k) ≤ 2 ^ 63 := Nat.pow_le_pow_right (by omega) (by omega)
        have hU64 : U < 18446744073709551616 := by omega
        by_cases h9 : k = 9
        · have q1 : ((k : Int) == 9) = true := by rw [beq_iff_eq]; omega
          have q3 : (0 : Int) < k := by omega
          by_cases h1 : 1 < C
          · have q2 : (1 : Int) < C := by omega
            have HV : Hid (G = (0, 0, 4)) := by show _ = _; rw [← HG.out, if_pos ⟨h9, h1⟩]
            clear h9 h1 p9 hp63 HG hD hkl hlt hU
            go_wp2
            go_ret3
            exact ⟨by rw [HV.out]; rfl, 0, rfl⟩
          · have q2 : ¬ (1 : Int) < C := by omega
            by_cases h0 : C = 0
            · have q4 : ((C : Int) == 0) = true := by rw [beq_iff_eq]; omega
              have HV : Hid (G = (0, 0, 4)) := by show _ = _; rw [← HG.out, if_neg (by omega), if_pos (by omega)]
              clear h9 h1 p9 hp63 HG hD hkl hlt h0 hU
              go_wp2
              go_ret3
              exact ⟨by rw [HV.out]; rfl, 0, rfl⟩
            · have q4 : ((C : Int) == 0) = false := by rw [beq_eq_false_iff_ne]; omega
              have q5 : (C : Int) < 128 := by omega
              have HV : Hid (G = (U + C * 2 ^ (7 * k), k + 1, 0)) := by show _ = _; rw [← HG.out, if_neg (by omega), if_neg (by omega), if_pos (by omega)]
              have hm : C * 2 ^ (7 * k) ≤ 1 * 2 ^ (7 * k) := Nat.mul_le_mul_right _ (by omega)
              have HO := hid (or_shift U C k C rfl hU (by omega) hU64)
              clear h9 h1 p9 HG hD hkl hlt h0 hm hp63 hU
              go_wp2
              go_ret3
              have ho := HO.out
              exact ⟨by rw [HV.out, grpV, ← ho]; rfl, 0, rfl⟩
        · have q1 : ((k : Int) == 9) = false := by rw [beq_eq_false_iff_ne]; omega
          have hp56 : 2 ^ (7 * k) ≤ 2 ^ 56 := Nat.pow_le_pow_right (by omega) (by omega)
          by_cases hB : 0 < k ∧ C = 0
          · have q3 : (0 : Int) < k := by omega
            have q4 : ((C : Int) == 0) = true := by rw [beq_iff_eq]; omega
            have HV : Hid (G = (0, 0, 4)) := by show _ = _; rw [← HG.out, if_neg (by omega), if_pos hB]
            clear h9 p9 hp63 HG hD hkl hlt hU hB hp56
            go_wp2
            go_ret3
            exact ⟨by rw [HV.out]; rfl, 0, rfl⟩
          · by_cases h128 : C < 128
            · have q5 : (C : Int) < 128 := by omega
              have HV : Hid (G = (U + C * 2 ^ (7 * k), k + 1, 0)) := by show _ = _; rw [← HG.out, if_neg (by omega), if_neg hB, if_pos h128]
              have hm : C * 2 ^ (7 * k) ≤ 128 * 2 ^ (7 * k) := Nat.mul_le_mul_right _ (by omega)
              have HO := hid (or_shift U C k C rfl hU (by omega) hU64)
              by_cases h0 : 0 < k
              · have q3 : (0 : Int) < k := by omega
                have q4 : ((C : Int) == 0) = false := by rw [beq_eq_false_iff_ne]; omega
                clear h9 p9 hp63 HG hD hkl hlt hU hB hp56 h128 hm h0
                go_wp2
                go_ret3
                have ho := HO.out
                exact ⟨by rw [HV.out, grpV, ← ho]; rfl, 0, rfl⟩
              · have q3 : ¬ (0 : Int) < k := by omega
                clear h9 p9 hp63 HG hD hkl hlt hU hB hp56 h128 hm h0
                go_wp2
                go_ret3
                have ho := HO.out
                exact ⟨by rw [HV.out, grpV, ← ho]; rfl, 0, rfl⟩
            · have q5 : ¬ (C : Int) < 128 := by omega
              have HV : Hid (grp (k + 1) (U + (C - 128) * 2 ^ (7 * k)) (xs.drop (k + 1)) = G) := by show _ = _; rw [← HG.out, if_neg (by omega), if_neg hB, if_neg h128]
              have hm : (C - 128) * 2 ^ (7 * k) ≤ 127 * 2 ^ (7 * k) := Nat.mul_le_mul_right _ (by omega)
              have HO := hid (or_shift U (C - 128) k ((C : Int) - 128) (by omega) hU (by omega) hU64)
              have HU' : Hid (U + (C - 128) * 2 ^ (7 * k) < 2 ^ (7 * (k + 1))) := by
                show _ < _
                rw [show 7 * (k + 1) = 7 * k + 7 by omega, Nat.pow_add]; omega
              have q4 : ((C : Int) == 0) = false := by rw [beq_eq_false_iff_ne]; omega
              have HK : Hid (k + 1 ≤ 10 ∧ k + 1 ≤ 9) := ⟨by omega, by omega⟩
              by_cases h0 : 0 < k
              · have q3 : (0 : Int) < k := by omega
                clear h9 p9 hp63 HG hD hkl hU hB hp56 h128 hm h0
                go_wp2
                exact ⟨⟨k + 1, U + (C - 128) * 2 ^ (7 * k), HK.out.1, HK.out.2, by go_num, congrArg (Value.int .u64) HO.out, HU'.out, trivial, HV⟩, by simp [intOf]; omega⟩
              · have q3 : ¬ (0 : Int) < k := by omega
                clear h9 p9 hp63 HG hD hkl hU hB hp56 h128 hm h0
                go_wp2
                exact ⟨⟨k + 1, U + (C - 128) * 2 ^ (7 * k), HK.out.1, HK.out.2, by go_num, congrArg (Value.int .u64) HO.out, HU'.out, trivial, HV⟩, by simp [intOf]; omega⟩
      · exact absurd hk9 (by omega)
end Go.Proofs.Ytpdnfiofjkbeiaa.pen
/- Contracts of the eye's calls varint, Count, Num and Text, and of Of. No condition. -/
namespace Go.Proofs.Ytpdnfiofjkbeiaa.pen
open Go.RowKit Go.Proofs.Ytpdnfiofjkbeiaa.texts
set_option linter.unusedVariables false

theorem but_drew {B g : Nat} {w w' : World} {m : Nat} (h : But B g (w.drewN m) w') : But B g w w' := h
set_option maxRecDepth 8000 in
theorem eyeVarint_any (b : Nat) (s : Sight) (w : World) (h : EyeAt 98 b s w) (fits most : Nat) (hf : fits < 18446744073709551616) (hm : most < 18446744073709551616) :
    Calls Try.prog 64 #[.pointer (some ⟨b, 0, none⟩), .int .u64 (fits : Int), .int .u64 (most : Int)] w (Saw 98 b (.int .u64 ((eVar fits most s).1 : Int)) (eVar fits most s).2 w) := by
  obtain ⟨r, z⟩ := s
  have c0 := bad_any b (r, z) w h
  simp only at c0
  have HE := hid h
  obtain ⟨a, c, st⟩ := h.stand
  clear h
  unfold eVar
  simp only []
  by_cases hz : z = 0
  · subst hz
    rw [show ((0 : Nat) : Int) = 0 from rfl] at c0
    rw [if_neg (by simp)]
    have c1 : ∀ m, Calls Try.prog 82 #[.slice a r.length c] (w.drewN m) (Quiet (grpV (grp 0 0 r)) (w.drewN m)) := fun m => first_any a c r _ (st.reads.drewN m) st.room st.small st.len
    have d0 : ∀ m, (w.drewN m).cell? ⟨b, 0, none⟩ = some (.slice a r.length c) := fun m => (st.drewN m).rest
    have d1 : ∀ m, (w.drewN m).cell? ⟨b, 1, none⟩ = some (.int .i64 0) := fun m => (st.drewN m).err
    have f1 : ∀ m, (w.drewN m).frozen? ⟨b, 1, none⟩ = false := fun m => (st.drewN m).block.frozen 1
    have hlen := st.len
    obtain ⟨g1, g2, g3, g4⟩ := grp_ok0 r st.small
    unfold grpV at c1
    have HGN := hid g2
    obtain ⟨V, hV⟩ : ∃ V, Hid ((grp 0 0 r).1 = V) := ⟨_, rfl⟩
    obtain ⟨N, hN⟩ : ∃ N, Hid ((grp 0 0 r).2.1 = N) := ⟨_, rfl⟩
    obtain ⟨E, hE⟩ : ∃ E, Hid ((grp 0 0 r).2.2 = E) := ⟨_, rfl⟩
    simp only [hV.out, hN.out, hE.out] at c1 g1 g3 g4 HGN ⊢
    have hF : Hid (∀ m z, Saw 98 b (.int .u64 0) (r, z) w (.returned (.int .u64 0)) ((w.drewN m).setCell ⟨b, 1, none⟩ (.int .i64 (z : Int)))) := fun m z => by
      have := (HE.out.later (below_drewN (Below.refl _ _) m)).fail z
      exact ⟨rfl, this.1, this.2⟩
    clear st g2
    by_cases he : E = 0
    · subst he
      rw [if_neg (by simp)]
      rw [show ((0 : Nat) : Int) = 0 from rfl] at c1
      by_cases h1 : fits < V
      · rw [if_pos h1]
        have q1 : (fits : Int) < V := by omega
        go_enter Try.func64, Try.ntmps64
        go_wp2_with (first
          | (go_at_call 66; (with_reducible refine c0.mono ?_); clear c0; rintro e w' ⟨rfl, m, rfl⟩)
          | (go_at_call 82; (with_reducible refine (c1 _).mono ?_); clear c1; rintro e w' ⟨rfl, m1, rfl⟩))
        go_ret
        exact hF.out _ 4
      · rw [if_neg h1]
        have q1 : ¬ (fits : Int) < V := by omega
        by_cases h2 : most < V
        · rw [if_pos h2]
          have q2 : (most : Int) < V := by omega
          go_enter Try.func64, Try.ntmps64
          go_wp2_with (first
            | (go_at_call 66; (with_reducible refine c0.mono ?_); clear c0; rintro e w' ⟨rfl, m, rfl⟩)
            | (go_at_call 82; (with_reducible refine (c1 _).mono ?_); clear c1; rintro e w' ⟨rfl, m1, rfl⟩))
          go_ret
          exact hF.out _ 7
        · rw [if_neg h2]
          have q2 : ¬ (most : Int) < V := by omega
          have hnl : N ≤ r.length := by have := HGN.out rfl; omega
          have c2 : ∀ m, Calls Try.prog 83 #[.pointer (some ⟨b, 0, none⟩), .int .i64 (N : Int)] (w.drewN m) (Took 98 b (r.take N) (r.drop N, 0) (w.drewN m)) := fun m => by
            have := next_any b (r, 0) (w.drewN m) (HE.out.later (below_drewN (Below.refl _ _) m)) N (by omega)
            rwa [eNext_take N r hnl] at this
          go_enter Try.func64, Try.ntmps64
          go_wp2_with (first
            | (go_at_call 66; (with_reducible refine c0.mono ?_); clear c0; rintro e w' ⟨rfl, m, rfl⟩)
            | (go_at_call 82; (with_reducible refine (c1 _).mono ?_); clear c1; rintro e w' ⟨rfl, m1, rfl⟩)
            | (go_at_call 83; (with_reducible refine (c2 _).mono ?_); clear c2; rintro e w' ⟨a', c', rfl, _, _, hE2, hB2⟩))
          go_ret
          exact ⟨rfl, hE2, but_drew hB2⟩
    · rw [if_pos he]
      have q0 : ((E : Int) != 0) = true := by rw [bne_iff_ne]; omega
      clear he
      go_enter Try.func64, Try.ntmps64
      go_wp2_with (first
        | (go_at_call 66; (with_reducible refine c0.mono ?_); clear c0; rintro e w' ⟨rfl, m, rfl⟩)
        | (go_at_call 82; (with_reducible refine (c1 _).mono ?_); clear c1; rintro e w' ⟨rfl, m1, rfl⟩))
      go_ret
      exact hF.out _ E
  · rw [if_pos hz]
    have hi : ((z : Int) != 0) = true := by rw [bne_iff_ne]; omega
    clear st hz
    go_enter Try.func64, Try.ntmps64
    go_wp2_with (go_at_call 66; (with_reducible refine c0.mono ?_); rintro e w' ⟨rfl, m, rfl⟩)
    go_ret
    exact ⟨rfl, HE.out.later (below_drewN (Below.refl _ _) m), But.drew m⟩
theorem eyeVarint_nil (x y : Int) (w : World) : Calls Try.prog 64 #[.pointer none, .int .u64 x, .int .u64 y] w (Quiet (.int .u64 0) w) := by
  go_enter Try.func64, Try.ntmps64
  go_wp2_with (go_at_call 66; (with_reducible refine (bad_nil _).mono ?_); rintro e w' ⟨rfl, m, rfl⟩)
  go_ret
  exact ⟨rfl, _, rfl⟩

theorem unzigzag_any (u : Nat) (hu : u < 18446744073709551616) (w : World) : Calls Try.prog 90 #[.int .u64 (u : Int)] w (Quiet (.int .i64 (unzig u)) w) := by
  have hn := i64_not ((u / 2 : Nat) : Int) (by omega) (by omega)
  have hsg : IntKind.i64.signed = true := rfl
  rw [Int.natCast_ediv] at hn
  simp only [Int.cast_ofNat_Int] at hn
  by_cases h0 : u % 2 = 1
  · have hz : unzig u = -((u : Int) / 2) - 1 := by unfold unzig; rw [if_pos h0]; omega
    have q : ((u : Int) % 2 != 0) = true := by rw [bne_iff_ne]; omega
    rw [hz]
    clear hz h0
    go_enter Try.func90, Try.ntmps90
    go_wp2
    go_ret
    exact ⟨rfl, 0, rfl⟩
  · have hz : unzig u = (u : Int) / 2 := by unfold unzig; rw [if_neg h0]; omega
    have q : ((u : Int) % 2 != 0) = false := by rw [bne_eq_false_iff_eq]; omega
    rw [hz]
    clear hz h0
    go_enter Try.func90, Try.ntmps90
    go_wp2
    go_ret
    exact ⟨rfl, 0, rfl⟩
end Go.Proofs.Ytpdnfiofjkbeiaa.pen
/- Contracts of the eye's calls Count and Num, and of Of. No condition but bytes that are fewer than 2^47. -/
namespace Go.Proofs.Ytpdnfiofjkbeiaa.pen
open Go.RowKit Go.Proofs.Ytpdnfiofjkbeiaa.texts
set_option linter.unusedVariables false

theorem eyeCount_any (b : Nat) (s : Sight) (w : World) (h : EyeAt 98 b s w) (most : Int) (h1 : -9223372036854775808 ≤ most) (h2 : most ≤ 9223372036854775807) :
    Calls Try.prog 40 #[.pointer (some ⟨b, 0, none⟩), .int .i64 most] w (Saw 98 b (.int .i64 ((eCount most s).1 : Int)) (eCount most s).2 w) := by
  have c0 := eyeVarint_any b s w h 9223372036854775807 (max most 0).toNat (by omega) (by omega)
  have hle := (eVar_le 9223372036854775807 (max most 0).toNat s).1
  unfold eCount
  obtain ⟨x, hx⟩ : ∃ x, Hid ((eVar 9223372036854775807 (max most 0).toNat s).1 = x) := ⟨_, rfl⟩
  obtain ⟨s', hs'⟩ : ∃ s', Hid ((eVar 9223372036854775807 (max most 0).toNat s).2 = s') := ⟨_, rfl⟩
  simp only [hx.out, hs'.out] at c0 hle ⊢
  rw [show ((9223372036854775807 : Nat) : Int) = 9223372036854775807 from rfl, show (((max most 0).toNat : Nat) : Int) = max most 0 by omega] at c0
  clear h hx hs'
  by_cases h0 : 0 ≤ most
  · rw [show max most 0 = most by omega] at c0
    go_enter Try.func40, Try.ntmps40
    go_wp2_with (go_at_call 64; (with_reducible refine c0.mono ?_); clear c0; rintro e w1 ⟨rfl, hE, hB⟩)
    go_ret
    exact ⟨rfl, hE, hB⟩
  · rw [show max most 0 = 0 by omega] at c0
    have hi : most < 0 := by omega
    go_enter Try.func40, Try.ntmps40
    go_wp2_with (go_at_call 64; (with_reducible refine c0.mono ?_); clear c0; rintro e w1 ⟨rfl, hE, hB⟩)
    go_ret
    exact ⟨rfl, hE, hB⟩
theorem eyeCount_nil (most : Int) (h1 : -9223372036854775808 ≤ most) (h2 : most ≤ 9223372036854775807) (w : World) : Calls Try.prog 40 #[.pointer none, .int .i64 most] w (Quiet (.int .i64 0) w) := by
  by_cases h0 : 0 ≤ most
  · go_enter Try.func40, Try.ntmps40
    go_wp2_with (go_at_call 64; (with_reducible refine (eyeVarint_nil _ _ _).mono ?_); rintro e w1 ⟨rfl, m, rfl⟩)
    go_ret
    exact ⟨rfl, _, rfl⟩
  · have hi : most < 0 := by omega
    go_enter Try.func40, Try.ntmps40
    go_wp2_with (go_at_call 64; (with_reducible refine (eyeVarint_nil _ _ _).mono ?_); rintro e w1 ⟨rfl, m, rfl⟩)
    go_ret
    exact ⟨rfl, _, rfl⟩
theorem eyeNum_any (b : Nat) (s : Sight) (w : World) (h : EyeAt 98 b s w) :
    Calls Try.prog 84 #[.pointer (some ⟨b, 0, none⟩)] w (Saw 98 b (.int .i64 (eInt s).1) (eInt s).2 w) := by
  have c0 := eyeVarint_any b s w h 18446744073709551615 18446744073709551615 (by omega) (by omega)
  have hle := (eVar_le 18446744073709551615 18446744073709551615 s).1
  have c1 : Hid (∀ w1, Calls Try.prog 90 #[.int .u64 ((eVar 18446744073709551615 18446744073709551615 s).1 : Int)] w1 (Quiet (.int .i64 (unzig (eVar 18446744073709551615 18446744073709551615 s).1)) w1)) := fun w1 => unzigzag_any _ (by omega) w1
  unfold eInt
  obtain ⟨x, hx⟩ : ∃ x, Hid ((eVar 18446744073709551615 18446744073709551615 s).1 = x) := ⟨_, rfl⟩
  obtain ⟨s', hs'⟩ : ∃ s', Hid ((eVar 18446744073709551615 18446744073709551615 s).2 = s') := ⟨_, rfl⟩
  simp only [hx.out, hs'.out] at c0 c1 hle ⊢
  rw [show ((18446744073709551615 : Nat) : Int) = 18446744073709551615 from rfl] at c0
  obtain ⟨y, hy⟩ : ∃ y, Hid (unzig x = y) := ⟨_, rfl⟩
  rw [hy.out] at c1 ⊢
  clear h hx hs' hy
  go_enter Try.func84, Try.ntmps84
  go_wp2_with (first
    | (go_at_call 64; (with_reducible refine c0.mono ?_); clear c0; rintro e w1 ⟨rfl, hE, hB⟩)
    | (go_at_call 90; (with_reducible refine (c1.out _).mono ?_); clear c1; rintro e w2 ⟨rfl, m, rfl⟩))
  go_ret
  exact ⟨rfl, hE.later (below_drewN (Below.refl _ _) m), hB⟩
theorem eyeNum_nil (w : World) : Calls Try.prog 84 #[.pointer none] w (Quiet (.int .i64 0) w) := by
  have c1 : ∀ w1, Calls Try.prog 90 #[.int .u64 0] w1 (Quiet (.int .i64 0) w1) := fun w1 => unzigzag_any 0 (by omega) w1
  go_enter Try.func84, Try.ntmps84
  go_wp2_with (first
    | (go_at_call 64; (with_reducible refine (eyeVarint_nil _ _ _).mono ?_); rintro e w1 ⟨rfl, m, rfl⟩)
    | (go_at_call 90; (with_reducible refine (c1 _).mono ?_); clear c1; rintro e w2 ⟨rfl, m2, rfl⟩))
  go_ret
  exact ⟨rfl, _, by repeat (first | rfl | rw [World.drewN_drewN])⟩

/-- a struct of a row of its own and 0, in a new block -/
theorem eye_new (t : TypeId) (B : Nat) (xs : List Nat) (w : World) (a : Option Addr) (c : Nat) (ho : w.ownsRow B 5 1 (.slice a xs.length c) xs.length (u8v xs)) (hx : ∀ c ∈ xs, c < 256) (hl : xs.length ≤ 140737488355328) :
    EyeAt t w.heap.size (xs, 0) (w.alloc (.cells #[.slice a xs.length c, .int .i64 0] t)) := by
  have hc : xs.length ≤ c := by obtain ⟨a', c', hv, h⟩ := ownsRow_slice ho; cases hv; exact h
  refine ⟨hx, hl, a, c, Block.new w t [.slice a xs.length c, .int .i64 0], hc, (Reads.own ho).below ((Below.refl _ _).alloc (Nat.le_refl _) _), fun _ x hx => ?_⟩
  have := World.ownsRow.lt ho x.block (by rw [hx]; rfl)
  omega
theorem of_any (a : Option Addr) (c : Nat) (xs : List Nat) (w : World) (hr : Reads .u8 w a xs.length xs) (hx : ∀ c ∈ xs, c < 256) (hl : xs.length ≤ 140737488355328) :
    Calls Try.prog 39 #[.slice a xs.length c] w fun e w' => ∃ b, e = .returned (.pointer (some ⟨b, 0, none⟩)) ∧ w.heap.size ≤ b ∧ EyeAt 98 b (xs, 0) w' ∧ Below w.heap.size w w' := by
  have c0 := clone_any a xs.length c xs w hr hl
  clear hr
  go_enter Try.func39, Try.ntmps39
  go_wp2_with (go_at_call 59; (with_reducible refine c0.mono ?_); clear c0; rintro e w1 ⟨v, rfl, ho, hb⟩; obtain ⟨a1, c1, rfl, _⟩ := ownsRow_slice ho; have HO := hid ho; clear ho)
  go_ret
  exact ⟨_, rfl, hb.size, eye_new 98 w.heap.size xs w1 a1 c1 HO.out hx hl, hb.alloc hb.size _⟩
end Go.Proofs.Ytpdnfiofjkbeiaa.pen
/- Rows of fields that a call has made: appended to, cloned. No condition but rows of at most 2^47 bytes. -/
namespace Go.Proofs.Ytpdnfiofjkbeiaa.schema
open Go.RowKit
set_option linter.unusedVariables false

/-- the cells of fields -/
def fdC (p : field.Fd) : List Value := [.int .i64 p.id, .int .i64 p.kind, .int .i64 p.lo, .int .i64 p.hi, .int .i64 p.most]
def fdV : List field.Fd → List Value
  | [] => []
  | p :: L => fdC p ++ fdV L
theorem fdV_append : ∀ a b, fdV (a ++ b) = fdV a ++ fdV b
  | [], _ => rfl
  | p :: a, b => by rw [List.cons_append, fdV, fdV, fdV_append a b, List.append_assoc]
theorem fdV_length : ∀ L, (fdV L).length = L.length * 5
  | [] => rfl
  | p :: L => by rw [fdV]; simp only [fdC, List.length_append, List.length_cons, List.length_nil, fdV_length L]; omega
theorem fdV_one : ∀ L, ∀ u ∈ fdV L, u.oneCell' = true
  | [], u, h => by simp [fdV] at h
  | p :: L, u, h => by
    rw [fdV, List.mem_append] at h
    rcases h with h | h
    · simp [fdC] at h; rcases h with rfl | rfl | rfl | rfl | rfl <;> rfl
    · exact fdV_one L u h
theorem fdV_get : ∀ (L : List field.Fd) (j : Nat) (u : Value), (fdV L)[j]? = some u → ∃ i p c, L[i]? = some p ∧ j = i * 5 + c ∧ c < 5 ∧ (fdC p)[c]? = some u
  | [], j, u, h => by simp [fdV] at h
  | p :: L, j, u, h => by
    rw [fdV] at h
    by_cases hj : j < 5
    · rw [List.getElem?_append_left (by simp [fdC]; omega)] at h
      exact ⟨0, p, j, rfl, by omega, hj, h⟩
    · rw [List.getElem?_append_right (by simp [fdC]; omega)] at h
      obtain ⟨i, q, c, h1, h2, h3, h4⟩ := fdV_get L _ u h
      simp only [fdC, List.length_cons, List.length_nil] at h2
      exact ⟨i + 1, q, c, by simpa using h1, by omega, h3, h4⟩
theorem fdV_at : ∀ (L : List field.Fd) (i : Nat) (p : field.Fd) (c : Nat), L[i]? = some p → c < 5 → (fdV L)[i * 5 + c]? = (fdC p)[c]?
  | [], i, p, c, h, _ => by simp at h
  | q :: L, 0, p, c, h, hc => by
    simp at h; subst h
    rw [fdV, List.getElem?_append_left (by simp [fdC]; omega)]
    simp
  | q :: L, i + 1, p, c, h, hc => by
    rw [fdV, List.getElem?_append_right (by simp [fdC]; omega)]
    rw [← fdV_at L i p c (by simpa using h) hc]
    congr 1
    simp only [fdC, List.length_cons, List.length_nil]; omega
/-- what lies in fields that came in, as the cells of a row -/
theorem fds_news {w : World} {a : Option Addr} {L : List field.Fd} (h : field.Fds w a L) : L.length = 0 ∨ ∃ ad, a = some ad ∧ ∀ j u, (fdV L)[j]? = some u → w.cell? (ad.add j) = some u := by
  rcases h with h | ⟨b, off, ha, hlt, hc⟩
  · exact .inl (by rw [h]; rfl)
  · refine .inr ⟨_, ha, fun j u hj => ?_⟩
    obtain ⟨i, p, c, h1, rfl, h3, h4⟩ := fdV_get L j u hj
    obtain ⟨c0, c1, c2, c3, c4⟩ := hc i p h1
    rw [Addr.add_lit]
    match c, h3, h4 with
    | 0, _, h4 => rw [show (some u) = some (.int .i64 p.id) from h4.symm.trans rfl]; exact c0
    | 1, _, h4 => rw [show (some u) = some (.int .i64 p.kind) from h4.symm.trans rfl, ← Nat.add_assoc]; exact c1
    | 2, _, h4 => rw [show (some u) = some (.int .i64 p.lo) from h4.symm.trans rfl, ← Nat.add_assoc]; exact c2
    | 3, _, h4 => rw [show (some u) = some (.int .i64 p.hi) from h4.symm.trans rfl, ← Nat.add_assoc]; exact c3
    | 4, _, h4 => rw [show (some u) = some (.int .i64 p.most) from h4.symm.trans rfl, ← Nat.add_assoc]; exact c4
/-- a row of the call's own reads as fields -/
theorem own_fds {w : World} {base n : Nat} {a : Option Addr} {cap : Nat} {L : List field.Fd} {e : TypeId} (h : w.ownsRow base e 5 (.slice a n cap) n (fdV L)) : field.Fds w a L ∧ n = L.length ∧ n ≤ cap := by
  obtain ⟨hl, hr⟩ := h
  have hn : n = L.length := by have := fdV_length L; rw [hl] at this; omega
  rcases hr with ⟨hv, h0⟩ | ⟨b, cap', cur, hv, _, hg, hcp, _, _, htake⟩
  · cases hv
    exact ⟨.inl (List.eq_nil_of_length_eq_zero (by omega)), hn, by omega⟩
  · cases hv
    refine ⟨.inr ⟨b, 0, rfl, (Array.getElem?_eq_some_iff.1 hg).1, fun i p hp => ?_⟩, hn, hcp⟩
    have hi : i < L.length := (List.getElem?_eq_some_iff.1 hp).1
    have key : ∀ c x, c < 5 → (fdC p)[c]? = some x → w.cell? ⟨b, 0 + (i * 5 + c), none⟩ = some x := by
      intro c x hc hx
      have h1 := fdV_at L i p c hp hc
      rw [hx, ← htake, List.getElem?_take, if_pos (by omega)] at h1
      rw [cell_of_row w b _ cur _ _ hg, Nat.zero_add, ← h1, Array.getElem?_toList]
    exact ⟨key 0 _ (by omega) rfl, key 1 _ (by omega) rfl, key 2 _ (by omega) rfl, key 3 _ (by omega) rfl, key 4 _ (by omega) rfl⟩
theorem fd_info : (Try.prog.info? 23).map (fun i => (i.zero, i.size, i.bytes)) = some (some (.agg #[.int .i64 0, .int .i64 0, .int .i64 0, .int .i64 0, .int .i64 0]), 5, 40) := by kernel_rfl
theorem fd_info_parts : ∃ i, Try.prog.info? 23 = some i ∧ i.zero = some (.agg #[.int .i64 0, .int .i64 0, .int .i64 0, .int .i64 0, .int .i64 0]) ∧ i.size = 5 ∧ i.bytes = 40 := by
  obtain ⟨i, hi, he⟩ := Option.map_eq_some_iff.1 fd_info
  simp only [Prod.mk.injEq] at he
  exact ⟨i, hi, he.1, he.2.1, he.2.2⟩
theorem wpList_append_fromN {P : Program} {w : World} {ops : Array Oper} {rest : List Oper} {o : Oper} {a : Act} {Q : Exit → Act → World → Prop} (hgd : o.guard = none) (s x : Operand) (t : TypeId)
    (ho : o.op = .call { callee := .builtin .append, args := #[s, x], argTypes := #[t, t] })
    (base : Nat) (e : TypeId) (i : TypeInfo) (z : Value) (size bytes : Nat) (ht : P.underlying t = some (.slice e)) (hi : P.info? e = some i) (hz : i.zero = some z)
    (hsize : i.size = size) (hby : i.bytes = bytes) (hzs : z.cells.size = size) (hsz : 0 < size)
    (v : Value) (n : Nat) (xs : List Value) (hs : a.eval s = v) (hown : w.ownsRow base e size v n xs)
    (ap : Option Addr) (m c : Nat) (news : List Value) (hx : a.eval x = .slice ap m c) (hl : news.length = m * size)
    (hnews : m = 0 ∨ ∃ ad, ap = some ad ∧ ∀ j u, news[j]? = some u → w.cell? (ad.add j) = some u) (h1 : ∀ u ∈ news, u.oneCell' = true)
    (h63 : n + m ≤ maxLen) (hbytes : (n + m) * bytes ≤ 140737488355328) (hbase : base ≤ w.heap.size)
    (h : ∀ v' w', w'.ownsRow base e size v' (n + m) (xs ++ news) → w.grownBy w' v.ownBlock → wpList P ops Q rest (a.put o.dst v') w') : wpList P ops Q (o :: rest) a w := by
  by_cases hm : m = 0
  · subst hm
    obtain rfl : news = [] := List.eq_nil_of_length_eq_zero (by omega)
    obtain ⟨bp, cp, rfl, hcp⟩ := ownsRow_slice hown
    have hsrc : Src P i.size t (.slice ap 0 c) 0 [] w := by
      cases ap with
      | none => exact Src.ofNil w ht c
      | some ad => exact Src.ofSlice w ht ad 0 c [] (by simp) (by simp) (by simp)
    have hrun := run_append_nothing w t t o.type e i ht hi bp n cp hcp _ hsrc
    refine wpList_plain hgd fun K hK => ?_
    unfold Oper.wp
    simp [execOp, ho, resolve, invoke, builtin, hs, hx, hrun, Result.andThen]
    exact hK _ _ (h _ w (by simpa using hown) (grown_refl _ _))
  · rcases hnews with h0 | ⟨ad, rfl, hc⟩
    · exact absurd h0 hm
    · exact wpList_append_own w hgd s x t ho base e i z size bytes ht hi hz hsize hby hzs hsz v n xs hs hown ad m c news hx hl hc h1 h63 hbytes hbase (fun v' w' h2 h3 _ => h v' w' h2 h3)
end Go.Proofs.Ytpdnfiofjkbeiaa.schema
/- An eye beside other blocks. No condition. -/
namespace Go.Proofs.Ytpdnfiofjkbeiaa.schema
open Go.RowKit Go.Proofs.Ytpdnfiofjkbeiaa.pen
set_option linter.unusedVariables false

/-- none of the cells is a byte -/
def NoByte (cs : List Value) : Prop := ∀ v ∈ cs, ∀ n, v ≠ .int .u8 n
/-- what turns a block without bytes leaves an eye alone -/
theorem eye_but {t t' : TypeId} {b g : Nat} {s : Sight} {cs : List Value} {w w' : World} (h : EyeAt t b s w) (hB : Block w g t' cs) (hne : b ≠ g) (hcs : NoByte cs) (hb : But w.heap.size g w w') : EyeAt t b s w' := by
  obtain ⟨h1, h2, a, cap, h3, h4, h5, h6⟩ := h
  refine ⟨h1, h2, a, cap, h3.but hb h3.lt hne, h4, ?_, h6⟩
  by_cases h0 : s.1.length = 0
  · exact ⟨h5.1, .inl h0⟩
  · refine reads_but h5 hb (fun x hx => ?_)
    rintro rfl
    rcases h5.2 with e | ⟨b', off, ha, _, hc⟩
    · exact h0 e
    · rw [hx] at ha
      cases ha
      have := hc 0 (by omega)
      rw [hB.cell] at this
      exact hcs _ (List.mem_of_getElem? this) _ rfl
theorem noByte5 (f : field.Fd) : NoByte [.int .i64 f.id, .int .i64 f.kind, .int .i64 f.lo, .int .i64 f.hi, .int .i64 f.most] := by
  intro v hv n e
  simp at hv
  rcases hv with rfl | rfl | rfl | rfl | rfl <;> cases e
theorem noByte2 (i : Int) (a : Option Addr) (m c : Nat) : NoByte [.int .i64 i, .slice a m c] := by
  intro v hv n e
  simp at hv
  rcases hv with rfl | rfl <;> cases e
end Go.Proofs.Ytpdnfiofjkbeiaa.schema
/- An eye beside other blocks, and a field that is stored in a result's variable. No condition. -/
namespace Go.Proofs.Ytpdnfiofjkbeiaa.schema
open Go.RowKit Go.Proofs.Ytpdnfiofjkbeiaa.pen
set_option linter.unusedVariables false

theorem eCount_le (most : Nat) (s : Sight) : (eCount (most : Int) s).1 ≤ most := by
  have h := (eVar_le 9223372036854775807 (max (most : Int) 0).toNat s).2
  unfold eCount
  omega
theorem fd5_info (v0 v1 v2 v3 v4 : Value) : (Try.prog.info? 23).map (·.size) = some [v0, v1, v2, v3, v4].length := by kernel_rfl
theorem blk_but {w w' : World} {k b : Nat} {t : TypeId} {cs : List Value} (h : Block w k t cs) (hb : But w.heap.size b w w') (hne : k ≠ b) : Block w' k t cs := h.but hb h.lt hne
theorem but_store {B b k : Nat} {a w : World} (h : But B b a w) (hk : B ≤ k) (o : Nat) (v : Value) : But B b a (w.setCell ⟨k, o, none⟩ v) := h.trans (Below.but (below_setCells (Below.refl B w) hk o [v]))
/-- a field that is stored in the result's variable -/
theorem take_end {t : TypeId} {b R : Nat} {s : Sight} {w w5 : World} (f : field.Fd) (hE : EyeAt t b s w5) (hR : Block w5 R 23 [.int .i64 0, .int .i64 0, .int .i64 0, .int .i64 0, .int .i64 0]) (hne : R ≠ b) (hw : w.heap.size ≤ R) (hu : But w.heap.size b w w5) :
    EyeAt t b s (((((w5.setCell ⟨R, 0, none⟩ (.int .i64 f.id)).setCell ⟨R, 1, none⟩ (.int .i64 f.kind)).setCell ⟨R, 2, none⟩ (.int .i64 f.lo)).setCell ⟨R, 3, none⟩ (.int .i64 f.hi)).setCell ⟨R, 4, none⟩ (.int .i64 f.most)) ∧
    Block (((((w5.setCell ⟨R, 0, none⟩ (.int .i64 f.id)).setCell ⟨R, 1, none⟩ (.int .i64 f.kind)).setCell ⟨R, 2, none⟩ (.int .i64 f.lo)).setCell ⟨R, 3, none⟩ (.int .i64 f.hi)).setCell ⟨R, 4, none⟩ (.int .i64 f.most)) R 23 [.int .i64 f.id, .int .i64 f.kind, .int .i64 f.lo, .int .i64 f.hi, .int .i64 f.most] ∧
    But w.heap.size b w (((((w5.setCell ⟨R, 0, none⟩ (.int .i64 f.id)).setCell ⟨R, 1, none⟩ (.int .i64 f.kind)).setCell ⟨R, 2, none⟩ (.int .i64 f.lo)).setCell ⟨R, 3, none⟩ (.int .i64 f.hi)).setCell ⟨R, 4, none⟩ (.int .i64 f.most)) := by
  refine ⟨eye_but hE hR (Ne.symm hne) (noByte5 ⟨0, 0, 0, 0, 0⟩) ((((((But.refl _ R w5).setCell 0 _).setCell 1 _).setCell 2 _).setCell 3 _).setCell 4 _), ?_, ?_⟩
  · exact ((((hR.setCell 0 (.int .i64 f.id)).setCell 1 (.int .i64 f.kind)).setCell 2 (.int .i64 f.lo)).setCell 3 (.int .i64 f.hi)).setCell 4 (.int .i64 f.most)
  · exact but_store (but_store (but_store (but_store (but_store hu hw 0 _) hw 1 _) hw 2 _) hw 3 _) hw 4 _
end Go.Proofs.Ytpdnfiofjkbeiaa.schema
