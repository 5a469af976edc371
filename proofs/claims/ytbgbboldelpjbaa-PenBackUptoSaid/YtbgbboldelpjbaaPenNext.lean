/- Contracts of the eye's calls next, number, Byte and Word. No condition. -/
import Derived.Test.YtbgbboldelpjbaaPenEye
namespace Go.Proofs.Ytbgbboldelpjbaa.pen
open Go.RowKit Go.Proofs.Ytbgbboldelpjbaa.texts
set_option linter.unusedVariables false

/-- what EyeAt says of the eye at s, part by part -/
structure Stand (t : TypeId) (b : Nat) (r : List Nat) (z : Nat) (w : World) (a : Option Addr) (c : Nat) : Prop where
  small : ∀ c ∈ r, c < 256
  len : r.length ≤ 140737488355328
  block : Block w b t [.slice a r.length c, .int .i64 (z : Int)]
  room : r.length ≤ c
  reads : Reads .u8 w a r.length r
  off : ∀ x, a = some x → x.block ≠ b
theorem EyeAt.stand {t : TypeId} {b : Nat} {r : List Nat} {z : Nat} {w : World} (h : EyeAt t b (r, z) w) : ∃ a c, Stand t b r z w a c := by
  obtain ⟨h1, h2, a, c, h3, h4, h5, h6⟩ := h
  exact ⟨a, c, h1, h2, h3, h4, h5, h6⟩
theorem Stand.eye {t : TypeId} {b : Nat} {r : List Nat} {z : Nat} {w : World} {a : Option Addr} {c : Nat} (h : Stand t b r z w a c) : EyeAt t b (r, z) w :=
  ⟨h.small, h.len, a, c, h.block, h.room, h.reads, h.off⟩
theorem Stand.rest {t : TypeId} {b : Nat} {r : List Nat} {z : Nat} {w : World} {a : Option Addr} {c : Nat} (h : Stand t b r z w a c) : w.cell? ⟨b, 0, none⟩ = some (.slice a r.length c) := by rw [h.block.cell]; rfl
theorem Stand.err {t : TypeId} {b : Nat} {r : List Nat} {z : Nat} {w : World} {a : Option Addr} {c : Nat} (h : Stand t b r z w a c) : w.cell? ⟨b, 1, none⟩ = some (.int .i64 (z : Int)) := by rw [h.block.cell]; rfl
theorem Stand.drewN {t : TypeId} {b : Nat} {r : List Nat} {z : Nat} {w : World} {a : Option Addr} {c : Nat} (h : Stand t b r z w a c) (m : Nat) : Stand t b r z (w.drewN m) a c :=
  ⟨h.small, h.len, h.block, h.room, h.reads.drewN m, h.off⟩
theorem Stand.cut {t : TypeId} {b : Nat} {r : List Nat} {z : Nat} {w : World} {a : Option Addr} {c : Nat} (h : Stand t b r z w a c) (n : Nat) (hn : n ≤ r.length) :
    EyeAt t b (r.drop n, z) (w.setCell ⟨b, 0, none⟩ (.slice (shift a n c) (r.length - n) (c - n))) ∧ But w.heap.size b w (w.setCell ⟨b, 0, none⟩ (.slice (shift a n c) (r.length - n) (c - n))) := by
  have hbut := (But.refl w.heap.size b w).setCell 0 (.slice (shift a n c) (r.length - n) (c - n))
  refine ⟨⟨fun x hx => h.small x (List.mem_of_mem_drop hx), ?_, shift a n c, c - n, ?_, ?_, ?_, shift_block h.off⟩, hbut⟩
  · show (r.drop n).length ≤ _
    rw [List.length_drop]; have := h.len; omega
  · show Block _ b t [.slice _ (r.drop n).length _, _]
    rw [List.length_drop]; exact h.block.setCell 0 _
  · show (r.drop n).length ≤ _
    rw [List.length_drop]; have := h.room; omega
  · show Reads .u8 _ _ (r.drop n).length (r.drop n)
    rw [List.length_drop]
    exact reads_but (reads_shift h.reads hn h.room) hbut (shift_block h.off)

/-- the call takes the bytes r, the eye then stands at s -/
def Took (t : TypeId) (b : Nat) (r : List Nat) (s : Sight) (w : World) (e : Ending) (w' : World) : Prop :=
  ∃ a c, e = .returned (.slice a r.length c) ∧ r.length ≤ c ∧ Reads .u8 w' a r.length r ∧ EyeAt t b s w' ∧ But w.heap.size b w w'
theorem Stand.took {t : TypeId} {b : Nat} {r : List Nat} {w : World} {a : Option Addr} {c : Nat} (h : Stand t b r 0 w a c) (n : Nat) (hn : n ≤ r.length) (k : Nat) (hk : n ≤ k) (m : Nat) (w0 : World) (hw : w = w0.drewN m) :
    Took t b (r.take n) (r.drop n, 0) w0 (.returned (.slice (shift a 0 k) n k)) (w.setCell ⟨b, 0, none⟩ (.slice (shift a n c) (r.length - n) (c - n))) := by
  subst hw
  obtain ⟨h1, h2⟩ := h.cut n hn
  have hl : (r.take n).length = n := by rw [List.length_take]; omega
  refine ⟨_, k, by rw [hl], by omega, ?_, h1, h2⟩
  rw [hl]
  exact reads_but (reads_take h.reads hn) h2 (shift_block h.off)
theorem eNext_bad (n : Nat) (r : List Nat) (z : Nat) (h : z ≠ 0) : eNext n (r, z) = ([], (r, z)) := by unfold eNext; exact if_pos h
theorem eNext_short (n : Nat) (r : List Nat) (h : r.length < n) : eNext n (r, 0) = ([], (r, 5)) := by unfold eNext; rw [if_neg (by simp)]; exact if_pos h
theorem eNext_take (n : Nat) (r : List Nat) (h : n ≤ r.length) : eNext n (r, 0) = (r.take n, (r.drop n, 0)) := by unfold eNext; rw [if_neg (by simp)]; exact if_neg (by show ¬ r.length < n; omega)
theorem But.drew {B g : Nat} {w : World} (m : Nat) : But B g w (w.drewN m) := But.refl B g w

theorem next_any (b : Nat) (s : Sight) (w : World) (h : EyeAt 62 b s w) (n : Nat) (hn : n ≤ 9223372036854775807) :
    Calls Try.prog 42 #[.pointer (some ⟨b, 0, none⟩), .int .i64 (n : Int)] w (Took 62 b (eNext n s).1 (eNext n s).2 w) := by
  obtain ⟨r, z⟩ := s
  have c0 := bad_any b (r, z) w h
  simp only at c0
  have HE := hid h
  obtain ⟨a, c, st⟩ := h.stand
  clear h
  by_cases hz : z = 0
  · subst hz
    have hlen := st.len
    have c1 : ∀ m, (w.drewN m).cell? ⟨b, 0, none⟩ = some (.slice a r.length c) := fun m => (st.drewN m).rest
    have c2 : ∀ m, (w.drewN m).cell? ⟨b, 1, none⟩ = some (.int .i64 0) := fun m => (st.drewN m).err
    have f0 : ∀ m, (w.drewN m).frozen? ⟨b, 0, none⟩ = false := fun m => (st.drewN m).block.frozen 0
    have f1 : ∀ m, (w.drewN m).frozen? ⟨b, 1, none⟩ = false := fun m => (st.drewN m).block.frozen 1
    by_cases hs : r.length < n
    · rw [eNext_short n r hs]
      have hi : (r.length : Int) < n := by omega
      clear st hs
      rw [show ((0 : Nat) : Int) = 0 from rfl] at c0
      go_enter Try.func42, Try.ntmps42
      go_wp2_with (go_at_call 24; (with_reducible refine c0.mono ?_); rintro e w' ⟨rfl, m, rfl⟩)
      go_ret
      have hf := (HE.out.later (below_drewN (Below.refl _ _) m)).fail 5
      exact ⟨none, 0, rfl, Nat.le_refl _, Reads.nil, hf.1, hf.2⟩
    · rw [eNext_take n r (by omega)]
      have hi : ¬ (r.length : Int) < n := by omega
      have hroom := st.room
      have e1 := fun W => cut_full W a r.length c n (by omega)
      have e2 := fun W => cut_from W a r.length c n (by omega)
      have ST := hid st
      have HR : Hid (n ≤ r.length) := by show _ ≤ _; omega
      have HT := hid (fun m => (ST.out.drewN m).took n HR.out n (Nat.le_refl _) m w rfl)
      obtain ⟨A1, hA1⟩ : ∃ A, Hid (shift a 0 n = A) := ⟨_, rfl⟩
      obtain ⟨A2, hA2⟩ : ∃ A, Hid (shift a n c = A) := ⟨_, rfl⟩
      rw [hA1.out] at e1 HT
      rw [hA2.out] at e2 HT
      clear st hs
      rw [show ((0 : Nat) : Int) = 0 from rfl] at c0
      go_enter Try.func42, Try.ntmps42
      go_wp2_with (go_at_call 24; (with_reducible refine c0.mono ?_); rintro e w' ⟨rfl, m, rfl⟩)
      go_ret
      exact HT.out m
  · rw [eNext_bad n r z hz]
    have hi : ((z : Int) != 0) = true := by rw [bne_iff_ne]; omega
    clear st hz
    go_enter Try.func42, Try.ntmps42
    go_wp2_with (go_at_call 24; (with_reducible refine c0.mono ?_); rintro e w' ⟨rfl, m, rfl⟩)
    go_ret
    exact ⟨none, 0, rfl, Nat.le_refl _, Reads.nil, HE.out.later (below_drewN (Below.refl _ _) m), But.drew m⟩
theorem next_nil (n : Int) (w : World) : Calls Try.prog 42 #[.pointer none, .int .i64 n] w (Quiet (.slice none 0 0) w) := by
  go_enter Try.func42, Try.ntmps42
  go_wp2_with (go_at_call 24; (with_reducible refine (bad_nil _).mono ?_); rintro e w' ⟨rfl, m, rfl⟩)
  go_ret
  exact ⟨rfl, _, rfl⟩
end Go.Proofs.Ytbgbboldelpjbaa.pen
