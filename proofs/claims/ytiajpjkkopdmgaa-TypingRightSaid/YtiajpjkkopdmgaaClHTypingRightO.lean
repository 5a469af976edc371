/- Lemmas of the claim HTypingRight. Each says its own conditions. -/
import Derived.Test.YtiajpjkkopdmgaaClHTypingRightH
import Derived.Test.YtiajpjkkopdmgaaClHTypingRightN
import Derived.Test.YtiajpjkkopdmgaaClHTypingRightE
import Derived.Test.YtiajpjkkopdmgaaClHTypingRightG
import Derived.Laws.StructEq
import Derived.Test.YtiajpjkkopdmgaaClHTypingRightJ
import Derived.Handy
import Derived.Conc.WalkWords
/- Contract of layer 15 (step): clearMember. No condition. -/
namespace Go.Proofs.Ytiajpjkkopdmgaa.step
open Go.RowKit
open Go.Proofs.Ytiajpjkkopdmgaa.field (Gives newB gives_from)
open Go.Proofs.Ytiajpjkkopdmgaa.schema (below_out)
open Go.Proofs.Ytiajpjkkopdmgaa.pen (ret0)
set_option linter.unusedVariables false

/-- the variable at B holds s, its lists lie where they lay in w0, whose blocks lie below B -/
structure BoxAt (w0 : World) (B : Nat) (s : Sp) (ta : Option Addr) (tc : Nat) (la : Option Addr) (lc : Nat) (w : World) : Prop where
  f : Block w B 32 [.int .i64 s.op, .int .i64 s.fm, .int .i64 s.fd, .int .i64 s.pl, .int .i64 s.tt, .int .i64 s.a, .int .i64 s.b, .int .i64 s.f.id, .int .i64 s.f.kind, .int .i64 s.f.lo, .int .i64 s.f.hi, .int .i64 s.f.most, .int .i64 s.v.n, .string s.v.s, .slice ta s.t.length tc, .slice la s.l.length lc]
  lists : Lists w0 s ta la
  low : w0.heap.size ≤ B
  below : Below w0.heap.size w0 w
theorem BoxAt.later {w0 w w' : World} {B : Nat} {s : Sp} {ta la : Option Addr} {tc lc : Nat} (h : BoxAt w0 B s ta tc la lc w) (hb : Below w.heap.size w w') : BoxAt w0 B s ta tc la lc w' :=
  ⟨h.f.later hb, h.lists, h.low, h.below.trans (hb.mono h.below.size)⟩
theorem BoxAt.now {w0 w : World} {B : Nat} {s : Sp} {ta la : Option Addr} {tc lc : Nat} (h : BoxAt w0 B s ta tc la lc w) : Lists w s ta la := h.lists.below h.below
def Cleared (w0 : World) (B : Nat) (s : Sp) (e : Ending) (w' : World) : Prop := e = .returned (.tuple #[]) ∧ ∃ ta tc la lc, BoxAt w0 B s ta tc la lc w'
set_option maxRecDepth 20000 in
theorem clear0 {w0 : World} (B : Nat) (s : Sp) (ta : Option Addr) (tc : Nat) (la : Option Addr) (lc : Nat) (w : World) (h : BoxAt w0 B s ta tc la lc w) : Calls Try.prog 71 #[.pointer (some ⟨B, 0, none⟩), .int .i64 0] w (Cleared w0 B (s.clear 0)) := by
  have HF := hid h
  have hf := h.f
  have c1 := hf.cell 1
  have f1 := hf.frozen 1
  clear hf h
  go_enter Try.func71, Try.ntmps71
  go_wp2
  have h := HF.out
  have hL := h.lists
  have hB := h.f
  have hW := h.below
  replace hB := hB.setCell 1 (.int .i64 0)
  replace hW := below_setCells hW h.low 1 [.int .i64 0]
  exact ret0 rfl rfl ⟨rfl, ta, tc, la, lc, ⟨hB, ⟨hL.t, hL.l, hL.mt, hL.ml⟩, h.low, hW⟩⟩
set_option maxRecDepth 20000 in
theorem clear1 {w0 : World} (B : Nat) (s : Sp) (ta : Option Addr) (tc : Nat) (la : Option Addr) (lc : Nat) (w : World) (h : BoxAt w0 B s ta tc la lc w) : Calls Try.prog 71 #[.pointer (some ⟨B, 0, none⟩), .int .i64 1] w (Cleared w0 B (s.clear 1)) := by
  have HF := hid h
  have hf := h.f
  have c2 := hf.cell 2
  have f2 := hf.frozen 2
  clear hf h
  go_enter Try.func71, Try.ntmps71
  go_wp2
  have h := HF.out
  have hL := h.lists
  have hB := h.f
  have hW := h.below
  replace hB := hB.setCell 2 (.int .i64 0)
  replace hW := below_setCells hW h.low 2 [.int .i64 0]
  exact ret0 rfl rfl ⟨rfl, ta, tc, la, lc, ⟨hB, ⟨hL.t, hL.l, hL.mt, hL.ml⟩, h.low, hW⟩⟩
set_option maxRecDepth 20000 in
theorem clear2 {w0 : World} (B : Nat) (s : Sp) (ta : Option Addr) (tc : Nat) (la : Option Addr) (lc : Nat) (w : World) (h : BoxAt w0 B s ta tc la lc w) : Calls Try.prog 71 #[.pointer (some ⟨B, 0, none⟩), .int .i64 2] w (Cleared w0 B (s.clear 2)) := by
  have HF := hid h
  have hf := h.f
  have c3 := hf.cell 3
  have f3 := hf.frozen 3
  clear hf h
  go_enter Try.func71, Try.ntmps71
  go_wp2
  have h := HF.out
  have hL := h.lists
  have hB := h.f
  have hW := h.below
  replace hB := hB.setCell 3 (.int .i64 0)
  replace hW := below_setCells hW h.low 3 [.int .i64 0]
  exact ret0 rfl rfl ⟨rfl, ta, tc, la, lc, ⟨hB, ⟨hL.t, hL.l, hL.mt, hL.ml⟩, h.low, hW⟩⟩
set_option maxRecDepth 20000 in
theorem clear3 {w0 : World} (B : Nat) (s : Sp) (ta : Option Addr) (tc : Nat) (la : Option Addr) (lc : Nat) (w : World) (h : BoxAt w0 B s ta tc la lc w) : Calls Try.prog 71 #[.pointer (some ⟨B, 0, none⟩), .int .i64 3] w (Cleared w0 B (s.clear 3)) := by
  have HF := hid h
  have hf := h.f
  have c4 := hf.cell 4
  have f4 := hf.frozen 4
  clear hf h
  go_enter Try.func71, Try.ntmps71
  go_wp2
  have h := HF.out
  have hL := h.lists
  have hB := h.f
  have hW := h.below
  replace hB := hB.setCell 4 (.int .i64 0)
  replace hW := below_setCells hW h.low 4 [.int .i64 0]
  exact ret0 rfl rfl ⟨rfl, ta, tc, la, lc, ⟨hB, ⟨hL.t, hL.l, hL.mt, hL.ml⟩, h.low, hW⟩⟩
set_option maxRecDepth 20000 in
theorem clear4 {w0 : World} (B : Nat) (s : Sp) (ta : Option Addr) (tc : Nat) (la : Option Addr) (lc : Nat) (w : World) (h : BoxAt w0 B s ta tc la lc w) : Calls Try.prog 71 #[.pointer (some ⟨B, 0, none⟩), .int .i64 4] w (Cleared w0 B (s.clear 4)) := by
  have HF := hid h
  have hf := h.f
  have c5 := hf.cell 5
  have f5 := hf.frozen 5
  clear hf h
  go_enter Try.func71, Try.ntmps71
  go_wp2
  have h := HF.out
  have hL := h.lists
  have hB := h.f
  have hW := h.below
  replace hB := hB.setCell 5 (.int .i64 0)
  replace hW := below_setCells hW h.low 5 [.int .i64 0]
  exact ret0 rfl rfl ⟨rfl, ta, tc, la, lc, ⟨hB, ⟨hL.t, hL.l, hL.mt, hL.ml⟩, h.low, hW⟩⟩
set_option maxRecDepth 20000 in
theorem clear5 {w0 : World} (B : Nat) (s : Sp) (ta : Option Addr) (tc : Nat) (la : Option Addr) (lc : Nat) (w : World) (h : BoxAt w0 B s ta tc la lc w) : Calls Try.prog 71 #[.pointer (some ⟨B, 0, none⟩), .int .i64 5] w (Cleared w0 B (s.clear 5)) := by
  have HF := hid h
  have hf := h.f
  have c5 := hf.cell 5
  have f5 := hf.frozen 5
  have c6 := hf.cell 6
  have f6 := hf.frozen 6
  clear hf h
  go_enter Try.func71, Try.ntmps71
  go_wp2
  have h := HF.out
  have hL := h.lists
  have hB := h.f
  have hW := h.below
  replace hB := hB.setCell 5 (.int .i64 0)
  replace hW := below_setCells hW h.low 5 [.int .i64 0]
  replace hB := hB.setCell 6 (.int .i64 0)
  replace hW := below_setCells hW h.low 6 [.int .i64 0]
  exact ret0 rfl rfl ⟨rfl, ta, tc, la, lc, ⟨hB, ⟨hL.t, hL.l, hL.mt, hL.ml⟩, h.low, hW⟩⟩
set_option maxRecDepth 20000 in
theorem clear6 {w0 : World} (B : Nat) (s : Sp) (ta : Option Addr) (tc : Nat) (la : Option Addr) (lc : Nat) (w : World) (h : BoxAt w0 B s ta tc la lc w) : Calls Try.prog 71 #[.pointer (some ⟨B, 0, none⟩), .int .i64 6] w (Cleared w0 B (s.clear 6)) := by
  have HF := hid h
  have hf := h.f
  have c5 := hf.cell 5
  have f5 := hf.frozen 5
  have c14 := hf.cell 14
  have f14 := hf.frozen 14
  clear hf h
  go_enter Try.func71, Try.ntmps71
  go_wp2
  have h := HF.out
  have hL := h.lists
  have hB := h.f
  have hW := h.below
  replace hB := hB.setCell 5 (.int .i64 0)
  replace hW := below_setCells hW h.low 5 [.int .i64 0]
  replace hB := hB.setCell 14 (.slice none 0 0)
  replace hW := below_setCells hW h.low 14 [.slice none 0 0]
  exact ret0 rfl rfl ⟨rfl, none, 0, la, lc, ⟨hB, ⟨.inl rfl, hL.l, Nat.zero_le _, hL.ml⟩, h.low, hW⟩⟩
set_option maxRecDepth 20000 in
theorem clear7 {w0 : World} (B : Nat) (s : Sp) (ta : Option Addr) (tc : Nat) (la : Option Addr) (lc : Nat) (w : World) (h : BoxAt w0 B s ta tc la lc w) : Calls Try.prog 71 #[.pointer (some ⟨B, 0, none⟩), .int .i64 7] w (Cleared w0 B (s.clear 7)) := by
  have HF := hid h
  have hf := h.f
  have c14 := hf.cell 14
  have f14 := hf.frozen 14
  clear hf h
  go_enter Try.func71, Try.ntmps71
  go_wp2
  have h := HF.out
  have hL := h.lists
  have hB := h.f
  have hW := h.below
  replace hB := hB.setCell 14 (.slice none 0 0)
  replace hW := below_setCells hW h.low 14 [.slice none 0 0]
  exact ret0 rfl rfl ⟨rfl, none, 0, la, lc, ⟨hB, ⟨.inl rfl, hL.l, Nat.zero_le _, hL.ml⟩, h.low, hW⟩⟩
set_option maxRecDepth 20000 in
theorem clear8 {w0 : World} (B : Nat) (s : Sp) (ta : Option Addr) (tc : Nat) (la : Option Addr) (lc : Nat) (w : World) (h : BoxAt w0 B s ta tc la lc w) : Calls Try.prog 71 #[.pointer (some ⟨B, 0, none⟩), .int .i64 8] w (Cleared w0 B (s.clear 8)) := by
  have HF := hid h
  have hf := h.f
  have c7 := hf.cell 7
  have f7 := hf.frozen 7
  have c8 := hf.cell 8
  have f8 := hf.frozen 8
  have c9 := hf.cell 9
  have f9 := hf.frozen 9
  have c10 := hf.cell 10
  have f10 := hf.frozen 10
  have c11 := hf.cell 11
  have f11 := hf.frozen 11
  clear hf h
  go_enter Try.func71, Try.ntmps71
  go_wp2
  have h := HF.out
  have hL := h.lists
  have hB := h.f
  have hW := h.below
  replace hB := hB.setCell 7 (.int .i64 0)
  replace hW := below_setCells hW h.low 7 [.int .i64 0]
  replace hB := hB.setCell 8 (.int .i64 0)
  replace hW := below_setCells hW h.low 8 [.int .i64 0]
  replace hB := hB.setCell 9 (.int .i64 0)
  replace hW := below_setCells hW h.low 9 [.int .i64 0]
  replace hB := hB.setCell 10 (.int .i64 0)
  replace hW := below_setCells hW h.low 10 [.int .i64 0]
  replace hB := hB.setCell 11 (.int .i64 0)
  replace hW := below_setCells hW h.low 11 [.int .i64 0]
  exact ret0 rfl rfl ⟨rfl, ta, tc, la, lc, ⟨hB, ⟨hL.t, hL.l, hL.mt, hL.ml⟩, h.low, hW⟩⟩
set_option maxRecDepth 20000 in
theorem clear9 {w0 : World} (B : Nat) (s : Sp) (ta : Option Addr) (tc : Nat) (la : Option Addr) (lc : Nat) (w : World) (h : BoxAt w0 B s ta tc la lc w) : Calls Try.prog 71 #[.pointer (some ⟨B, 0, none⟩), .int .i64 9] w (Cleared w0 B (s.clear 9)) := by
  have HF := hid h
  have hf := h.f
  have c7 := hf.cell 7
  have f7 := hf.frozen 7
  have c8 := hf.cell 8
  have f8 := hf.frozen 8
  have c9 := hf.cell 9
  have f9 := hf.frozen 9
  have c10 := hf.cell 10
  have f10 := hf.frozen 10
  have c11 := hf.cell 11
  have f11 := hf.frozen 11
  have c12 := hf.cell 12
  have f12 := hf.frozen 12
  have c13 := hf.cell 13
  have f13 := hf.frozen 13
  clear hf h
  go_enter Try.func71, Try.ntmps71
  go_wp2
  have h := HF.out
  have hL := h.lists
  have hB := h.f
  have hW := h.below
  replace hB := hB.setCell 7 (.int .i64 0)
  replace hW := below_setCells hW h.low 7 [.int .i64 0]
  replace hB := hB.setCell 8 (.int .i64 0)
  replace hW := below_setCells hW h.low 8 [.int .i64 0]
  replace hB := hB.setCell 9 (.int .i64 0)
  replace hW := below_setCells hW h.low 9 [.int .i64 0]
  replace hB := hB.setCell 10 (.int .i64 0)
  replace hW := below_setCells hW h.low 10 [.int .i64 0]
  replace hB := hB.setCell 11 (.int .i64 0)
  replace hW := below_setCells hW h.low 11 [.int .i64 0]
  replace hB := hB.setCell 12 (.int .i64 0)
  replace hW := below_setCells hW h.low 12 [.int .i64 0]
  replace hB := hB.setCell 13 (.string ⟨#[]⟩)
  replace hW := below_setCells hW h.low 13 [.string ⟨#[]⟩]
  exact ret0 rfl rfl ⟨rfl, ta, tc, la, lc, ⟨hB, ⟨hL.t, hL.l, hL.mt, hL.ml⟩, h.low, hW⟩⟩
set_option maxRecDepth 20000 in
theorem clear10 {w0 : World} (B : Nat) (s : Sp) (ta : Option Addr) (tc : Nat) (la : Option Addr) (lc : Nat) (w : World) (h : BoxAt w0 B s ta tc la lc w) : Calls Try.prog 71 #[.pointer (some ⟨B, 0, none⟩), .int .i64 10] w (Cleared w0 B (s.clear 10)) := by
  have HF := hid h
  have hf := h.f
  have c12 := hf.cell 12
  have f12 := hf.frozen 12
  have c13 := hf.cell 13
  have f13 := hf.frozen 13
  clear hf h
  go_enter Try.func71, Try.ntmps71
  go_wp2
  have h := HF.out
  have hL := h.lists
  have hB := h.f
  have hW := h.below
  replace hB := hB.setCell 12 (.int .i64 0)
  replace hW := below_setCells hW h.low 12 [.int .i64 0]
  replace hB := hB.setCell 13 (.string ⟨#[]⟩)
  replace hW := below_setCells hW h.low 13 [.string ⟨#[]⟩]
  exact ret0 rfl rfl ⟨rfl, ta, tc, la, lc, ⟨hB, ⟨hL.t, hL.l, hL.mt, hL.ml⟩, h.low, hW⟩⟩
set_option maxRecDepth 20000 in
theorem clear11 {w0 : World} (B : Nat) (s : Sp) (ta : Option Addr) (tc : Nat) (la : Option Addr) (lc : Nat) (w : World) (h : BoxAt w0 B s ta tc la lc w) : Calls Try.prog 71 #[.pointer (some ⟨B, 0, none⟩), .int .i64 11] w (Cleared w0 B (s.clear 11)) := by
  have HF := hid h
  have hf := h.f
  have c15 := hf.cell 15
  have f15 := hf.frozen 15
  clear hf h
  go_enter Try.func71, Try.ntmps71
  go_wp2
  have h := HF.out
  have hL := h.lists
  have hB := h.f
  have hW := h.below
  replace hB := hB.setCell 15 (.slice none 0 0)
  replace hW := below_setCells hW h.low 15 [.slice none 0 0]
  exact ret0 rfl rfl ⟨rfl, ta, tc, none, 0, ⟨hB, ⟨hL.t, .inl rfl, hL.mt, Nat.zero_le _⟩, h.low, hW⟩⟩
theorem clear_any {w0 : World} (B : Nat) (s : Sp) (ta : Option Addr) (tc : Nat) (la : Option Addr) (lc : Nat) (m : Nat) (hm : m < 12) (w : World) (h : BoxAt w0 B s ta tc la lc w) : Calls Try.prog 71 #[.pointer (some ⟨B, 0, none⟩), .int .i64 (m : Int)] w (Cleared w0 B (s.clear m)) := by
  match m, hm with
  | 0, _ => exact clear0 B s ta tc la lc w h
  | 1, _ => exact clear1 B s ta tc la lc w h
  | 2, _ => exact clear2 B s ta tc la lc w h
  | 3, _ => exact clear3 B s ta tc la lc w h
  | 4, _ => exact clear4 B s ta tc la lc w h
  | 5, _ => exact clear5 B s ta tc la lc w h
  | 6, _ => exact clear6 B s ta tc la lc w h
  | 7, _ => exact clear7 B s ta tc la lc w h
  | 8, _ => exact clear8 B s ta tc la lc w h
  | 9, _ => exact clear9 B s ta tc la lc w h
  | 10, _ => exact clear10 B s ta tc la lc w h
  | 11, _ => exact clear11 B s ta tc la lc w h
end Go.Proofs.Ytiajpjkkopdmgaa.step
/- Lists of fields held against each other (slices.Equal). No condition. -/
namespace Go.Proofs.Ytiajpjkkopdmgaa.schema
open Go.RowKit
open Go.Proofs.Ytiajpjkkopdmgaa.field (Gives newB gives_from)
set_option linter.unusedVariables false

theorem neq_fd (p q : field.Fd) (w : World) : (binOp .neq 26 (.agg #[.int .i64 p.id, .int .i64 p.kind, .int .i64 p.lo, .int .i64 p.hi, .int .i64 p.most]) (.agg #[.int .i64 q.id, .int .i64 q.kind, .int .i64 q.lo, .int .i64 q.hi, .int .i64 q.most])).run Try.prog w = .ok (.bool (!decide (p = q))) w := by
  rw [run_neq_struct, show (10000 : Nat) = 9999 + 1 from rfl, run_equalIn_struct w 9999 26 _ _ (by kernel_rfl) Try.stoodInHeld26]
  go_simp
  obtain ⟨i, k, lo, hi, m⟩ := p
  obtain ⟨i', k', lo', hi', m'⟩ := q
  simp only [field.Fd.mk.injEq]
  by_cases h1 : i = i'
  · by_cases h2 : k = k'
    · by_cases h3 : lo = lo'
      · by_cases h4 : hi = hi'
        · by_cases h5 : m = m' <;> simp [h1, h2, h3, h4, h5]
        · simp [h1, h2, h3, h4]
      · simp [h1, h2, h3]
    · simp [h1, h2]
  · simp [h1]
theorem eq_take_succ {α : Type} {L M : List α} {k : Nat} {p q : α} (hp : L[k]? = some p) (hq : M[k]? = some q) : L.take (k + 1) = M.take (k + 1) ↔ L.take k = M.take k ∧ p = q := by
  rw [take_succ_at hp, take_succ_at hq]
  have h1 := (List.getElem?_eq_some_iff.1 hp).1
  have h2 := (List.getElem?_eq_some_iff.1 hq).1
  constructor
  · intro h
    have := List.append_inj' h rfl
    exact ⟨this.1, by simpa using this.2⟩
  · rintro ⟨h, rfl⟩; rw [h]
theorem equalF_any (a : Option Addr) (ca : Nat) (L : List field.Fd) (b : Option Addr) (cb : Nat) (M : List field.Fd) (w : World) (h : field.Fds w a L) (h' : field.Fds w b M) (hL : L.length ≤ maxLen) (hM : M.length ≤ maxLen) :
    Calls Try.prog 99 #[.slice a L.length ca, .slice b M.length cb] w (Gives (.bool (decide (L = M))) w) := by
  have hml : (L.length : Int) ≤ 9223372036854775807 := by unfold maxLen at hL; omega
  have hmm : (M.length : Int) ≤ 9223372036854775807 := by unfold maxLen at hM; omega
  have HF := hid h
  have HG := hid h'
  obtain ⟨r, hr⟩ : ∃ r : Bool, Hid (decide (L = M) = r) := ⟨_, rfl⟩
  rw [hr.out]
  unfold Gives
  clear h h' hL hM
  by_cases hlen : L.length = M.length
  · have HLEN := hid hlen
    rw [← hlen]
    clear hlen hmm
    go_enter Try.func99, Try.ntmps99
    go_wp2
    go_loopw [13] (fun n wr => ∃ k : Nat, k ≤ L.length ∧ n = .int .i64 (k : Int) ∧ Hid (L.take k = M.take k) ∧ Hid (Below w.heap.size w wr)) (fun n _ => L.length - (intOf n).toNat)
    case atStart => exact ⟨0, Nat.zero_le _, rfl, hid rfl, hid (Below.refl _ _)⟩
    case round =>
      obtain ⟨k, hk, rfl, HEQ, HB⟩ := hrel
      by_cases hlt : k < L.length
      · obtain ⟨g, off, p, rfl, hbl, hp, c0, c1, c2, c3, c4⟩ := field_at HF.out HB.out hlt
        obtain ⟨g', off', q, rfl, hbl', hq, d0, d1, d2, d3, d4⟩ := field_at HG.out HB.out (k := k) (by rw [← HLEN.out]; exact hlt)
        have i1 : (k : Int) < L.length := by omega
        have HS := hid (eq_take_succ hp hq)
        have hne := fun W => neq_fd p q W
        have HNE := hid (fun (hpq : ¬ p = q) => show ¬ L = M from fun e => by rw [e] at hp; exact hpq (Option.some.inj (hp.symm.trans hq)))
        clear hp hq
        by_cases hpq : p = q
        · rw [decide_eq_true hpq] at hne
          have HPQ := hid hpq
          clear hpq
          go_wp2
          go_quiet (fail)
          go_wp2
          exact ⟨⟨k + 1, by omega, by go_num, hid (HS.out.2 ⟨HEQ.out, HPQ.out⟩), hid (below_drewN HB.out _)⟩, by simp [intOf]; omega⟩
        · rw [decide_eq_false hpq] at hne
          obtain rfl : false = r := by rw [← hr.out]; exact (decide_eq_false (HNE.out hpq)).symm
          clear hpq
          go_wp2
          go_quiet (fail)
          go_wp2
          go_ret
          exact ⟨rfl, below_drewN HB.out _⟩
      · obtain rfl : k = L.length := by omega
        obtain rfl : true = r := by
          rw [← hr.out]
          have := HEQ.out
          rw [List.take_of_length_le (Nat.le_refl _), List.take_of_length_le (by rw [HLEN.out]; exact Nat.le_refl _)] at this
          exact (decide_eq_true this).symm
        go_wp2
        go_ret
        exact ⟨rfl, HB.out⟩
  · obtain rfl : false = r := by rw [← hr.out]; exact (decide_eq_false (fun e => hlen (by rw [e]))).symm
    have hd : ((L.length : Int) == (M.length : Int)) = false := by rw [beq_eq_false_iff_ne]; omega
    clear hlen
    go_enter Try.func99, Try.ntmps99
    go_wp2
    go_ret
    exact ⟨rfl, Below.refl _ _⟩
end Go.Proofs.Ytiajpjkkopdmgaa.schema
/- Contracts of layer 15 (step): numbers, Same, with slices.Equal; of the reference: Same. No condition. -/
namespace Go.Proofs.Ytiajpjkkopdmgaa.step
open Go.RowKit
open Go.Proofs.Ytiajpjkkopdmgaa.field (Gives newB gives_from)
open Go.Proofs.Ytiajpjkkopdmgaa.schema (below_out take_succ_at eq_take_succ neq_fd equalF_any exec_two exec_load_at exec_cell_slice info_fd)
set_option linter.unusedVariables false

/-! '==' of arrays, fields, values -/
theorem eq_seven (a b c d e f g a' b' c' d' e' f' g' : Int) (w : World) : (binOp .eql 123 (.agg #[.int .i64 a, .int .i64 b, .int .i64 c, .int .i64 d, .int .i64 e, .int .i64 f, .int .i64 g]) (.agg #[.int .i64 a', .int .i64 b', .int .i64 c', .int .i64 d', .int .i64 e', .int .i64 f', .int .i64 g'])).run Try.prog w = .ok (.bool (decide (a = a' ∧ b = b' ∧ c = c' ∧ d = d' ∧ e = e' ∧ f = f' ∧ g = g'))) w := by
  have u3 := Try.underlying3
  have a3 := Try.isAgg3
  have z3 := Try.sizeOf3
  rw [run_eql_struct, show (10000 : Nat) = 9999 + 1 from rfl, Op.equalIn]
  simp only [Sem.run_bind, run_underlying Try.underlying123, Result.andThen_ok]
  simp only [Std.Legacy.Range.forIn_eq_forIn_range', Std.Legacy.Range.size, Nat.sub_zero, Nat.add_sub_cancel, Nat.div_one, List.range'_succ, List.range'_zero, List.forIn_cons, List.forIn_nil]
  go_simp
  by_cases h1 : a = a'
  · by_cases h2 : b = b'
    · by_cases h3 : c = c'
      · by_cases h4 : d = d'
        · by_cases h5 : e = e'
          · by_cases h6 : f = f'
            · by_cases h7 : g = g' <;> simp [h1, h2, h3, h4, h5, h6, h7]
            · simp [h1, h2, h3, h4, h5, h6]
          · simp [h1, h2, h3, h4, h5]
        · simp [h1, h2, h3, h4]
      · simp [h1, h2, h3]
    · simp [h1, h2]
  · simp [h1]
theorem eqg_seven (x y : Operand) (u v : Array Value) (w : World) : (eqGuard .eql 123 x y (.agg u) (.agg v)).run Try.prog w = .ok () w :=
  run_eqGuard_agg w .eql 123 x y _ _ (by kernel_rfl)
theorem eq_fd (p q : field.Fd) (w : World) : (binOp .eql 26 (.agg #[.int .i64 p.id, .int .i64 p.kind, .int .i64 p.lo, .int .i64 p.hi, .int .i64 p.most]) (.agg #[.int .i64 q.id, .int .i64 q.kind, .int .i64 q.lo, .int .i64 q.hi, .int .i64 q.most])).run Try.prog w = .ok (.bool (decide (p = q))) w := by
  rw [run_eql_struct, show (10000 : Nat) = 9999 + 1 from rfl, run_equalIn_struct w 9999 26 _ _ (by kernel_rfl) Try.stoodInHeld26]
  go_simp
  obtain ⟨i, k, lo, hi, m⟩ := p
  obtain ⟨i', k', lo', hi', m'⟩ := q
  simp only [field.Fd.mk.injEq]
  by_cases h1 : i = i'
  · by_cases h2 : k = k'
    · by_cases h3 : lo = lo'
      · by_cases h4 : hi = hi'
        · by_cases h5 : m = m' <;> simp [h1, h2, h3, h4, h5]
        · simp [h1, h2, h3, h4]
      · simp [h1, h2, h3]
    · simp [h1, h2]
  · simp [h1]
theorem eqg_fd (op : BinOp) (x y : Operand) (u v : Array Value) (w : World) : (eqGuard op 26 x y (.agg u) (.agg v)).run Try.prog w = .ok () w :=
  run_eqGuard_agg w op 26 x y _ _ (by kernel_rfl)
theorem eq_va (p q : field.Va) (w : World) : (binOp .eql 28 (.agg #[.int .i64 p.n, .string p.s]) (.agg #[.int .i64 q.n, .string q.s])).run Try.prog w = .ok (.bool (decide (p = q))) w := by
  rw [run_eql_struct, show (10000 : Nat) = 9999 + 1 from rfl, run_equalIn_struct w 9999 28 _ _ (by kernel_rfl) Try.stoodInHeld28]
  go_simp
  obtain ⟨n, s⟩ := p
  obtain ⟨m, t⟩ := q
  rw [show decide ((⟨n, s⟩ : field.Va) = ⟨m, t⟩) = decide (n = m ∧ s.toList = t.toList) from decide_eq_decide.2 record.va_eq]
  by_cases h1 : n = m
  · by_cases h2 : s.toList = t.toList <;> simp [h1, h2]
  · simp [h1]
theorem neq_va (p q : field.Va) (w : World) : (binOp .neq 28 (.agg #[.int .i64 p.n, .string p.s]) (.agg #[.int .i64 q.n, .string q.s])).run Try.prog w = .ok (.bool (!decide (p = q))) w := by
  rw [run_neq_struct, show (10000 : Nat) = 9999 + 1 from rfl, run_equalIn_struct w 9999 28 _ _ (by kernel_rfl) Try.stoodInHeld28]
  go_simp
  obtain ⟨n, s⟩ := p
  obtain ⟨m, t⟩ := q
  rw [show decide ((⟨n, s⟩ : field.Va) = ⟨m, t⟩) = decide (n = m ∧ s.toList = t.toList) from decide_eq_decide.2 record.va_eq]
  by_cases h1 : n = m
  · by_cases h2 : s.toList = t.toList <;> simp [h1, h2]
  · simp [h1]
theorem eqg_va (op : BinOp) (x y : Operand) (u v : Array Value) (w : World) : (eqGuard op 28 x y (.agg u) (.agg v)).run Try.prog w = .ok () w :=
  run_eqGuard_agg w op 28 x y _ _ (by kernel_rfl)
/-! lists of numbers -/
theorem equalI_any (a : Option Addr) (ca : Nat) (L : List Int) (b : Option Addr) (cb : Nat) (M : List Int) (w : World) (h : Ins w a L) (h' : Ins w b M) (hL : L.length ≤ maxLen) (hM : M.length ≤ maxLen) :
    Calls Try.prog 98 #[.slice a L.length ca, .slice b M.length cb] w (Gives (.bool (decide (L = M))) w) := by
  have hml : (L.length : Int) ≤ 9223372036854775807 := by unfold maxLen at hL; omega
  have hmm : (M.length : Int) ≤ 9223372036854775807 := by unfold maxLen at hM; omega
  have HF := hid h
  have HG := hid h'
  obtain ⟨r, hr⟩ : ∃ r : Bool, Hid (decide (L = M) = r) := ⟨_, rfl⟩
  rw [hr.out]
  unfold Gives
  clear h h' hL hM
  by_cases hlen : L.length = M.length
  · have HLEN := hid hlen
    rw [← hlen]
    clear hlen hmm
    go_enter Try.func98, Try.ntmps98
    go_wp2
    go_loopw [13] (fun n wr => ∃ k : Nat, k ≤ L.length ∧ n = .int .i64 (k : Int) ∧ Hid (L.take k = M.take k) ∧ Hid (Below w.heap.size w wr)) (fun n _ => L.length - (intOf n).toNat)
    case atStart => exact ⟨0, Nat.zero_le _, rfl, hid rfl, hid (Below.refl _ _)⟩
    case round =>
      obtain ⟨k, hk, rfl, HEQ, HB⟩ := hrel
      by_cases hlt : k < L.length
      · obtain ⟨g, off, p, rfl, hbl, hp, c0⟩ := int_at HF.out HB.out hlt
        obtain ⟨g', off', q, rfl, hbl', hq, d0⟩ := int_at HG.out HB.out (k := k) (by rw [← HLEN.out]; exact hlt)
        have i1 : (k : Int) < L.length := by omega
        have HS := hid (eq_take_succ hp hq)
        have HNE := hid (fun (hpq : ¬ p = q) => show ¬ L = M from fun e => by rw [e] at hp; exact hpq (Option.some.inj (hp.symm.trans hq)))
        clear hp hq
        by_cases hpq : p = q
        · have HPQ := hid hpq
          have hd : (p == q) = true := by rw [beq_iff_eq]; exact hpq
          have hd2 : (p != q) = false := by simp [hpq]
          clear hpq
          go_wp2
          go_quiet (fail)
          go_wp2
          exact ⟨⟨k + 1, by omega, by go_num, hid (HS.out.2 ⟨HEQ.out, HPQ.out⟩), hid (below_drewN HB.out _)⟩, by simp [intOf]; omega⟩
        · obtain rfl : false = r := by rw [← hr.out]; exact (decide_eq_false (HNE.out hpq)).symm
          have hd : (p == q) = false := by rw [beq_eq_false_iff_ne]; exact hpq
          have hd2 : (p != q) = true := by simp [hpq]
          clear hpq
          go_wp2
          go_quiet (fail)
          go_wp2
          go_ret
          exact ⟨rfl, below_drewN HB.out _⟩
      · obtain rfl : k = L.length := by omega
        obtain rfl : true = r := by
          rw [← hr.out]
          have := HEQ.out
          rw [List.take_of_length_le (Nat.le_refl _), List.take_of_length_le (by rw [HLEN.out]; exact Nat.le_refl _)] at this
          exact (decide_eq_true this).symm
        go_wp2
        go_ret
        exact ⟨rfl, HB.out⟩
  · obtain rfl : false = r := by rw [← hr.out]; exact (decide_eq_false (fun e => hlen (by rw [e]))).symm
    have hd : ((L.length : Int) == (M.length : Int)) = false := by rw [beq_eq_false_iff_ne]; omega
    clear hlen
    go_enter Try.func98, Try.ntmps98
    go_wp2
    go_ret
    exact ⟨rfl, Below.refl _ _⟩
theorem numbers_any (s : Sp) (ta : Option Addr) (tc : Nat) (la : Option Addr) (lc : Nat) (w : World) : Calls Try.prog 97 #[.agg #[.int .i64 s.op, .int .i64 s.fm, .int .i64 s.fd, .int .i64 s.pl, .int .i64 s.tt, .int .i64 s.a, .int .i64 s.b, .int .i64 s.f.id, .int .i64 s.f.kind, .int .i64 s.f.lo, .int .i64 s.f.hi, .int .i64 s.f.most, .int .i64 s.v.n, .string s.v.s, .slice ta s.t.length tc, .slice la s.l.length lc]] w (Gives (.agg #[.int .i64 s.op, .int .i64 s.fm, .int .i64 s.fd, .int .i64 s.pl, .int .i64 s.tt, .int .i64 s.a, .int .i64 s.b]) w) := by
  have HW := hid (newB w (.cells #[.int .i64 s.op, .int .i64 s.fm, .int .i64 s.fd, .int .i64 s.pl, .int .i64 s.tt, .int .i64 s.a, .int .i64 s.b, .int .i64 s.f.id, .int .i64 s.f.kind, .int .i64 s.f.lo, .int .i64 s.f.hi, .int .i64 s.f.most, .int .i64 s.v.n, .string s.v.s, .slice ta s.t.length tc, .slice la s.l.length lc] 32))
  unfold Gives
  go_enter Try.func97, Try.ntmps97
  go_wp2
  go_returns
  exact ⟨rfl, HW.out.trans ((newB _ _).mono (by simp))⟩
end Go.Proofs.Ytiajpjkkopdmgaa.step
