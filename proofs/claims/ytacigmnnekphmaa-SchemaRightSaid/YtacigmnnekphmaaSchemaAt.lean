/- Contracts of layer 13 (schema): At, and slices.IndexFunc with its function. No condition. -/
import Derived.Test.YtacigmnnekphmaaSchemaRight
namespace Go.Proofs.Ytacigmnnekphmaa.schema
open Go.RowKit
open Go.Proofs.Ytacigmnnekphmaa.field (Gives newB gives_from)
set_option linter.unusedVariables false

/-- the place of the first x, or -1 -/
def firstAt (l : List Int) (x : Int) : Int := if x ∈ l then (l.idxOf x : Int) else -1
theorem idxOf_hit : ∀ (l : List Int) (k : Nat) (x : Int), x ∉ l.take k → l[k]? = some x → l.idxOf x = k := by
  intro l
  induction l with
  | nil => intro k x _ h; simp at h
  | cons y l ih =>
    intro k x hn h
    cases k with
    | zero => simp at h; subst h; simp
    | succ k =>
      simp only [List.take_succ_cons, List.mem_cons, not_or] at hn
      have hb : (y == x) = false := beq_eq_false_iff_ne.2 (Ne.symm hn.1)
      rw [List.idxOf_cons, hb, ih k x hn.2 (by simpa using h)]
      rfl
theorem first_hit {l : List Int} {k : Nat} {x : Int} (hn : x ∉ l.take k) (h : l[k]? = some x) : firstAt l x = k := by
  unfold firstAt
  rw [if_pos (List.mem_of_getElem? h), idxOf_hit l k x hn h]
theorem first_none {l : List Int} {x : Int} (hn : x ∉ l) : firstAt l x = -1 := if_neg hn
theorem not_take_succ {l : List Int} {k : Nat} {x y : Int} (hn : x ∉ l.take k) (h : l[k]? = some y) (hy : y ≠ x) : x ∉ l.take (k + 1) := by
  rw [take_succ_at h]; simp [hn]; omega
theorem ids_at {L : List field.Fd} {k : Nat} {p : field.Fd} (h : L[k]? = some p) : (ids L)[k]? = some p.id := by simp [ids, h]
theorem ids_length (L : List field.Fd) : (ids L).length = L.length := List.length_map _
theorem hmf (fn : Fn) (first cap : Array Value) (w : World) : (Instr.makeFunc fn first cap).run Try.prog w = .ok (.func fn first cap) w := rfl

theorem isField_any (p : field.Fd) (x : Int) (b : Nat) (w : World) (hc : w.cell? ⟨b, 0, none⟩ = some (.int .i64 x)) (hb : b < w.heap.size) :
    Calls Try.prog 34 #[.agg #[.int .i64 p.id, .int .i64 p.kind, .int .i64 p.lo, .int .i64 p.hi, .int .i64 p.most], .pointer (some ⟨b, 0, none⟩)] w (Gives (.bool (p.id == x)) w) := by
  have HN := hid (newB w (.cells #[.int .i64 p.id, .int .i64 p.kind, .int .i64 p.lo, .int .i64 p.hi, .int .i64 p.most] 50))
  obtain ⟨i, k, lo, hi, m⟩ := p
  simp only at HN ⊢
  obtain ⟨r, hr⟩ : ∃ r : Bool, Hid ((i == x) = r) := ⟨_, rfl⟩
  rw [hr.out]
  unfold Gives
  have hne : w.heap.size ≠ b := by omega
  go_enter Try.func34, Try.ntmps34
  go_wp2
  go_ret
  exact ⟨ret_bool hr.out, HN.out⟩
theorem indexField_any (a : Option Addr) (cap : Nat) (L : List field.Fd) (x : Int) (g : Nat) (w : World) (h : field.Fds w a L) (hL : L.length ≤ maxLen) (hc : w.cell? ⟨g, 0, none⟩ = some (.int .i64 x)) (hg : g < w.heap.size) :
    Calls Try.prog 33 #[.slice a L.length cap, .func (.func 34) #[] #[.pointer (some ⟨g, 0, none⟩)]] w (Gives (.int .i64 (firstAt (ids L) x)) w) := by
  have hml : (L.length : Int) ≤ 9223372036854775807 := by unfold maxLen at hL; omega
  have HF := hid h
  have HC := hid hc
  obtain ⟨r, hr⟩ : ∃ r : Int, Hid (firstAt (ids L) x = r) := ⟨_, rfl⟩
  rw [hr.out]
  unfold Gives
  clear h hL hc
  go_enter Try.func33, Try.ntmps33
  go_wp2
  go_loopw [8] (fun n wr => ∃ k : Nat, k ≤ L.length ∧ n = .int .i64 (k : Int) ∧ Hid (x ∉ (ids L).take k) ∧ Hid (Below w.heap.size w wr)) (fun n _ => L.length - (intOf n).toNat)
  case atStart => exact ⟨0, Nat.zero_le _, rfl, hid (by simp), hid (Below.refl _ _)⟩
  case round =>
    obtain ⟨k, hk, rfl, HNO, HB⟩ := hrel
    by_cases hlt : k < L.length
    · obtain ⟨b, off, p, rfl, hbl, hp, c0, c1, c2, c3, c4⟩ := field_at HF.out HB.out hlt
      have i1 : (k : Int) < L.length := by omega
      have HHIT := hid (fun e => first_hit HNO.out ((ids_at hp).trans (congrArg some e)))
      have HNX := hid (fun e => not_take_succ HNO.out (ids_at hp) e)
      have cs := isField_any p x g wr (by rw [HB.out.cell (p := ⟨g, 0, none⟩) hg]; exact HC.out) (Nat.lt_of_lt_of_le hg HB.out.size)
      clear hp
      by_cases hx : p.id = x
      · rw [show (p.id == x) = true from beq_iff_eq.2 hx] at cs
        obtain rfl : (k : Int) = r := by rw [← hr.out]; exact (HHIT.out hx).symm
        clear hx
        go_wp2_with (go_at_call 34; ((with_reducible refine cs.mono ?_); rintro e w2 ⟨rfl, hb2⟩))
        go_ret
        exact ⟨rfl, HB.out.trans (hb2.mono HB.out.size)⟩
      · rw [show (p.id == x) = false from beq_eq_false_iff_ne.2 hx] at cs
        have HX := hid hx
        clear hx
        go_wp2_with (go_at_call 34; ((with_reducible refine cs.mono ?_); rintro e w2 ⟨rfl, hb2⟩))
        exact ⟨⟨k + 1, by omega, by go_num, hid (HNX.out HX.out), hid (HB.out.trans (hb2.mono HB.out.size))⟩, by simp [intOf]; omega⟩
    · obtain rfl : k = L.length := by omega
      obtain rfl : -1 = r := by rw [← hr.out]; have := HNO.out; rw [List.take_of_length_le (by rw [ids_length]; exact Nat.le_refl _)] at this; exact (first_none this).symm
      go_wp2
      go_ret
      exact ⟨rfl, HB.out⟩
theorem at_any (i : Int) (a : Option Addr) (cap : Nat) (L : List field.Fd) (x : Int) (w : World) (h : field.Fds w a L) (hL : L.length ≤ maxLen) :
    Calls Try.prog 15 #[.agg #[.int .i64 i, .slice a L.length cap], .int .i64 x] w (Gives (.int .i64 (firstAt (ids L) x)) w) := by
  have h1 := newB w (.cells #[.int .i64 i, .slice a L.length cap] 29)
  have h2 := newB (w.alloc (.cells #[.int .i64 i, .slice a L.length cap] 29)) (.cells #[.int .i64 x] 3)
  have cI := indexField_any a cap L x (w.heap.size + 1) ((w.alloc (.cells #[.int .i64 i, .slice a L.length cap] 29)).alloc (.cells #[.int .i64 x] 3)) ((h.below h1).below h2) hL (by simp) (by simp)
  have HB := hid (h1.trans (h2.mono h1.size))
  clear h h1 h2
  generalize firstAt (ids L) x = r at *
  unfold Gives
  go_enter Try.func15, Try.ntmps15
  go_wp2_with (go_at_call 33; ((with_reducible refine cI.mono ?_); rintro e w2 ⟨rfl, hb2⟩))
  go_ret
  exact ⟨rfl, HB.out.trans (hb2.mono HB.out.size)⟩
end Go.Proofs.Ytacigmnnekphmaa.schema
