/- Contracts of slices.Clone at words and at ints, and of Words of layer 7 (flash). No condition but a row of at most 2^47 bytes. -/
import Derived.Test.YtdpddcmbilipfaaFlashLooks
import Derived.Test.YtdpddcmbilipfaaAppend
import Derived.Maps.AppendAt
import Derived.Laws.Cover3
namespace Go.Proofs.Ytdpddcmbilipfaa.flash
open Go.RowKit Go.Proofs.Ytdpddcmbilipfaa.word
set_option linter.unusedVariables false

def nums (k : IntKind) (xs : List Nat) : List Value := xs.map fun x : Nat => Value.int k (x : Int)
theorem nums_length (k : IntKind) (xs : List Nat) : (nums k xs).length = xs.length := by simp [nums]
theorem nums_one (k : IntKind) (xs : List Nat) : ∀ v ∈ nums k xs, v.oneCell' = true := by intro v hv; obtain ⟨x, _, rfl⟩ := List.mem_map.1 hv; rfl
theorem nums_get (k : IntKind) (xs : List Nat) (i : Nat) (h : i < xs.length) : (nums k xs)[i]? = some (.int k ((xs.getD i 0 : Nat) : Int)) := by
  simp only [nums, List.getElem?_map, List.getD_eq_getElem?_getD, List.getElem?_eq_getElem h]; rfl
theorem reads_news {k : IntKind} {w : World} {a : Option Addr} {len : Nat} {xs : List Nat} (h : Reads k w a len xs) : len = 0 ∨ ∃ ad, a = some ad ∧ ∀ j u, (nums k xs)[j]? = some u → w.cell? (ad.add j) = some u := by
  rcases h.2 with h0 | ⟨b, off, ha, _, hc⟩
  · exact .inl h0
  · refine .inr ⟨_, ha, fun j u hu => ?_⟩
    have hj : j < xs.length := by have := (List.getElem?_eq_some_iff.1 hu).1; rwa [nums_length] at this
    rw [nums_get k xs j hj] at hu
    cases hu
    rw [Addr.add_lit]
    exact hc j (by rw [← h.1]; exact hj)
/-- the call returns a row of its own that holds the numbers xs; nil for nil -/
def Copies (t : TypeId) (k : IntKind) (a : Option Addr) (xs : List Nat) (w : World) (e : Ending) (w' : World) : Prop :=
  ∃ v, e = .returned v ∧ w'.ownsRow w.heap.size t 1 v xs.length (nums k xs) ∧ Below w.heap.size w w' ∧ (a = none → v = .slice none 0 0)
theorem u32_info : (Try.prog.info? 32).map (fun i => (i.zero, i.size, i.bytes)) = some (some (.int .u32 0), 1, 4) := by kernel_rfl
theorem int_info : (Try.prog.info? 3).map (fun i => (i.zero, i.size, i.bytes)) = some (some (.int .i64 0), 1, 8) := by kernel_rfl

theorem u32_nil (W : World) (a : Option Addr) (n c : Nat) : (binOp .eql 33 (.slice a n c) (.slice none 0 0)).run Try.prog W = .ok (.bool a.isNone) W := by
  have h := run_equal_slice_nil (P := Try.prog) W 33 32 a n c Try.underlying33
  simp [binOp, h, Result.andThen]
theorem u32_clone (a : Option Addr) (m c : Nat) (xs : List Nat) (w : World) (hr : Reads .u32 w a m xs) (hn : m * 4 ≤ 140737488355328) :
    Calls Try.prog 27 #[.slice a m c] w (Copies 32 .u32 a xs w) := by
  obtain ⟨i0, hi, hz0, hz1, hz2⟩ := info_parts u32_info
  have HM : Hid (xs.length = m) := hr.1
  cases a with
  | none =>
    have en := u32_nil w none m c
    simp only [Option.isNone_none] at en
    have h0 : m = 0 := by rcases hr.2 with h | ⟨_, _, h, _⟩; exact h; cases h
    have HX := hid h0
    clear hr h0
    go_enter Try.func27, Try.ntmps27
    go_wp2
    go_ret
    obtain rfl : xs = [] := List.eq_nil_of_length_eq_zero (HM.out.trans HX.out)
    exact ⟨_, rfl, World.ownsRow_nil _ _ _ _, Below.refl _ _, fun _ => rfl⟩
  | some ad =>
    have en := u32_nil w (some ad) m c
    simp only [Option.isNone_some] at en
    have hb : Below w.heap.size w (w.alloc (.cells #[] 32)) := (Below.refl _ _).alloc (Nat.le_refl _) _
    have HB := hid hb
    have HN := hid (reads_news (hr.below hb))
    have HU := hid (nums_length .u32 xs)
    have HN2 : Hid (0 + m ≤ maxLen) := by show _ ≤ _; unfold maxLen; omega
    have HN3 : Hid ((0 + m) * 4 ≤ 140737488355328) := by show _ ≤ _; omega
    have HO := hid (World.ownsRow_made (base := w.heap.size) (e := 32) (size := 1) w #[] 0 (Nat.le_refl _) (Nat.zero_le _) rfl)
    clear hr hb hn
    go_enter Try.func27, Try.ntmps27
    go_wp2_with (at_builtin; refine wpList_append_from rfl _ _ 33 rfl w.heap.size 32 i0 (.int .u32 0) 4 Try.underlying33 hi hz0 hz1 hz2 rfl (.slice (some ⟨w.heap.size, 0, none⟩) 0 0) 0 [] rfl HO.out (some ad) m c (nums .u32 xs) rfl (by rw [HU.out, HM.out]) HN.out (nums_one .u32 xs) HN2.out HN3.out HB.out.size ?_)
    intro v' w1 ho hg
    have hbl : Below w.heap.size w w1 := HB.out.grown hg HB.out.size (fun k hk => by cases hk; exact Nat.le_refl _)
    have ho' : w1.ownsRow w.heap.size 32 1 v' xs.length (nums .u32 xs) := by
      rw [HM.out]; simpa using ho
    have HO2 := hid ho'
    have HB2 := hid hbl
    clear ho ho' hbl hg
    go_wp2
    go_ret
    exact ⟨_, rfl, HO2.out, HB2.out, fun h => by cases h⟩

theorem int_nil (W : World) (a : Option Addr) (n c : Nat) : (binOp .eql 41 (.slice a n c) (.slice none 0 0)).run Try.prog W = .ok (.bool a.isNone) W := by
  have h := run_equal_slice_nil (P := Try.prog) W 41 3 a n c Try.underlying41
  simp [binOp, h, Result.andThen]
theorem int_clone (a : Option Addr) (m c : Nat) (xs : List Nat) (w : World) (hr : Reads .i64 w a m xs) (hn : m * 8 ≤ 140737488355328) :
    Calls Try.prog 28 #[.slice a m c] w (Copies 3 .i64 a xs w) := by
  obtain ⟨i0, hi, hz0, hz1, hz2⟩ := info_parts int_info
  have HM : Hid (xs.length = m) := hr.1
  cases a with
  | none =>
    have en := int_nil w none m c
    simp only [Option.isNone_none] at en
    have h0 : m = 0 := by rcases hr.2 with h | ⟨_, _, h, _⟩; exact h; cases h
    have HX := hid h0
    clear hr h0
    go_enter Try.func28, Try.ntmps28
    go_wp2
    go_ret
    obtain rfl : xs = [] := List.eq_nil_of_length_eq_zero (HM.out.trans HX.out)
    exact ⟨_, rfl, World.ownsRow_nil _ _ _ _, Below.refl _ _, fun _ => rfl⟩
  | some ad =>
    have en := int_nil w (some ad) m c
    simp only [Option.isNone_some] at en
    have hb : Below w.heap.size w (w.alloc (.cells #[] 3)) := (Below.refl _ _).alloc (Nat.le_refl _) _
    have HB := hid hb
    have HN := hid (reads_news (hr.below hb))
    have HU := hid (nums_length .i64 xs)
    have HN2 : Hid (0 + m ≤ maxLen) := by show _ ≤ _; unfold maxLen; omega
    have HN3 : Hid ((0 + m) * 8 ≤ 140737488355328) := by show _ ≤ _; omega
    have HO := hid (World.ownsRow_made (base := w.heap.size) (e := 3) (size := 1) w #[] 0 (Nat.le_refl _) (Nat.zero_le _) rfl)
    clear hr hb hn
    go_enter Try.func28, Try.ntmps28
    go_wp2_with (at_builtin; refine wpList_append_from rfl _ _ 41 rfl w.heap.size 3 i0 (.int .i64 0) 8 Try.underlying41 hi hz0 hz1 hz2 rfl (.slice (some ⟨w.heap.size, 0, none⟩) 0 0) 0 [] rfl HO.out (some ad) m c (nums .i64 xs) rfl (by rw [HU.out, HM.out]) HN.out (nums_one .i64 xs) HN2.out HN3.out HB.out.size ?_)
    intro v' w1 ho hg
    have hbl : Below w.heap.size w w1 := HB.out.grown hg HB.out.size (fun k hk => by cases hk; exact Nat.le_refl _)
    have ho' : w1.ownsRow w.heap.size 3 1 v' xs.length (nums .i64 xs) := by
      rw [HM.out]; simpa using ho
    have HO2 := hid ho'
    have HB2 := hid hbl
    clear ho ho' hbl hg
    go_wp2
    go_ret
    exact ⟨_, rfl, HO2.out, HB2.out, fun h => by cases h⟩

theorem words_nil (w : World) : Calls Try.prog 19 #[.pointer none] w (Quiet (.slice none 0 0) w) := by
  go_enter Try.func19, Try.ntmps19
  go_wp2
  go_ret
  exact ⟨rfl, 0, rfl⟩
theorem words_any {S : Nat → Prop} {b : Nat} {F : Fl} {ca cb cm : Value} {bw cw bv cv : Nat} {w : World} (h : At S b F ca cb cm bw cw bv cv w) (ok : F.Ok) :
    Calls Try.prog 19 #[.pointer (some ⟨b, 0, none⟩)] w fun e w' => ∃ g cap, e = .returned (.slice (some ⟨g, 0, none⟩) F.ws.length cap) ∧ w.heap.size ≤ g ∧ Row w' 32 .u32 g cap F.ws ∧ Below w.heap.size w w' := by
  have c3 : w.cell? ⟨b, 3, none⟩ = some (.slice (some ⟨bw, 0, none⟩) F.ws.length cw) := h.cell.2.2.2.1
  have hc := u32_clone (some ⟨bw, 0, none⟩) F.ws.length cw F.ws w h.ws.reads (by have := ok.ws_le; omega)
  have HP := hid ok.ws_pos
  clear h ok
  go_enter Try.func19, Try.ntmps19
  go_wp2_with (go_at_call 27; (with_reducible refine hc.mono ?_); clear hc; rintro e w1 ⟨v, rfl, ho, hb, _⟩)
  go_ret
  obtain ⟨g, cap, rfl, hg, hr⟩ := Row.own ho HP.out
  exact ⟨g, cap, rfl, hg, hr, hb⟩
end Go.Proofs.Ytdpddcmbilipfaa.flash
