/- Contract of Hex, for every string of at most 2^46 bytes. No other condition. -/
import Derived.Test.YtdlebjogbhgheaaDoorTextsRefRead
import Derived.Test.YtdlebjogbhgheaaDoorShelf
import Derived.Test.YtdlebjogbhgheaaDoorRange
namespace Go.Proofs.YtdlebjogbhgheaaDoor.texts
open Go.RowKit Go.Lib
set_option linter.unusedVariables false

/-- the sixteen digits -/
def figs : List UInt8 := [48, 49, 50, 51, 52, 53, 54, 55, 56, 57, 97, 98, 99, 100, 101, 102]
def fig (k : Nat) : UInt8 := figs.getD k 0
/-- the text of bytes that are not none -/
def hexOf : List UInt8 → List UInt8
  | [] => []
  | b :: l => fig (b.toNat / 16) :: fig (b.toNat % 16) :: hexOf l
theorem hexOf_snoc (b : UInt8) : ∀ l : List UInt8, hexOf (l ++ [b]) = hexOf l ++ [fig (b.toNat / 16), fig (b.toNat % 16)]
  | [] => rfl
  | c :: l => by simp [hexOf, hexOf_snoc b l]
theorem hexOf_length : ∀ l : List UInt8, (hexOf l).length = 2 * l.length
  | [] => rfl
  | c :: l => by simp [hexOf, hexOf_length l]; omega
/-- the text of bytes -/
def hexText (l : List UInt8) : List UInt8 := if l = [] then [45] else hexOf l
/-- a digit out of the constant -/
theorem fig_at (k : IntKind) (i : Nat) (h : i < 16) (W : World) : (Instr.index 9 (.string ⟨#[48, 49, 50, 51, 52, 53, 54, 55, 56, 57, 97, 98, 99, 100, 101, 102]⟩) (.int k (i : Int))).run Tryd.prog W = .ok (.int .u8 (((fig i).toNat : Nat) : Int)) W := by
  rw [run_index_string W 9 _ k i Tryd.underlying9, dif_pos ⟨by omega, by show (i : Int) < 16; omega⟩]
  congr 3
  have : ∀ j : Fin 16, (⟨#[48, 49, 50, 51, 52, 53, 54, 55, 56, 57, 97, 98, 99, 100, 101, 102]⟩ : ByteArray)[(j : Nat)]'j.2 = fig j := by decide
  have e := this ⟨i, h⟩
  simp only [Int.toNat_natCast]
  exact congrArg UInt8.toNat e
theorem take_next (l : List UInt8) (k : Nat) (h : k < l.length) : l.take (k + 1) = l.take k ++ [l.getD k 0] := by
  rw [List.take_add_one, List.getElem?_eq_getElem h, List.getD_eq_getElem?_getD, List.getElem?_eq_getElem h]; rfl

/-- a builder of the call's own that holds the bytes l -/
def Built (B b : Nat) (l : List UInt8) (w : World) : Prop := Lib.IsBuilder 55 5 B b (Lib.byteCells l) w
theorem byteCells_snoc (l : List UInt8) (c : UInt8) : Lib.byteCells (l ++ [c]) = Lib.byteCells l ++ [.int .u8 c.toNat] := by simp [Lib.byteCells]
theorem put_byte (B b : Nat) (l : List UInt8) (c : UInt8) (w : World) (h : Built B b l w) (hlen : l.length + 1 ≤ 140737488355328) (hB : B ≤ w.heap.size) :
    Calls Tryd.prog 26 #[.pointer (some ⟨b, 0, none⟩), .int .u8 ((c.toNat : Nat) : Int)] w fun e w' => e = .returned .nilIface ∧ Built B b (l ++ [c]) w' ∧ Below B w w' := by
  refine (Tryd.Builder_WriteByte B b (Lib.byteCells l) ((c.toNat : Nat) : Int) w h (by rw [byteCells_length]; exact hlen) hB).mono ?_
  rintro e w' ⟨he, hb, hbl⟩
  refine ⟨he, .inr ?_, hbl⟩
  rw [byteCells_snoc]; exact hb
theorem put_string (B b : Nat) (l s : List UInt8) (w : World) (h : Built B b l w) (hlen : l.length + s.length ≤ 140737488355328) (hB : B ≤ w.heap.size) :
    Calls Tryd.prog 35 #[.pointer (some ⟨b, 0, none⟩), .string (strL s)] w fun e w' => e = .returned (.tuple #[.int .i64 s.length, .nilIface]) ∧ Built B b (l ++ s) w' ∧ Below B w w' := by
  refine (Tryd.Builder_WriteString B b (Lib.byteCells l) (strL s) w h (by rw [byteCells_length, strL_size]; exact hlen) hB).mono ?_
  rintro e w' ⟨he, hb, hbl⟩
  rw [strL_size] at he
  refine ⟨he, .inr ?_, hbl⟩
  rw [show Lib.byteCells (l ++ s) = Lib.byteCells l ++ Lib.strCells (strL s) from by simp [Lib.byteCells, Lib.strCells, strL_data]]
  exact hb
theorem new_builder (w : World) (n : Nat) (hn : n ≤ 281474976710656) :
    Calls Tryd.prog 24 #[.pointer (some ⟨w.heap.size, 0, none⟩), .int .i64 (n : Int)] (w.alloc (.cells #[.pointer none, .slice none 0 0] 55)) fun e w' => e = .returned (.tuple #[]) ∧ Built w.heap.size w.heap.size [] w' ∧ Below w.heap.size w w' := by
  refine (Tryd.Builder_Grow_fresh w.heap.size w.heap.size n _ (Nat.le_refl _) (World.alloc_heap_new w _) (by simp) hn).mono ?_
  rintro e w' ⟨he, hb, hbl⟩
  exact ⟨he, .inr hb, ((Below.refl _ w).alloc (Nat.le_refl _) _).trans hbl⟩
theorem built_text (B b : Nat) (l : List UInt8) (w : World) (h : Built B b l w) (hB : B ≤ w.heap.size) :
    Calls Tryd.prog 27 #[.pointer (some ⟨b, 0, none⟩)] w fun e w' => e = .returned (.string (strL l)) ∧ Below B w w' :=
  Tryd.Builder_String_any B b l w h hB

theorem hex_any (l : List UInt8) (hl : 2 * l.length ≤ 140737488355328) (w : World) :
    Calls Tryd.prog 14 #[.string (strL l)] w fun e w' => e = .returned (.string (strL (hexText l))) ∧ Below w.heap.size w w' := by
  have est := strL_toList
  have esz := strL_size
  by_cases h0 : l = []
  · subst h0
    go_enter Tryd.func14, Tryd.ntmps14
    go_wp2
    go_ret
    exact ⟨rfl, Below.refl _ _⟩
  · have hq : (l == ([] : List UInt8)) = false := by rw [beq_eq_false_iff_ne]; exact h0
    have HR : Hid (hexText l = hexOf l) := by show hexText l = hexOf l; rw [hexText, if_neg h0]
    have cg := new_builder w (2 * l.length) (by omega)
    have hi : 2 * (l.length : Int) ≤ 140737488355328 := by omega
    rw [show ((2 * l.length : Nat) : Int) = 2 * (l.length : Int) from by omega] at cg
    obtain ⟨H, hH⟩ : ∃ H, Hid (hexText l = H) := ⟨_, rfl⟩
    rw [hH.out]
    have hff := fig_at
    clear h0
    go_enter Tryd.func14, Tryd.ntmps14
    go_wp2_with (go_at_call 24; refine cg.mono ?_; rintro e w1 ⟨rfl, hB1, hb1⟩)
    go_loopw [13] (fun i wr => ∃ k : Nat, k ≤ l.length ∧ i = .int .i64 k ∧ Built w.heap.size w.heap.size (hexOf (l.take k)) wr ∧ Below w.heap.size w wr)
      (fun i _ => l.length - (intOf i).toNat)
    case atStart => exact ⟨0, Nat.zero_le _, rfl, hB1, hb1⟩
    case round =>
      obtain ⟨k, hk, rfl, hBk, hbk⟩ := hrel
      have hws := hbk.size
      have HB := hid hBk
      have HBL := hid hbk
      clear hBk hbk
      by_cases hlt : k < l.length
      · have i1 : (k : Int) < l.length := by omega
        have ei := index_at l k hlt
        have hlen : (hexOf (l.take k)).length = 2 * k := by rw [hexOf_length, List.length_take, Nat.min_eq_left hk]
        have hb256 := (l.getD k 0).toNat_lt
        have c1 := put_byte w.heap.size w.heap.size (hexOf (l.take k)) (fig ((l.getD k 0).toNat / 16)) wr HB.out (by omega) hws
        have c2 := fun w2 h1 h2 => put_byte w.heap.size w.heap.size (hexOf (l.take k) ++ [fig ((l.getD k 0).toNat / 16)]) (fig ((l.getD k 0).toNat % 16)) w2 h1 (by simp; omega) h2
        have HN : Hid (hexOf (l.take (k + 1)) = hexOf (l.take k) ++ [fig ((l.getD k 0).toNat / 16)] ++ [fig ((l.getD k 0).toNat % 16)]) := by
          show hexOf (l.take (k + 1)) = _
          rw [take_next l k hlt, hexOf_snoc]; simp
        have f1 := hff .u8 ((l.getD k 0).toNat / 16) (by omega)
        have f2 := hff .u8 ((l.getD k 0).toNat % 16) (by omega)
        obtain ⟨b, hb⟩ : ∃ b, Hid ((l.getD k 0).toNat = b) := ⟨_, rfl⟩
        rw [hb.out] at ei f1 f2 hb256 c1 c2 HN
        rw [Int.natCast_ediv] at f1
        rw [Int.natCast_emod] at f2
        simp only [Int.cast_ofNat_Int] at f1 f2
        clear hlen hff
        generalize fig (b / 16) = g1 at *
        generalize fig (b % 16) = g2 at *
        generalize hexOf (l.take k) = D at *
        go_wp2_with (first
          | (go_at_call 26; refine c1.mono ?_; clear c1; rintro e w2 ⟨rfl, hB2, hb2⟩)
          | (go_at_call 26; refine (c2 _ hB2 (Nat.le_trans hws hb2.size)).mono ?_; rintro e w3 ⟨rfl, hB3, hb3⟩))
        exact ⟨⟨k + 1, by omega, by go_num, by rw [HN.out]; exact hB3, (HBL.out.trans hb2).trans hb3⟩, by simp [intOf]; omega⟩
      · obtain rfl : k = l.length := by omega
        have hB := HB.out
        rw [List.take_length, ← HR.out, hH.out] at hB
        have cs := built_text w.heap.size w.heap.size H wr hB hws
        go_wp2_with (go_at_call 27; refine cs.mono ?_; rintro e w2 ⟨rfl, hb2⟩)
        go_ret
        exact ⟨rfl, HBL.out.trans hb2⟩
end Go.Proofs.YtdlebjogbhgheaaDoor.texts
