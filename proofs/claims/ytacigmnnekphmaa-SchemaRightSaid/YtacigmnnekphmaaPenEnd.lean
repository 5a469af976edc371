/- Contracts of New, Done and bytes.Clone, and of calls on a pen that is none. No condition but a row of at most 2^47 bytes. -/
import Derived.Test.YtacigmnnekphmaaPenPut
import Derived.Laws.Cover3
namespace Go.Proofs.Ytacigmnnekphmaa.pen
open Go.RowKit Go.Proofs.Ytacigmnnekphmaa.texts
set_option linter.unusedVariables false

theorem bytes_nil (W : World) (a : Option Addr) (n c : Nat) : (binOp .eql 39 (.slice a n c) (.slice none 0 0)).run Try.prog W = .ok (.bool a.isNone) W := by
  have h := run_equal_slice_nil (P := Try.prog) W 39 5 a n c Try.underlying39
  simp [binOp, h, Result.andThen]
/-- the call returns a row of its own that holds the bytes xs -/
def Copies (xs : List Nat) (w : World) (e : Ending) (w' : World) : Prop :=
  ∃ v, e = .returned v ∧ w'.ownsRow w.heap.size 5 1 v xs.length (u8v xs) ∧ Below w.heap.size w w'
theorem clone_any (a : Option Addr) (m c : Nat) (xs : List Nat) (w : World) (hr : Reads .u8 w a m xs) (hn : m ≤ 140737488355328) :
    Calls Try.prog 58 #[.slice a m c] w (Copies xs w) := by
  obtain ⟨i0, hi, hz0, hz1, hz2⟩ := info_parts info5
  have HM : Hid (xs.length = m) := hr.1
  cases a with
  | none =>
    have en := bytes_nil w none m c
    simp only [Option.isNone_none] at en
    have h0 : m = 0 := by rcases hr.2 with h | ⟨_, _, h, _⟩; exact h; cases h
    have HX := hid h0
    clear hr h0
    go_enter Try.func58, Try.ntmps58
    go_wp2
    go_ret
    obtain rfl : xs = [] := List.eq_nil_of_length_eq_zero (HM.out.trans HX.out)
    exact ⟨_, rfl, World.ownsRow_nil _ _ _ _, Below.refl _ _⟩
  | some ad =>
    have en := bytes_nil w (some ad) m c
    simp only [Option.isNone_some] at en
    have hb : Below w.heap.size w (w.alloc (.cells #[] 5)) := (Below.refl _ _).alloc (Nat.le_refl _) _
    have HB := hid hb
    have HN := hid (Reads.news (hr.below hb))
    have HU := hid (u8v_length xs)
    have HN2 : Hid (0 + m ≤ maxLen) := by show _ ≤ _; unfold maxLen; omega
    have HN3 : Hid ((0 + m) * 1 ≤ 140737488355328) := by show _ ≤ _; omega
    have HO := hid (World.ownsRow_made (base := w.heap.size) (e := 5) (size := 1) w #[] 0 (Nat.le_refl _) (Nat.zero_le _) rfl)
    clear hr hb
    go_enter Try.func58, Try.ntmps58
    go_wp2_with (at_builtin; refine wpList_append_at_from rfl _ _ 39 rfl w.heap.size 5 i0 (.int .u8 0) 1 Try.underlying39 hi hz0 hz1 hz2 rfl (.slice (some ⟨w.heap.size, 0, none⟩) 0 0) 0 [] rfl HO.out (some ad) m c (u8v xs) rfl (by rw [HU.out, HM.out]) HN.out (u8v_one xs) HN2.out HN3.out HB.out.size ?_)
    intro v' w1 ho hg ha
    have hbl : Below w.heap.size w w1 := HB.out.grown hg HB.out.size (fun k hk => by cases hk; exact Nat.le_refl _)
    have ho' : w1.ownsRow w.heap.size 5 1 v' xs.length (u8v xs) := by
      rw [HM.out]; simpa using ho
    have HO2 := hid ho'
    have HB2 := hid hbl
    clear ho ho' hbl hg ha
    go_wp2
    go_ret
    exact ⟨_, rfl, HO2.out, HB2.out⟩

theorem new_any (w : World) : Calls Try.prog 37 #[] w fun e w' => e = .returned (.pointer (some ⟨w.heap.size, 0, none⟩)) ∧ PenAt w.heap.size w.heap.size (.slice none 0 0) [] 0 w' ∧ Below w.heap.size w w' := by
  go_enter Try.func37, Try.ntmps37
  go_wp2
  go_ret
  exact ⟨rfl, ⟨Block.new w 84 [.slice none 0 0, .int .i64 0], by simp [Value.ownBlock], World.ownsRow_nil _ _ _ _⟩, (Below.refl _ _).alloc (Nat.le_refl _) _⟩

/-- what Done answers -/
def Gives (xs : List Nat) (bad : Int) (w : World) (e : Ending) (w' : World) : Prop :=
  ∃ v, e = .returned (.tuple #[v, .int .i64 bad]) ∧ w'.ownsRow w.heap.size 5 1 v xs.length (u8v xs) ∧ Below w.heap.size w w'
theorem done_any (lo b : Nat) (v : Value) (xs : List Nat) (w : World) (h : PenAt lo b v xs 0 w) (hn : xs.length ≤ 140737488355328) :
    Calls Try.prog 40 #[.pointer (some ⟨b, 0, none⟩)] w (Gives xs 0 w) := by
  obtain ⟨a, c, rfl, hc⟩ := ownsRow_slice h.2.2
  have c1 := clone_any a xs.length c xs w (Reads.own h.2.2) hn
  have c0 := h.row
  have c2 := h.err
  clear h
  go_enter Try.func40, Try.ntmps40
  go_wp2_with (go_at_call 58; (with_reducible refine c1.mono ?_); clear c1; rintro e w1 ⟨u, rfl, ho, hb⟩)
  go_ret2
  exact ⟨_, rfl, ho, hb⟩
theorem done_bad (lo b : Nat) (v : Value) (xs : List Nat) (w : World) (h : PenAt lo b v xs 2 w) :
    Calls Try.prog 40 #[.pointer (some ⟨b, 0, none⟩)] w (Gives [] 2 w) := by
  have c2 := h.err
  clear h
  go_enter Try.func40, Try.ntmps40
  go_wp2_with go_region
  all_goals go_ret2
  all_goals exact ⟨_, rfl, World.ownsRow_nil _ _ _ _, by repeat (first | exact Below.refl _ _ | apply below_drewN)⟩

/-! a pen that is none -/
/-- the call returns nothing and turns nothing that was there -/
def Idle (w : World) (e : Ending) (w' : World) : Prop := e = .returned (.tuple #[]) ∧ Below w.heap.size w w'
theorem done_nil (w : World) : Calls Try.prog 40 #[.pointer none] w (Quiet (.tuple #[.slice none 0 0, .int .i64 1]) w) := by
  go_enter Try.func40, Try.ntmps40
  go_wp2
  go_ret2
  exact ⟨rfl, 0, rfl⟩
theorem put_idle (u : Value) (w : World) : Calls Try.prog 71 #[.pointer none, u] w (Idle w) := by
  go_enter Try.func71, Try.ntmps71
  go_wp2
  exact ret0 rfl rfl ⟨rfl, Below.refl _ _⟩
theorem count_idle (n : Int) (w : World) : Calls Try.prog 38 #[.pointer none, .int .i64 n] w (Idle w) := by
  go_enter Try.func38, Try.ntmps38
  go_wp2
  exact ret0 rfl rfl ⟨rfl, Below.refl _ _⟩
set_option maxRecDepth 8000 in
theorem varint_idle (x : Nat) (hx : x < 18446744073709551616) (w : World) : Calls Try.prog 56 #[.pointer none, .int .u64 (x : Int)] w (Idle w) := by
  have c1 := fun u w1 => put_idle u w1
  go_enter Try.func56, Try.ntmps56
  go_wp2
  go_loopw [1] (fun i wr => ∃ y : Nat, i = .int .u64 (y : Int) ∧ y < 18446744073709551616 ∧ Below w.heap.size w wr)
    (fun i _ => (intOf i).toNat)
  case atStart => exact ⟨x, rfl, hx, Below.refl _ _⟩
  case round =>
    obtain ⟨y, rfl, hy, hb⟩ := hrel
    have HB := hid hb
    clear hb
    by_cases h128 : y < 128
    · have hi : ((y : Int) < 128) := by omega
      go_wp2_with (go_at_call 71; (with_reducible refine (c1 _ _).mono ?_); rintro e w2 ⟨rfl, hb2⟩)
      exact ret0 rfl rfl ⟨rfl, (HB.out.alloc HB.out.size _).trans (hb2.mono (by simp; have := HB.out.size; omega))⟩
    · have hi : ¬ ((y : Int) < 128) := by omega
      go_wp2_with (go_at_call 71; (with_reducible refine (c1 _ _).mono ?_); rintro e w2 ⟨rfl, hb2⟩)
      exact ⟨⟨y / 128, by go_num, by omega, (HB.out.alloc HB.out.size _).trans (hb2.mono (by simp; have := HB.out.size; omega))⟩, by simp [intOf]; omega⟩
theorem num_idle (n : Int) (h1 : -9223372036854775808 ≤ n) (h2 : n ≤ 9223372036854775807) (w : World) : Calls Try.prog 57 #[.pointer none, .int .i64 n] w (Idle w) := by
  have c0 := zigzag_any n h1 h2 w
  have c1 := fun w1 => varint_idle (zig n) (zig_lt n h1 h2) w1
  obtain ⟨Z, hZ⟩ : ∃ Z, Hid (zig n = Z) := ⟨_, rfl⟩
  rw [hZ.out] at c0 c1
  go_enter Try.func57, Try.ntmps57
  go_wp2_with (first
    | (go_at_call 72; (with_reducible refine c0.mono ?_); clear c0; rintro e w1 ⟨rfl, m, rfl⟩)
    | (go_at_call 56; (with_reducible refine (c1 _).mono ?_); rintro e w2 ⟨rfl, hb2⟩))
  exact ret0 rfl rfl ⟨rfl, (below_drewN (Below.refl _ _) m).trans hb2⟩
end Go.Proofs.Ytacigmnnekphmaa.pen
