/- Contracts of the flash's calls that only read: ready, Read, Gone, Writes, Wear, Size, and of the fuse's mask. No condition. -/
import Derived.Test.YtdpddcmbilipfaaFlashHold
namespace Go.Proofs.Ytdpddcmbilipfaa.flash
open Go.RowKit Go.Proofs.Ytdpddcmbilipfaa.word
set_option linter.unusedVariables false

theorem ready_nil (w : World) : Calls Try.prog 29 #[.pointer none] w (Quiet (.int .i64 1) w) := by
  go_enter Try.func29, Try.ntmps29
  go_wp2
  go_ret
  exact ⟨rfl, 0, rfl⟩
theorem ready_any (b : Nat) (d : Bool) (w : World) (h : w.cell? ⟨b, 7, none⟩ = some (.bool d)) : Calls Try.prog 29 #[.pointer (some ⟨b, 0, none⟩)] w (Quiet (.int .i64 (if d = true then 10 else 0)) w) := by
  cases d
  all_goals
    go_enter Try.func29, Try.ntmps29
    go_wp2
    go_ret
    exact ⟨rfl, 0, rfl⟩
theorem gone_nil (w : World) : Calls Try.prog 14 #[.pointer none] w (Quiet (.bool true) w) := by
  go_enter Try.func14, Try.ntmps14
  go_wp2
  go_ret
  exact ⟨rfl, 0, rfl⟩
theorem gone_any (b : Nat) (d : Bool) (w : World) (h : w.cell? ⟨b, 7, none⟩ = some (.bool d)) : Calls Try.prog 14 #[.pointer (some ⟨b, 0, none⟩)] w (Quiet (.bool d) w) := by
  go_enter Try.func14, Try.ntmps14
  go_wp2
  go_ret
  exact ⟨rfl, 0, rfl⟩
theorem writes_nil (w : World) : Calls Try.prog 15 #[.pointer none] w (Quiet (.int .i64 0) w) := by
  go_enter Try.func15, Try.ntmps15
  go_wp2
  go_ret
  exact ⟨rfl, 0, rfl⟩
theorem writes_any (b : Nat) (n : Int) (w : World) (h : w.cell? ⟨b, 6, none⟩ = some (.int .i64 n)) : Calls Try.prog 15 #[.pointer (some ⟨b, 0, none⟩)] w (Quiet (.int .i64 n) w) := by
  go_enter Try.func15, Try.ntmps15
  go_wp2
  go_ret
  exact ⟨rfl, 0, rfl⟩
theorem size_nil (w : World) : Calls Try.prog 20 #[.pointer none] w (Quiet (.tuple #[.int .i64 0, .int .i64 0]) w) := by
  go_enter Try.func20, Try.ntmps20
  go_wp2
  go_ret2
  exact ⟨rfl, 0, rfl⟩
theorem size_any (b : Nat) (l n c : Nat) (a : Option Addr) (w : World) (h1 : w.cell? ⟨b, 4, none⟩ = some (.int .i64 (l : Int))) (h2 : w.cell? ⟨b, 5, none⟩ = some (.slice a n c)) :
    Calls Try.prog 20 #[.pointer (some ⟨b, 0, none⟩)] w (Quiet (.tuple #[.int .i64 (n : Int), .int .i64 (l : Int)]) w) := by
  go_enter Try.func20, Try.ntmps20
  go_wp2
  go_quiet (fail)
  go_wp2
  go_ret2
  exact ⟨rfl, nq, rfl⟩
theorem wear_nil (s : Int) (w : World) : Calls Try.prog 16 #[.pointer none, .int .i64 s] w (Quiet (.int .i64 0) w) := by
  go_enter Try.func16, Try.ntmps16
  go_wp2
  go_ret
  exact ⟨rfl, 0, rfl⟩
/-- the wear of a sector, 0 of none -/
def wearAt (worn : List Nat) (s : Int) : Nat := if s < 0 ∨ (worn.length : Int) ≤ s then 0 else worn.getD s.toNat 0
theorem wear_any (b g c : Nat) (worn : List Nat) (s : Int) (w : World) (h2 : w.cell? ⟨b, 5, none⟩ = some (.slice (some ⟨g, 0, none⟩) worn.length c)) (hr : Row w 3 .i64 g c worn) (hl : worn.length ≤ 512) :
    Calls Try.prog 16 #[.pointer (some ⟨b, 0, none⟩), .int .i64 s] w (Quiet (.int .i64 (wearAt worn s : Nat)) w) := by
  by_cases h0 : s < 0
  · rw [wearAt, if_pos (.inl h0)]
    go_enter Try.func16, Try.ntmps16
    go_wp2
    go_ret
    exact ⟨rfl, 0, rfl⟩
  · by_cases h1 : (worn.length : Int) ≤ s
    · rw [wearAt, if_pos (.inr h1)]
      generalize worn.length = n at *
      go_enter Try.func16, Try.ntmps16
      go_wp2
      go_ret
      exact ⟨rfl, 0, rfl⟩
    · obtain ⟨k, rfl⟩ := Int.eq_ofNat_of_zero_le (show 0 ≤ s by omega)
      have hk : k < worn.length := by omega
      have hc := hr.get hk
      rw [wearAt, if_neg (by omega), Int.toNat_natCast]
      generalize worn.getD k 0 = x at *
      have H3 : (k : Int) < worn.length := by omega
      clear hr h1
      generalize worn.length = n at *
      go_enter Try.func16, Try.ntmps16
      go_wp2
      go_ret
      exact ⟨rfl, 0, rfl⟩
theorem read_nil (a : Int) (w : World) : Calls Try.prog 22 #[.pointer none, .int .i64 a] w (Quiet (.tuple #[.int .u32 0, .int .i64 1]) w) := by
  go_enter Try.func22, Try.ntmps22
  go_wp2_with (go_at_call 29; (with_reducible refine (ready_nil _).mono ?_); rintro e w' ⟨rfl, m, rfl⟩)
  go_ret2
  exact ⟨rfl, _, rfl⟩
theorem read_any {S : Nat → Prop} {b : Nat} {F : Fl} {ca cb cm : Value} {bw cw bv cv : Nat} {w : World} (h : At S b F ca cb cm bw cw bv cv w) (ok : F.Ok) (a : Int) :
    Calls Try.prog 22 #[.pointer (some ⟨b, 0, none⟩), .int .i64 a] w (Quiet (.tuple #[.int .u32 ((F.read a).1 : Nat), .int .i64 (F.read a).2]) w) := by
  obtain ⟨_, _, _, c3, _, _, _, c7⟩ := h.cell
  have hn := ok.ws_le
  have hr := ready_any b F.dark w c7
  have hrow := h.ws
  clear h ok c7
  cases hd : F.dark with
  | true =>
    rw [hd] at hr
    simp only [if_true] at hr
    have e : F.read a = (0, 10) := by rw [Fl.read, if_pos hd]
    rw [e]
    clear hd e hrow c3
    go_enter Try.func22, Try.ntmps22
    go_wp2_with (go_at_call 29; (with_reducible refine hr.mono ?_); rintro e w' ⟨rfl, m, rfl⟩)
    go_ret2
    exact ⟨rfl, _, rfl⟩
  | false =>
    rw [hd] at hr
    simp only [Bool.false_eq_true, if_false] at hr
    by_cases h0 : a < 0
    · have e : F.read a = (0, 3) := by rw [Fl.read, if_neg (by simp [hd]), if_pos (.inl h0)]
      rw [e]
      clear hd e hrow
      go_enter Try.func22, Try.ntmps22
      go_wp2_with (go_at_call 29; (with_reducible refine hr.mono ?_); rintro e w' ⟨rfl, m, rfl⟩)
      go_ret2
      exact ⟨rfl, _, rfl⟩
    · by_cases h1 : (F.ws.length : Int) ≤ a
      · have e : F.read a = (0, 3) := by rw [Fl.read, if_neg (by simp [hd]), if_pos (.inr h1)]
        rw [e]
        clear hd e hrow
        generalize F.ws.length = n at *
        go_enter Try.func22, Try.ntmps22
        go_wp2_with (go_at_call 29; (with_reducible refine hr.mono ?_); rintro e w' ⟨rfl, m, rfl⟩)
        go_ret2
        exact ⟨rfl, _, rfl⟩
      · obtain ⟨k, rfl⟩ := Int.eq_ofNat_of_zero_le (show 0 ≤ a by omega)
        have hk : k < F.ws.length := by omega
        have hc := hrow.get hk
        have e : F.read k = (F.ws.getD k 0, 0) := by rw [Fl.read, if_neg (by simp [hd]), if_neg (by omega), Int.toNat_natCast]
        rw [e]
        have H3 : (k : Int) < F.ws.length := by omega
        clear hd e hrow h1
        generalize F.ws.getD k 0 = x at *
        generalize F.ws.length = n at *
        go_enter Try.func22, Try.ntmps22
        go_wp2_with (go_at_call 29; (with_reducible refine hr.mono ?_); rintro e w' ⟨rfl, m, rfl⟩)
        go_ret2
        exact ⟨rfl, _, rfl⟩
theorem mask_any {S no : Nat → Prop} {b L : Nat} {M : List Nat} {cm : Value} {w : World} (hm : MasksAt S no L M cm w) (hc : w.cell? ⟨b, 2, none⟩ = some cm) (i : Nat) (hi : i < L) (hL : L ≤ 1024) (hx : ∀ x ∈ M, x < 4294967296) :
    Calls Try.prog 32 #[.pointer (some ⟨b, 0, none⟩), .int .i64 (i : Int)] w (Quiet (.int .u32 (maskAt M i : Nat)) w) := by
  obtain ⟨a, c, rfl, _, hr, _⟩ := hm
  rw [← maskAt_take M L i hi]
  have hl : (M.take L).length = min M.length L := hr.1
  by_cases h0 : min M.length L = 0
  · rw [maskAt, if_pos (by omega)]
    rw [h0] at hc
    clear hr hl hx
    go_enter Try.func32, Try.ntmps32
    go_wp2
    go_ret
    exact ⟨rfl, 0, rfl⟩
  · rw [maskAt, if_neg (by omega), hl]
    generalize hn : min M.length L = n at *
    have hlt : i % n < n := Nat.mod_lt _ (by omega)
    obtain ⟨b2, off, rfl, _, hcell⟩ := hr.at hlt
    have c2 := hcell (i % n) hlt
    have hn2 : n ≤ 1024 := by omega
    have hpos : 0 < n := by omega
    clear hr hcell hl hx
    generalize (M.take L).getD (i % n) 0 = x at *
    generalize hq : i % n = q at *
    have hq2 : (i : Int) % (n : Int) = (q : Int) := by omega
    have HQ := hid hq
    clear hn hq h0
    go_enter Try.func32, Try.ntmps32
    go_wp2
    go_quiet (fail)
    go_wp2
    go_ret
    exact ⟨rfl, nq, rfl⟩
end Go.Proofs.Ytdpddcmbilipfaa.flash
