/- Contracts of the fuse's tears, of fail, Power and Program of layer 7 (flash). No condition. -/
import Derived.Test.YtdpddcmbilipfaaFlashLooks
namespace Go.Proofs.Ytdpddcmbilipfaa.flash
open Go.RowKit Go.Proofs.Ytdpddcmbilipfaa.word
set_option linter.unusedVariables false

/-- a function without results ends -/
theorem ret0 {P : Program} {fn : Func} {R : Ending → World → Prop} {a : Act} {w : World} (h : fn.results = #[]) (hd : a.defers = []) (hR : R (.returned (.tuple #[])) w) : bodyPost P fn R .normal a w :=
  ⟨hd, .tuple #[], by simp [results, h], hR⟩
theorem tears_yes {S : Nat → Prop} {b : Nat} {F : Fl} {ca cb cm : Value} {bw cw bv cv : Nat} {w : World} (h : At S b F ca cb cm bw cw bv cv w) (M : List Nat) (ht : F.fuse = some (0, M)) :
    Calls Try.prog 30 #[.pointer (some ⟨b, 0, none⟩)] w (Quiet (.bool true) w) := by
  obtain ⟨c0, c1, _⟩ := h.cell
  have hf := h.fuse
  rw [ht] at hf
  obtain ⟨rfl, rfl, _⟩ := hf
  clear h ht
  go_enter Try.func30, Try.ntmps30
  go_wp2
  go_ret
  exact ⟨rfl, 0, rfl⟩
/-- the call answers v; the flash becomes F; what turns is the flash's own -/
def Turned (S : Nat → Prop) (b : Nat) (F : Fl) (bw cw bv cv : Nat) (v : Value) (w : World) (e : Ending) (w' : World) : Prop :=
  e = .returned v ∧ ∃ ca cb cm, At S b F ca cb cm bw cw bv cv w' ∧ Only (at3 b bw bv) w w'
theorem tears_no {S : Nat → Prop} {b : Nat} {F : Fl} {ca cb cm : Value} {bw cw bv cv : Nat} {w : World} (h : At S b F ca cb cm bw cw bv cv w) (ok : F.Ok) (ht : tears F.fuse = none) :
    Calls Try.prog 30 #[.pointer (some ⟨b, 0, none⟩)] w (Turned S b { F with fuse := burnt F.fuse } bw cw bv cv (.bool false) w) := by
  obtain ⟨c0, c1, _⟩ := h.cell
  have f1 := h.blk.frozen 1
  have hf := h.fuse
  match hF : F.fuse with
  | none =>
    rw [hF] at hf
    obtain ⟨rfl, rfl, rfl⟩ := hf
    have HH : Hid (At S b { F with fuse := burnt none } (.bool false) (.int .i64 0) (.slice none 0 0) bw cw bv cv w) := by
      have e : { F with fuse := burnt none } = F := by rw [show burnt none = F.fuse from hF.symm]
      rw [e]; exact h
    clear h ht
    go_enter Try.func30, Try.ntmps30
    go_wp2
    go_ret
    exact ⟨rfl, _, _, _, HH.out, Only.refl _ _⟩
  | some (0, M) => rw [hF] at ht; cases ht
  | some (n + 1, M) =>
    rw [hF] at hf
    obtain ⟨rfl, rfl, _⟩ := hf
    have hn := (ok.m _ _ hF).1
    have HB := hid (h.burnt hF)
    have HO : Hid (Only (at3 b bw bv) w (w.setCell ⟨b, 1, none⟩ (.int .i64 ((n + 1 - 1 : Nat) : Int)))) := (h.put 1 _).mono fun x hx _ => .inl hx
    have e1 : ((n + 1 : Nat) : Int) - 1 = (n : Int) := by omega
    clear h ht ok
    simp only [Nat.add_sub_cancel] at HB HO
    go_enter Try.func30, Try.ntmps30
    go_wp2
    go_ret
    exact ⟨rfl, .bool true, .int .i64 (n : Int), cm, HB.out, HO.out⟩
theorem fail_any {S : Nat → Prop} {b : Nat} {F : Fl} {ca cb cm : Value} {bw cw bv cv : Nat} {w : World} (h : At S b F ca cb cm bw cw bv cv w) :
    Calls Try.prog 33 #[.pointer (some ⟨b, 0, none⟩)] w (Turned S b { F with dark := true, fuse := none } bw cw bv cv (.int .i64 10) w) := by
  have h1 := h.darkened true
  have h2 := h1.unfused (w' := _) rfl
  have HA := hid h2.1
  have HO := hid (((h.put 7 (.bool true)).trans h2.2).mono (T := at3 b bw bv) fun x hx _ => .inl hx)
  obtain ⟨c0, c1, c2, _, _, _, _, c7⟩ := h.cell
  have f7 := h.blk.frozen 7
  have f0 := h1.blk.frozen 0
  have f1 := h1.blk.frozen 1
  have f2 := h1.blk.frozen 2
  obtain ⟨d0, d1, d2, _⟩ := h1.cell
  clear h h1 h2
  go_enter Try.func33, Try.ntmps33
  go_wp2
  go_ret
  exact ⟨rfl, _, _, _, HA.out, HO.out⟩
theorem power_nil (w : World) : Calls Try.prog 24 #[.pointer none] w (Quiet (.tuple #[]) w) := by
  go_enter Try.func24, Try.ntmps24
  go_wp2
  exact ret0 rfl rfl ⟨rfl, 0, rfl⟩
theorem power_any {S : Nat → Prop} {b : Nat} {F : Fl} {ca cb cm : Value} {bw cw bv cv : Nat} {w : World} (h : At S b F ca cb cm bw cw bv cv w) :
    Calls Try.prog 24 #[.pointer (some ⟨b, 0, none⟩)] w (Turned S b F.power bw cw bv cv (.tuple #[]) w) := by
  have h1 := h.darkened false
  have h2 := h1.unfused (w' := _) rfl
  have HA := hid h2.1
  have HO := hid (((h.put 7 (.bool false)).trans h2.2).mono (T := at3 b bw bv) fun x hx _ => .inl hx)
  obtain ⟨c0, c1, c2, _, _, _, _, c7⟩ := h.cell
  have f7 := h.blk.frozen 7
  have f0 := h1.blk.frozen 0
  have f1 := h1.blk.frozen 1
  have f2 := h1.blk.frozen 2
  obtain ⟨d0, d1, d2, _⟩ := h1.cell
  clear h h1 h2
  go_enter Try.func24, Try.ntmps24
  go_wp2
  exact ret0 rfl rfl ⟨rfl, _, _, _, HA.out, HO.out⟩
end Go.Proofs.Ytdpddcmbilipfaa.flash
