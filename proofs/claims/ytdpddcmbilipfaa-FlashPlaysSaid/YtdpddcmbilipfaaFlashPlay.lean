/- A flash and the reference's flash, side by side: what turning one of them leaves of the other. No condition. -/
import Derived.Test.YtdpddcmbilipfaaFlashRefArm
import Derived.Test.YtdpddcmbilipfaaFlashRefNew
import Derived.Test.YtdpddcmbilipfaaFlashCopy
import Derived.Test.YtdpddcmbilipfaaWordSame
namespace Go.Proofs.Ytdpddcmbilipfaa.flash
open Go.RowKit Go.Proofs.Ytdpddcmbilipfaa.word
set_option linter.unusedVariables false

/-- what lies in memory of the call's own -/
def Mine (w0 wr : World) (S : Nat → Prop) : Prop := ∀ x, S x → w0.heap.size ≤ x ∧ x < wr.heap.size
/-- the flash at b and the reference's at g -/
def Play (w0 : World) (b g : Nat) (F R : Fl) (wr : World) : Prop :=
  ∃ S T, FlashAt S b F wr ∧ RefAt T g R wr ∧ Mine w0 wr S ∧ Mine w0 wr T ∧ (∀ x, S x → ¬ T x) ∧ Below w0.heap.size w0 wr
section
variable {w0 wr w' : World} {b g : Nat} {F R G : Fl}
theorem Mine.wide {S : Nat → Prop} (h : Mine w0 wr S) (hs : wr.heap.size ≤ w'.heap.size) : Mine w0 w' S := fun x hx => ⟨(h x hx).1, Nat.lt_of_lt_of_le (h x hx).2 hs⟩
theorem Play.below (h : Play w0 b g F R wr) : Below w0.heap.size w0 wr := by
  obtain ⟨S, T, _, _, _, _, _, h⟩ := h
  exact h
theorem Play.later (h : Play w0 b g F R wr) (k : Below wr.heap.size wr w') : Play w0 b g F R w' := by
  obtain ⟨S, T, h1, h2, h3, h4, h5, h6⟩ := h
  exact ⟨S, T, h1.later k, h2.later k, h3.wide k.size, h4.wide k.size, h5, h6.trans (k.mono h6.size)⟩
theorem grown_mine {S S' : Nat → Prop} (h3 : Mine w0 wr S) (h6 : Below w0.heap.size w0 wr) (k2 : ∀ x, S' x → x < w'.heap.size ∧ (S x ∨ wr.heap.size ≤ x)) : Mine w0 w' S' := fun x hx => ⟨by
  rcases (k2 x hx).2 with h | h
  · exact (h3 x h).1
  · have := h6.size; omega, (k2 x hx).1⟩
theorem Play.do (h : Play w0 b g F R wr) (ok : F.Ok) (hc : F.count < 4611686018427387904) (k A : Int) (X : Nat) (a : Option Addr) (len cap : Nat) (M : List Nat) (hA : A ≤ 9223372036854775807) (hX : X < 4294967296)
    (hr : Reads .u32 wr a len M) (hlc : len ≤ cap) (hlen : len ≤ 140737488355328) (hcap : cap ≤ maxLen) (hsep : len = 0 ∨ ∃ x, a = some x ∧ x.block < w0.heap.size) :
    Calls Try.prog 12 #[.pointer (some ⟨b, 0, none⟩), actV k A X a len cap] wr fun e w' => e = .returned (.tuple #[.int .u32 ((step F k A X M).1.1 : Nat), .int .i64 (step F k A X M).1.2]) ∧ Play w0 b g (step F k A X M).2 R w' := by
  obtain ⟨S, T, h1, h2, h3, h4, h5, h6⟩ := h
  refine (do_any h1 ok hc k A X a len cap M hA hX hr hlc hlen hcap (hsep.imp id fun ⟨x, hx, ho⟩ => ⟨x, hx, fun hs => by have := (h3 _ hs).1; omega⟩)).mono ?_
  · rintro e w' ⟨rfl, S', k1, k2, k3⟩
    refine ⟨rfl, S', T, k1, h2.only k3 h5, grown_mine h3 h6 k2, h4.wide k3.size, fun x hx ht => ?_, h6.trans (k3.below h6.size fun x hx => (h3 x hx).1)⟩
    rcases (k2 x hx).2 with h | h
    · exact h5 x h ht
    · have := (h4 x ht).2; omega
theorem Play.told (h : Play w0 b g F R wr) (ok : R.Ok) (hc : R.count < 4611686018427387904) (k A : Int) (X : Nat) (a : Option Addr) (len cap : Nat) (M : List Nat) (hA : A ≤ 9223372036854775807) (hA2 : -9223372036854775808 ≤ A) (hX : X < 4294967296)
    (hr : Reads .u32 wr a len M) (hlen : len * 4 ≤ 140737488355328) (hsep : len = 0 ∨ ∃ x, a = some x ∧ x.block < w0.heap.size) :
    Calls Try.prog 13 #[.pointer (some ⟨g, 0, none⟩), actV k A X a len cap] wr fun e w' => e = .returned (.tuple #[.int .u32 ((step R k A X M).1.1 : Nat), .int .i64 (step R k A X M).1.2]) ∧ Play w0 b g F (step R k A X M).2 w' := by
  obtain ⟨S, T, h1, h2, h3, h4, h5, h6⟩ := h
  refine (told_any h2 ok hc k A X a len cap M hA hA2 hX hr hlen (hsep.imp id fun ⟨x, hx, ho⟩ => ⟨x, hx, fun hs => by have := (h4 _ hs).1; omega⟩)).mono ?_
  · rintro e w' ⟨rfl, T', k1, k2, k3⟩
    refine ⟨rfl, S, T', h1.only k3 (fun x hx hs => h5 x hs hx), k1, h3.wide k3.size, grown_mine h4 h6 k2, fun x hx ht => ?_, h6.trans (k3.below h6.size fun x hx => (h4 x hx).1)⟩
    rcases (k2 x ht).2 with h | h
    · exact h5 x hx h
    · have := (h3 x hx).2; omega
/-- the flash at b, its copy at c, and the reference's at g -/
def Both (w0 : World) (b c g : Nat) (F R : Fl) (wr : World) : Prop :=
  ∃ S S2 T, FlashAt S b F wr ∧ FlashAt S2 c F wr ∧ RefAt T g R wr ∧ Mine w0 wr S ∧ Mine w0 wr S2 ∧ Mine w0 wr T ∧ (∀ x, S x → ¬ T x) ∧ (∀ x, S x → ¬ S2 x) ∧ (∀ x, S2 x → ¬ T x) ∧ Below w0.heap.size w0 wr
theorem FlashAt.clip {S : Nat → Prop} (h : FlashAt S b F wr) : FlashAt (fun x => S x ∧ x < wr.heap.size) b F wr := by
  obtain ⟨ca, cb, cm, bw, cw, bv, cv, h⟩ := h
  exact ⟨_, _, _, _, _, _, _, h.clip⟩
theorem RefAt.clip {S : Nat → Prop} (h : RefAt S g R wr) : RefAt (fun x => S x ∧ x < wr.heap.size) g R wr := by
  obtain ⟨cm, gW, cW, gV, cV, h⟩ := h
  exact ⟨_, _, _, _, _, h.clip⟩
theorem Play.copy (h : Play w0 b g F R wr) (ok : F.Ok) : Calls Try.prog 10 #[.pointer (some ⟨b, 0, none⟩)] wr fun e w' => ∃ c, e = .returned (.pointer (some ⟨c, 0, none⟩)) ∧ Both w0 b c g F R w' := by
  obtain ⟨S, T, ⟨ca, cb, cm, bw, cw, bv, cv, h1⟩, h2, h3, h4, h5, h6⟩ := h
  refine (copy_any h1 ok).mono ?_
  rintro e w' ⟨c, rfl, hc, hb⟩
  refine ⟨c, rfl, S, _, T, FlashAt.later ⟨_, _, _, _, _, _, _, h1⟩ hb, hc.clip, h2.later hb, h3.wide hb.size, fun x hx => ⟨Nat.le_trans h6.size hx.1, hx.2⟩, h4.wide hb.size, h5, fun x hx hx2 => ?_, fun x hx ht => ?_, h6.trans (hb.mono h6.size)⟩
  · have := (h3 x hx).2; have := hx2.1; omega
  · have := (h4 x ht).2; have := hx.1; omega
theorem Both.erase {c : Nat} (h : Both w0 b c g F R wr) (ok : F.Ok) (hc : F.count < 4611686018427387904) (s : Int) : Calls Try.prog 11 #[.pointer (some ⟨b, 0, none⟩), .int .i64 s] wr fun e w' => e = .returned (.int .i64 (F.erase s).1) ∧ Play w0 c g F R w' := by
  obtain ⟨S, S2, T, h1, hc1, h2, h3, hc3, h4, h5, hc5, hc6, h6⟩ := h
  refine (erase_did h1 ok hc s).mono ?_
  rintro e w' ⟨rfl, S', k1, k2, k3⟩
  exact ⟨rfl, S2, T, hc1.only k3 hc5, h2.only k3 h5, hc3.wide k3.size, h4.wide k3.size, hc6, h6.trans (k3.below h6.size fun x hx => (h3 x hx).1)⟩
theorem play_start {s l : Nat} (h1 : 1 ≤ s) (h2 : s ≤ 512) (h3 : 1 ≤ l) (h4 : l ≤ 1024) {S : Nat → Prop} (hF : FlashAt S b (Fl.fresh s l) wr) (hS : Mine w0 wr S) (hb : Below w0.heap.size w0 wr) :
    Calls Try.prog 9 #[.int .i64 s, .int .i64 l] wr fun e w' => ∃ g, e = .returned (.pointer (some ⟨g, 0, none⟩)) ∧ Play w0 b g (Fl.fresh s l) (Fl.fresh s l) w' := by
  refine (refNew_any s l h1 h2 h3 h4 wr).mono ?_
  rintro e w' ⟨g, rfl, hR, hb2⟩
  refine ⟨g, rfl, S, _, hF.later hb2, hR.clip, hS.wide hb2.size, fun x hx => ⟨Nat.le_trans hb.size hx.1, hx.2⟩, fun x hx ht => ?_, hb.trans (hb2.mono hb.size)⟩
  have := (hS x hx).2; have := ht.1; omega
/-- what is seen of the two, in every world in which what there was stands -/
structure Seen (b g : Nat) (F : Fl) (gW cW : Nat) (wr : World) : Prop where
  gone : ∀ w', Below wr.heap.size wr w' → Calls Try.prog 14 #[.pointer (some ⟨b, 0, none⟩)] w' fun e w2 => e = .returned (.bool F.dark) ∧ Below wr.heap.size wr w2
  writes : ∀ w', Below wr.heap.size wr w' → Calls Try.prog 15 #[.pointer (some ⟨b, 0, none⟩)] w' fun e w2 => e = .returned (.int .i64 F.count) ∧ Below wr.heap.size wr w2
  wear : ∀ s w', Below wr.heap.size wr w' → Calls Try.prog 16 #[.pointer (some ⟨b, 0, none⟩), .int .i64 s] w' fun e w2 => e = .returned (.int .i64 (wearAt F.worn s : Nat)) ∧ Below wr.heap.size wr w2
  wear2 : ∀ s w', Below wr.heap.size wr w' → Calls Try.prog 17 #[.pointer (some ⟨g, 0, none⟩), .int .i64 s] w' fun e w2 => e = .returned (.int .i64 (wearAt F.worn s : Nat)) ∧ Below wr.heap.size wr w2
  words : ∀ w', Below wr.heap.size wr w' → Calls Try.prog 19 #[.pointer (some ⟨b, 0, none⟩)] w' fun e w2 => ∃ q c, e = .returned (.slice (some ⟨q, 0, none⟩) F.ws.length c) ∧ Reads .u32 w2 (some ⟨q, 0, none⟩) F.ws.length F.ws ∧ Below wr.heap.size wr w2
  same : ∀ q c w', Reads .u32 w' (some ⟨q, 0, none⟩) F.ws.length F.ws → Below wr.heap.size wr w' → Calls Try.prog 18 #[.slice (some ⟨q, 0, none⟩) F.ws.length c, .slice (some ⟨gW, 0, none⟩) F.ws.length cW] w' fun e w2 => e = .returned (.bool true) ∧ Below wr.heap.size wr w2
  cells : ∀ w', Below wr.heap.size wr w' → w'.cell? ⟨g, 0, none⟩ = some (.slice (some ⟨gW, 0, none⟩) F.ws.length cW) ∧ w'.cell? ⟨g, 3, none⟩ = some (.int .i64 (F.count : Int)) ∧ w'.cell? ⟨g, 4, none⟩ = some (.bool F.dark)
theorem quietBelow {v : Value} {w2 : World} {e : Ending} (hb : Below wr.heap.size wr w') (k : Quiet v w' e w2) : e = .returned v ∧ Below wr.heap.size wr w2 := by
  obtain ⟨he, n, rfl⟩ := k
  exact ⟨he, below_drewN hb n⟩
theorem Play.seen (h : Play w0 b g F F wr) (ok : F.Ok) : ∃ gW cW, Seen b g F gW cW wr := by
  obtain ⟨S, T, ⟨ca, cb, cm, bw, cw, bv, cv, h1⟩, ⟨dm, gW, cW, gV, cV, h2⟩, _⟩ := h
  refine ⟨gW, cW, ⟨fun w' hb => ?_, fun w' hb => ?_, fun s w' hb => ?_, fun s w' hb => ?_, fun w' hb => ?_, fun q c w' hr hb => ?_, fun w' hb => ?_⟩⟩
  · exact (gone_any b _ _ (h1.later hb).cell.2.2.2.2.2.2.2).mono fun e w2 k => quietBelow hb k
  · exact (writes_any b _ _ (h1.later hb).cell.2.2.2.2.2.2.1).mono fun e w2 k => quietBelow hb k
  · exact (wear_any b bv cv F.worn s _ (h1.later hb).cell.2.2.2.2.2.1 (h1.later hb).wn ok.s2).mono fun e w2 k => quietBelow hb k
  · exact (lawWear_any (h2.later hb) ok s).mono fun e w2 k => quietBelow hb k
  · refine (words_any (h1.later hb) ok).mono ?_
    rintro e w2 ⟨q, c, rfl, hq, hr, hb2⟩
    exact ⟨q, c, rfl, hr.reads, hb.trans (hb2.mono hb.size)⟩
  · exact (same_any _ _ F.ws.length c cW F.ws w' hr (h2.later hb).ws.reads (by have := ok.ws_le; omega)).mono fun e w2 k => quietBelow hb k
  · have hc := (h2.later hb).cell
    exact ⟨hc.1, hc.2.2.2.1, hc.2.2.2.2.1⟩
theorem Play.size (h : Play w0 b g F R wr) : Calls Try.prog 20 #[.pointer (some ⟨b, 0, none⟩)] wr (Quiet (.tuple #[.int .i64 (F.worn.length : Int), .int .i64 (F.long : Int)]) wr) := by
  obtain ⟨S, T, ⟨ca, cb, cm, bw, cw, bv, cv, h1⟩, _⟩ := h
  exact size_any b F.long F.worn.length cv _ wr h1.cell.2.2.2.2.1 h1.cell.2.2.2.2.2.1
end
end Go.Proofs.Ytdpddcmbilipfaa.flash
