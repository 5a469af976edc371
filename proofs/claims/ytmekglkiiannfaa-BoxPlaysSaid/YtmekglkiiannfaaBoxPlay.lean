/- Two boxes and the reference's two, side by side: what turning one of the four leaves of the others. No condition. -/
import Derived.Test.YtmekglkiiannfaaBoxRefs
import Derived.Test.YtmekglkiiannfaaBoxFirst
namespace Go.Proofs.Ytmekglkiiannfaa.box
open Go.Conc Go.RowKit
set_option linter.unusedVariables false

/-- where the four lie: boxes at ba, bb with channels ca, cb and capacities N, M; the reference's at gx, gy; all of it above B, the size at the entry -/
structure Spot where
  (ba ca bb cb gx gy N M : Nat)
structure Spot.Ok (s : Spot) (B : Nat) : Prop where
  a : B ≤ s.ca
  b : B ≤ s.cb
  x : B ≤ s.gx
  y : B ≤ s.gy
  ab : s.ca ≠ s.cb
  xy : s.gx ≠ s.gy
  n : s.N ≤ 64
  m : s.M ≤ 64
/-- the four hold xs, ys, us, vs -/
structure Play (s : Spot) (w : World) (xs ys us vs : List Int) (wr : World) : Prop where
  a : BoxAt 51 3 s.ba s.ca s.N (xs.map (Value.int .i64)) wr
  b : BoxAt 51 3 s.bb s.cb s.M (ys.map (Value.int .i64)) wr
  x : RefAt s.gx s.N us wr
  y : RefAt s.gy s.M vs wr
  below : Below w.heap.size w wr
section
variable {s : Spot} {w wr w' : World} {xs ys us vs : List Int}
theorem Play.drewN (h : Play s w xs ys us vs wr) (n : Nat) : Play s w xs ys us vs (wr.drewN n) := ⟨h.a, h.b, h.x, h.y, below_drewN h.below n⟩
theorem Play.later (h : Play s w xs ys us vs wr) (hb : Below wr.heap.size wr w') : Play s w xs ys us vs w' :=
  ⟨h.a.later hb, h.b.later hb, h.x.later hb, h.y.later hb, h.below.trans (hb.mono h.below.size)⟩
theorem chan_ne {bt et b c cap g t : Nat} {vs cs : List Value} (h : BoxAt bt et b c cap vs wr) (hb : Block wr g t cs) : c ≠ g := by
  rintro rfl
  exact h.noRow t cs hb
theorem ref_box {g room : Nat} {us : List Int} (h : RefAt g room us wr) {b c cap : Nat} {vs : List Value} (h2 : BoxAt 51 3 b c cap vs wr) (hw : But wr.heap.size g wr w') : BoxAt 51 3 b c cap vs w' := by
  obtain ⟨a, k, hb, _⟩ := h
  exact h2.but hw (Block.other hb (by decide)) (Block.other hb (by decide)) (chan_ne h2 hb)
theorem box_ref {g room : Nat} {us : List Int} (h : RefAt g room us wr) {b c cap : Nat} {vs : List Value} (h2 : BoxAt 51 3 b c cap vs wr) (hw : But wr.heap.size c wr w') : RefAt g room us w' := by
  refine h.but hw (noIntRow_chan h2) ?_
  obtain ⟨a, k, hb, _⟩ := h
  exact (chan_ne h2 hb).symm
theorem Play.turnA {B : Nat} (ok : s.Ok B) (hB : B = w.heap.size) {xs' : List Int} (h : Play s w xs ys us vs wr) (ha : BoxAt 51 3 s.ba s.ca s.N (xs'.map (Value.int .i64)) w') (hw : But wr.heap.size s.ca wr w') : Play s w xs' ys us vs w' :=
  ⟨ha, h.b.but hw (h.a.noRow _) (h.a.noRow _) (fun e => ok.ab e.symm), box_ref h.x h.a hw, box_ref h.y h.a hw, h.below.trans (hw.below h.below.size (hB ▸ ok.a))⟩
theorem Play.turnB {B : Nat} (ok : s.Ok B) (hB : B = w.heap.size) {ys' : List Int} (h : Play s w xs ys us vs wr) (hb : BoxAt 51 3 s.bb s.cb s.M (ys'.map (Value.int .i64)) w') (hw : But wr.heap.size s.cb wr w') : Play s w xs ys' us vs w' :=
  ⟨h.a.but hw (h.b.noRow _) (h.b.noRow _) ok.ab, hb, box_ref h.x h.b hw, box_ref h.y h.b hw, h.below.trans (hw.below h.below.size (hB ▸ ok.b))⟩
theorem Play.turnX {B : Nat} (ok : s.Ok B) (hB : B = w.heap.size) {us' : List Int} (h : Play s w xs ys us vs wr) (hx : RefAt s.gx s.N us' w') (hw : But wr.heap.size s.gx wr w') : Play s w xs ys us' vs w' :=
  ⟨ref_box h.x h.a hw, ref_box h.x h.b hw, hx, h.y.but hw (noIntRow_ref h.x) (fun e => ok.xy e.symm), h.below.trans (hw.below h.below.size (hB ▸ ok.x))⟩
theorem Play.turnY {B : Nat} (ok : s.Ok B) (hB : B = w.heap.size) {vs' : List Int} (h : Play s w xs ys us vs wr) (hy : RefAt s.gy s.M vs' w') (hw : But wr.heap.size s.gy wr w') : Play s w xs ys us vs' w' :=
  ⟨ref_box h.y h.a hw, ref_box h.y h.b hw, h.x.but hw (noIntRow_ref h.y) ok.xy, hy, h.below.trans (hw.below h.below.size (hB ▸ ok.y))⟩
end
end Go.Proofs.Ytmekglkiiannfaa.box
