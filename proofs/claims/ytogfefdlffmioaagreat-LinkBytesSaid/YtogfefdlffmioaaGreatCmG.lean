/- Contracts and lemmas that claims of this seat share: FieldTop. Each says its own conditions. -/
import Derived.Test.YtogfefdlffmioaaGreatCmWord
import Derived.IntWalk
import Derived.Handy
import Derived.Test.YtogfefdlffmioaaGreatCmE
import Derived.Test.YtogfefdlffmioaaGreatCmF
set_option linter.unusedVariables false
namespace Go.Proofs.YtogfefdlffmioaaGreat
open Go.Proofs.Tryz
theorem t131{P:Prop}(h:P:=by
 clear hm;go_enter func117,ntmps117
 exact t39):P:=h
namespace field
open Go.RowKit
theorem kinds{f:Fd}(h:f.Right):f.kind=1\/f.kind=2\/f.kind=3\/f.kind=4:=by unfold Fd.Right at h;omega
theorem greatest_any(f:Fd)(h:f.Right)(w:World):Calls prog 117 #[zF f] w (Gives (.int .i64 f.great) w):=by
 have hk:=kinds h;have hs:=h.span;obtain⟨i,k,lo,hi,m⟩:=f;simp only at hk ⊢;have hm:k=3->1<=m/\m<=1000:=by intro h3;unfold Fd.Right at h;simp only at h;omega
 clear h hs;unfold Gives;rcases hk with rfl | rfl | rfl | rfl
 ·rw[show Fd.great ⟨i,1,lo,hi,m⟩=hi from rfl]
  exact t131
 ·rw[show Fd.great ⟨i,2,lo,hi,m⟩=1 from rfl]
  exact t131
 ·rw[show Fd.great ⟨i,3,lo,hi,m⟩=m - 1 from rfl];obtain⟨m1,m2⟩:=hm rfl
  exact t131
 ·rw[show Fd.great ⟨i,4,lo,hi,m⟩=0 from rfl]
  exact t131
theorem gives_from{P:Program}{F:FuncId}{args:Array Value}{v:Value}{w0 w:World}(h:Calls P F args w (Gives v w))(hb:Below w0.heap.size w0 w):Calls P F args w fun e w'=>e=.returned v/\Below w0.heap.size w0 w':=
 h.mono fun _ _ ⟨he,hw⟩=>⟨he,hb.trans (hw.mono hb.size)⟩
theorem top_any(f:Fd)(h:f.Right)(w:World):Calls prog 116 #[zF f] w (Gives (.int .i64 (f.great - f.lo)) w):=by
 have HS:=hid (five f w);have HB:=hid (belowF f w);have hs:=h.span;have s1:=hs.1;have s2:=hs.2.1;have bT:Below (w.alloc (.cells (zF f) 79)).heap.size (w.alloc (.cells (zF f) 79)) (w.alloc (.cells (zF f) 79)).drew:=below_drewN (Below.refl _ _) 1;have cg:=gives_from (greatest_any f h (w.alloc (.cells (zF f) 79)).drew) bT;have kz:=HS.o _ bT;clear h hs;unfold Gives;generalize f.great=G at *;go_enter func116,ntmps116;go_wp2;go_region_held3 (fun w'=>(w'.cell? ⟨w.heap.size,0,none⟩=some (.int .i64 f.id)/\w'.cell? ⟨w.heap.size,1,none⟩=some (.int .i64 f.kind)/\w'.cell? ⟨w.heap.size,2,none⟩=some (.int .i64 f.lo)/\w'.cell? ⟨w.heap.size,3,none⟩=some (.int .i64 f.hi)/\w'.cell? ⟨w.heap.size,4,none⟩=some (.int .i64 f.most))) (first | assumption | go_keep) ((go_at_call 117;(with_reducible refine cg.mono ?_);rintro e w2 ⟨rfl,aj⟩;have gq:=HS.o w2 aj));go_wp2;go_ret;exact⟨ret_int (IntWalk.i64_in _ om_),HB.o _ aj⟩
end field
end Go.Proofs.YtogfefdlffmioaaGreat
