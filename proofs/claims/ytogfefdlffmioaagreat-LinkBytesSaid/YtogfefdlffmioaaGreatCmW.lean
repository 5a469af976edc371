/- Contracts and lemmas that claims of this seat share: FieldRefHas. Each says its own conditions. -/
import Derived.Test.YtogfefdlffmioaaGreatCmWord
import Derived.Test.YtogfefdlffmioaaGreatCmU
import Derived.Test.YtogfefdlffmioaaGreatCmV
import Derived.Test.YtogfefdlffmioaaGreatCmS
set_option linter.unusedVariables false
namespace Go.Proofs.YtogfefdlffmioaaGreat
open Go.Proofs.Tryz
theorem t17{P:Prop}(h:P:=by
 go_enter func77,ntmps77;go_wp2_with (go_at_call 96;(with_reducible refine cs.mono ?_);rintro e w1 ⟨rfl,ak⟩;obtain⟨bI,hv1,fK⟩:=HW.o _ ak;clear cs);go_ret;exact⟨ret_bool HY.o,fK⟩):P:=h
namespace field
open Go.RowKit
def WV(f:Fd)(v:Va)(w:World):World:=(w.alloc (.cells (zF f) 79)).alloc (.cells (zV v) 81)
theorem WV.all(f:Fd)(v:Va)(w w':World)(hb:Below (WV f v w).heap.size (WV f v w) w'):(w'.cell? ⟨w.heap.size,0,none⟩=some (.int .i64 f.id)/\w'.cell? ⟨w.heap.size,1,none⟩=some (.int .i64 f.kind)/\w'.cell? ⟨w.heap.size,2,none⟩=some (.int .i64 f.lo)/\w'.cell? ⟨w.heap.size,3,none⟩=some (.int .i64 f.hi)/\w'.cell? ⟨w.heap.size,4,none⟩=some (.int .i64 f.most))/\(w'.cell? ⟨w.heap.size+1,0,none⟩=some (.int .i64 v.n)/\w'.cell? ⟨w.heap.size+1,1,none⟩=some (.string v.s))/\Below w.heap.size w w':=by
 have h1:Below (w.alloc (.cells (zF f) 79)).heap.size (w.alloc (.cells (zF f) 79)) w':=(newB _ _).trans (hb.mono (by unfold WV;simp));refine⟨five f w w' h1, ?_,belowF f w w' h1⟩;have h2:=two v (w.alloc (.cells (zF f) 79)) w' hb;simpa using h2
theorem refHas_any(f:Fd)(v:Va)(w:World):Calls prog 77 #[zF f,zV v] w (Gives (.bool (decide (f.Has v))) w):=by
 have HW:=hid (WV.all f v w);obtain⟨V,hV⟩:∃V,Hid (decide (f.Has v)=V):=⟨_,rfl⟩;rw[hV.o];unfold Gives;by_cases h:f.Right
 ·have cs:=span_from f h (w0:=WV f v w) (Below.refl _ _);have HQ:Hid (f.Has v↔(v.n≥f.lo/\v.n<=f.great/\(v.s.size:Int)<=f.long)):=hid ⟨fun k=>⟨k.2.1.1,k.2.1.2,k.2.2⟩,fun k=>⟨h,⟨k.1,k.2.1⟩,k.2.2⟩⟩;unfold WV at cs HW;clear h;generalize f.great=G at *;generalize f.long=L at *;generalize hN:(v.s.size:Int)=N at *;by_cases a1:v.n≥f.lo
  ·by_cases a2:v.n<=G
   ·by_cases a3:N<=L
    ·have HY:Hid (true=V):=hid (by rw[<-hV.o];symm;exact decide_eq_true (HQ.o.2 ⟨a1,a2,a3⟩));clear HQ hV
     exact t17
    ·have HY:Hid (false=V):=hid (by rw[<-hV.o];symm;exact decide_eq_false (fun k=>a3 (HQ.o.1 k).2.2));have d3:decide (N<=L)=false:=decide_eq_false a3;clear HQ hV a3
     exact t17
   ·have HY:Hid (false=V):=hid (by rw[<-hV.o];symm;exact decide_eq_false (fun k=>a2 (HQ.o.1 k).2.1));have d3:decide (v.n<=G)=false:=decide_eq_false a2;clear HQ hV a2
    exact t17
  ·have HY:Hid (false=V):=hid (by rw[<-hV.o];symm;exact decide_eq_false (fun k=>a1 (HQ.o.1 k).1));have d3:decide (v.n≥f.lo)=false:=decide_eq_false a1;clear HQ hV a1
   exact t17
 ·have cs:=span_from_no f h (w0:=WV f v w) (Below.refl _ _);have HY:Hid (false=V):=hid (by rw[<-hV.o];symm;exact decide_eq_false (fun k=>h k.1));unfold WV at cs HW;clear h hV;go_enter func77,ntmps77;go_wp2_with (go_at_call 96;(with_reducible refine cs.mono ?_);rintro e w1 ⟨⟨a,b,c,rfl⟩,ak⟩;obtain⟨bI,hv1,fK⟩:=HW.o _ ak;clear cs);go_ret;exact⟨ret_bool HY.o,fK⟩
end field
end Go.Proofs.YtogfefdlffmioaaGreat
