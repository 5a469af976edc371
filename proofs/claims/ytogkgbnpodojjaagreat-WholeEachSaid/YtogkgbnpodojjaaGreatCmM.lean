/- Contracts and lemmas that claims of this seat share: FieldWider. Each says its own conditions. -/
import Derived.Test.YtogkgbnpodojjaaGreatCmWord
import Derived.Test.YtogkgbnpodojjaaGreatCmF
import Derived.Test.YtogkgbnpodojjaaGreatCmK
set_option linter.unusedVariables false
namespace Go.Proofs.YtogkgbnpodojjaaGreat
open Go.Proofs.Tryz
theorem t8{P:Prop}(h:P:=by
 go_enter func192,ntmps192;go_wp2_with (first
  | (go_at_call 153;(with_reducible refine cr1.mono ?_);rintro e w1 ⟨rfl,hb1⟩;obtain ⟨hf1,hg1,hbw1⟩:=HW.o _ hb1;clear cr1)
  | (go_at_call 153;(with_reducible refine (cr2 _ hb1).mono ?_);rintro e w2 ⟨rfl,hb2⟩;obtain ⟨hf2,hg2,hbw2⟩:=HW.o _ hb2))
 go_ret;exact ⟨dA (HY.o),hbw2⟩):P:=h
namespace field
open Go.RowKit
def WW (f g:Fd) (w:World):World:=(w.alloc (.cells (zF f) 52)).alloc (.cells (zF g) 52)
theorem WW.all (f g:Fd) (w w':World) (hb:Below (WW f g w).heap.size (WW f g w) w'):(w'.cell? ⟨w.heap.size,0,none⟩=some (.int .i64 f.id)/\w'.cell? ⟨w.heap.size,1,none⟩=some (.int .i64 f.kind)/\w'.cell? ⟨w.heap.size,2,none⟩=some (.int .i64 f.lo)/\w'.cell? ⟨w.heap.size,3,none⟩=some (.int .i64 f.hi)/\w'.cell? ⟨w.heap.size,4,none⟩=some (.int .i64 f.most))/\(w'.cell? ⟨w.heap.size+1,0,none⟩=some (.int .i64 g.id)/\w'.cell? ⟨w.heap.size+1,1,none⟩=some (.int .i64 g.kind)/\w'.cell? ⟨w.heap.size+1,2,none⟩=some (.int .i64 g.lo)/\w'.cell? ⟨w.heap.size+1,3,none⟩=some (.int .i64 g.hi)/\w'.cell? ⟨w.heap.size+1,4,none⟩=some (.int .i64 g.most))/\Below w.heap.size w w':=by
 have h1:Below (w.alloc (.cells (zF f) 52)).heap.size (w.alloc (.cells (zF f) 52)) w':=(ak _ _).trans (hb.mono (by unfold WW;simp));refine ⟨five f w w' h1, ?_,oP f w w' h1⟩;have h2:=five g (w.alloc (.cells (zF f) 52)) w' hb;simpa using h2
set_option maxHeartbeats 4000000 in
theorem xW (f g:Fd) (w:World):Calls prog 192 #[zF f,zF g] w (Gives (.bool (decide (f.Wider g))) w):=by
 have HW:=hid (WW.all f g w);obtain ⟨V,hV⟩:∃V,Hid (decide (f.Wider g)=V):=⟨_,rfl⟩;rw [hV.o];unfold Gives;by_cases hf:f.Right
 ·by_cases hg:g.Right
  ·have cr1:=aj (aX f (WW f g w)) (w0:=WW f g w) (Below.refl _ _);have cr2:=fun w1 (hb:Below (WW f g w).heap.size (WW f g w) w1)=>aj (aX g w1) hb
   rw [decide_eq_true hf] at cr1;rw [decide_eq_true hg] at cr2;have HQ:Hid (f.Wider g↔(f.kind=g.kind/\g.lo<=f.lo/\f.hi<=g.hi/\f.most<=g.most)):=hid ⟨fun h=>h.2.2,fun h=>⟨hf,hg,h⟩⟩;unfold WW at cr1 cr2 HW;clear hf hg;by_cases a1:f.kind=g.kind
   ·by_cases a2:g.lo<=f.lo
    ·by_cases a3:f.hi<=g.hi
     ·by_cases a4:f.most<=g.most
      ·have HY:Hid (true=V):=hid (by rw [<-hV.o];symm;exact decide_eq_true (by rw [HQ.o];omega));clear HQ hV;have e1:(f.kind == g.kind)=true:=by rw [beq_iff_eq];exact a1
       clear a1
       exact t8
      ·have HY:Hid (false=V):=hid (by rw [<-hV.o];symm;exact decide_eq_false (by rw [HQ.o];omega));clear HQ hV;have e1:(f.kind == g.kind)=true:=by rw [beq_iff_eq];exact a1
       have d4:decide (f.most<=g.most)=false:=decide_eq_false a4;clear a1 a4
       exact t8
     ·have HY:Hid (false=V):=hid (by rw [<-hV.o];symm;exact decide_eq_false (by rw [HQ.o];omega));clear HQ hV;have e1:(f.kind == g.kind)=true:=by rw [beq_iff_eq];exact a1
      have d4:decide (f.hi<=g.hi)=false:=decide_eq_false a3;clear a1 a3
      exact t8
    ·have HY:Hid (false=V):=hid (by rw [<-hV.o];symm;exact decide_eq_false (by rw [HQ.o];omega));clear HQ hV;have e1:(f.kind == g.kind)=true:=by rw [beq_iff_eq];exact a1
     have d4:decide (g.lo<=f.lo)=false:=decide_eq_false a2;clear a1 a2
     exact t8
   ·have HY:Hid (false=V):=hid (by rw [<-hV.o];symm;exact decide_eq_false (by rw [HQ.o];omega));clear HQ hV;have e1:(f.kind == g.kind)=false:=by rw [beq_eq_false_iff_ne];exact a1
    clear a1
    exact t8
  ·have cr1:=aj (aX f (WW f g w)) (w0:=WW f g w) (Below.refl _ _);have cr2:=fun w1 (hb:Below (WW f g w).heap.size (WW f g w) w1)=>aj (aX g w1) hb
   rw [decide_eq_true hf] at cr1;rw [decide_eq_false hg] at cr2;have HY:Hid (false=V):=hid (by rw [<-hV.o];symm;exact decide_eq_false (fun h=>hg h.2.1));unfold WW at cr1 cr2 HW;clear hf hg hV
   exact t8
 ·have cr1:=aj (aX f (WW f g w)) (w0:=WW f g w) (Below.refl _ _);rw [decide_eq_false hf] at cr1;have HY:Hid (false=V):=hid (by rw [<-hV.o];symm;exact decide_eq_false (fun h=>hf h.1));unfold WW at cr1 HW;clear hf hV;go_enter func192,ntmps192;go_wp2_with (first
   | (go_at_call 153;(with_reducible refine cr1.mono ?_);rintro e w1 ⟨rfl,hb1⟩;obtain ⟨hf1,hg1,hbw1⟩:=HW.o _ hb1;clear cr1))
  go_ret;exact ⟨dA (HY.o),hbw1⟩
end field
end Go.Proofs.YtogkgbnpodojjaaGreat
