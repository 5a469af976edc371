/- Contracts and lemmas that claims of this seat share: FieldWider. Each says its own conditions. -/
import Derived.Test.YtdnegbkhndekpaaGreatCmWord
import Derived.Test.YtdnegbkhndekpaaGreatCmC
import Derived.Test.YtdnegbkhndekpaaGreatCmD
set_option linter.unusedVariables false
namespace Go.Proofs.YtdnegbkhndekpaaGreat
open Go.Proofs.Tryz
theorem t16{P:Prop}(h:P:=by
 go_enter func69,ntmps69;go_wp2_with (first
  | (go_at_call 55;(with_reducible refine cs1.mono ?_);rintro e w1 ⟨rfl,hb1⟩;obtain ⟨hf1,hg1,hbw1⟩:=HW.o _ hb1;clear cs1)
  | (go_at_call 55;(with_reducible refine (cs2 _ hb1).mono ?_);rintro e w2 ⟨rfl,hb2⟩;obtain ⟨hf2,hg2,hbw2⟩:=HW.o _ hb2))
 go_ret;exact ⟨bP (HY.o),hbw2⟩):P:=h
theorem t14{P:Prop}(h:P:=by
 go_enter func117,ntmps117;go_wp2_with (first
  | (go_at_call 96;(with_reducible refine cr1.mono ?_);rintro e w1 ⟨rfl,hb1⟩;obtain ⟨hf1,hg1,hbw1⟩:=HW.o _ hb1;clear cr1)
  | (go_at_call 96;(with_reducible refine (cr2 _ hb1).mono ?_);rintro e w2 ⟨rfl,hb2⟩;obtain ⟨hf2,hg2,hbw2⟩:=HW.o _ hb2))
 go_ret;exact ⟨bP (HY.o),hbw2⟩):P:=h
namespace field
open Go.RowKit
def WW (f g:Fd) (w:World):World:=(w.alloc (.cells (zF f) 26)).alloc (.cells (zF g) 26)
theorem WW.all (f g:Fd) (w w':World) (hb:Below (WW f g w).heap.size (WW f g w) w'):(w'.cell? ⟨w.heap.size,0,none⟩=some (.int .i64 f.id)/\w'.cell? ⟨w.heap.size,1,none⟩=some (.int .i64 f.kind)/\w'.cell? ⟨w.heap.size,2,none⟩=some (.int .i64 f.lo)/\w'.cell? ⟨w.heap.size,3,none⟩=some (.int .i64 f.hi)/\w'.cell? ⟨w.heap.size,4,none⟩=some (.int .i64 f.most))/\(w'.cell? ⟨w.heap.size+1,0,none⟩=some (.int .i64 g.id)/\w'.cell? ⟨w.heap.size+1,1,none⟩=some (.int .i64 g.kind)/\w'.cell? ⟨w.heap.size+1,2,none⟩=some (.int .i64 g.lo)/\w'.cell? ⟨w.heap.size+1,3,none⟩=some (.int .i64 g.hi)/\w'.cell? ⟨w.heap.size+1,4,none⟩=some (.int .i64 g.most))/\Below w.heap.size w w':=by
 have h1:Below (w.alloc (.cells (zF f) 26)).heap.size (w.alloc (.cells (zF f) 26)) w':=(aC _ _).trans (hb.mono (by unfold WW;simp));refine ⟨five f w w' h1, ?_,lU f w w' h1⟩;have h2:=five g (w.alloc (.cells (zF f) 26)) w' hb;simpa using h2
theorem Fd.CU {f g:Fd} (hf:f.Right) (hg:g.Right):f.Wider g↔f.kind=g.kind/\g.lo<=f.lo/\f.great<=g.great/\f.long<=g.long:=by
 have h1:=hf;have h2:=hg;unfold Fd.Right at h1 h2;unfold Fd.Wider Fd.great Fd.long;constructor
 ·rintro ⟨_,_,hk,h3,h4,h5⟩;rw [<-hk];rcases kinds hf with k | k | k | k <;> rw [k] <;> simp <;> omega
 ·rintro ⟨hk,h3,h4,h5⟩;rw [<-hk] at h4 h5 h2;refine ⟨hf,hg,hk,h3, ?_⟩;rcases kinds hf with k | k | k | k <;> rw [k] at h4 h5 h1 h2 <;> simp at h4 h5 <;> omega
set_option maxHeartbeats 4000000 in
theorem yZ (f g:Fd) (w:World):Calls prog 117 #[zF f,zF g] w (Gives (.bool (decide (f.Wider g))) w):=by
 have HW:=hid (WW.all f g w);obtain ⟨V,hV⟩:∃V,Hid (decide (f.Wider g)=V):=⟨_,rfl⟩;rw [hV.o];unfold Gives;by_cases hf:f.Right
 ·by_cases hg:g.Right
  ·have cr1:=aj (dL f (WW f g w)) (w0:=WW f g w) (Below.refl _ _);have cr2:=fun w1 (hb:Below (WW f g w).heap.size (WW f g w) w1)=>aj (dL g w1) hb
   rw [decide_eq_true hf] at cr1;rw [decide_eq_true hg] at cr2;have HQ:Hid (f.Wider g↔(f.kind=g.kind/\g.lo<=f.lo/\f.hi<=g.hi/\f.most<=g.most)):=hid ⟨fun h=>h.2.2,fun h=>⟨hf,hg,h⟩⟩;unfold WW at cr1 cr2 HW;clear hf hg;by_cases a1:f.kind=g.kind
   ·by_cases a2:g.lo<=f.lo
    ·by_cases a3:f.hi<=g.hi
     ·by_cases a4:f.most<=g.most
      ·have HY:Hid (true=V):=hid (by rw [<-hV.o];symm;exact decide_eq_true (by rw [HQ.o];omega));clear HQ hV;have e1:(f.kind == g.kind)=true:=by rw [beq_iff_eq];exact a1
       clear a1
       exact t14
      ·have HY:Hid (false=V):=hid (by rw [<-hV.o];symm;exact decide_eq_false (by rw [HQ.o];omega));clear HQ hV;have e1:(f.kind == g.kind)=true:=by rw [beq_iff_eq];exact a1
       have d4:decide (f.most<=g.most)=false:=decide_eq_false a4;clear a1 a4
       exact t14
     ·have HY:Hid (false=V):=hid (by rw [<-hV.o];symm;exact decide_eq_false (by rw [HQ.o];omega));clear HQ hV;have e1:(f.kind == g.kind)=true:=by rw [beq_iff_eq];exact a1
      have d4:decide (f.hi<=g.hi)=false:=decide_eq_false a3;clear a1 a3
      exact t14
    ·have HY:Hid (false=V):=hid (by rw [<-hV.o];symm;exact decide_eq_false (by rw [HQ.o];omega));clear HQ hV;have e1:(f.kind == g.kind)=true:=by rw [beq_iff_eq];exact a1
     have d4:decide (g.lo<=f.lo)=false:=decide_eq_false a2;clear a1 a2
     exact t14
   ·have HY:Hid (false=V):=hid (by rw [<-hV.o];symm;exact decide_eq_false (by rw [HQ.o];omega));clear HQ hV;have e1:(f.kind == g.kind)=false:=by rw [beq_eq_false_iff_ne];exact a1
    clear a1
    exact t14
  ·have cr1:=aj (dL f (WW f g w)) (w0:=WW f g w) (Below.refl _ _);have cr2:=fun w1 (hb:Below (WW f g w).heap.size (WW f g w) w1)=>aj (dL g w1) hb
   rw [decide_eq_true hf] at cr1;rw [decide_eq_false hg] at cr2;have HY:Hid (false=V):=hid (by rw [<-hV.o];symm;exact decide_eq_false (fun h=>hg h.2.1));unfold WW at cr1 cr2 HW;clear hf hg hV
   exact t14
 ·have cr1:=aj (dL f (WW f g w)) (w0:=WW f g w) (Below.refl _ _);rw [decide_eq_false hf] at cr1;have HY:Hid (false=V):=hid (by rw [<-hV.o];symm;exact decide_eq_false (fun h=>hf h.1));unfold WW at cr1 HW;clear hf hV;go_enter func117,ntmps117;go_wp2_with (first
   | (go_at_call 96;(with_reducible refine cr1.mono ?_);rintro e w1 ⟨rfl,hb1⟩;obtain ⟨hf1,hg1,hbw1⟩:=HW.o _ hb1;clear cr1))
  go_ret;exact ⟨bP (HY.o),hbw1⟩
set_option maxHeartbeats 4000000 in
theorem zI (f g:Fd) (w:World):Calls prog 69 #[zF f,zF g] w (Gives (.bool (decide (f.Wider g))) w):=by
 have HW:=hid (WW.all f g w);obtain ⟨V,hV⟩:∃V,Hid (decide (f.Wider g)=V):=⟨_,rfl⟩;rw [hV.o];unfold Gives;by_cases hf:f.Right
 ·by_cases hg:g.Right
  ·have cs1:=jd f hf (w0:=WW f g w) (Below.refl _ _);have cs2:=fun w1 (hb:Below (WW f g w).heap.size (WW f g w) w1)=>jd g hg hb
   have HQ:=hid (Fd.CU hf hg);unfold WW at cs1 cs2 HW;clear hf hg;generalize f.great=G1 at *;generalize g.great=G2 at *;generalize f.long=L1 at *;generalize g.long=L2 at *;by_cases a1:f.kind=g.kind
   ·by_cases a2:g.lo<=f.lo
    ·by_cases a3:G1<=G2
     ·by_cases a4:L1<=L2
      ·have HY:Hid (true=V):=hid (by rw [<-hV.o];symm;exact decide_eq_true (by rw [HQ.o];omega));clear HQ hV;have e1:(f.kind == g.kind)=true:=by rw [beq_iff_eq];exact a1
       clear a1
       exact t16
      ·have HY:Hid (false=V):=hid (by rw [<-hV.o];symm;exact decide_eq_false (by rw [HQ.o];omega));clear HQ hV;have e1:(f.kind == g.kind)=true:=by rw [beq_iff_eq];exact a1
       have d4:decide (L1<=L2)=false:=decide_eq_false a4;clear a1 a4
       exact t16
     ·have HY:Hid (false=V):=hid (by rw [<-hV.o];symm;exact decide_eq_false (by rw [HQ.o];omega));clear HQ hV;have e1:(f.kind == g.kind)=true:=by rw [beq_iff_eq];exact a1
      have d4:decide (G1<=G2)=false:=decide_eq_false a3;clear a1 a3
      exact t16
    ·have HY:Hid (false=V):=hid (by rw [<-hV.o];symm;exact decide_eq_false (by rw [HQ.o];omega));clear HQ hV;have e1:(f.kind == g.kind)=true:=by rw [beq_iff_eq];exact a1
     have d4:decide (g.lo<=f.lo)=false:=decide_eq_false a2;clear a1 a2
     exact t16
   ·have HY:Hid (false=V):=hid (by rw [<-hV.o];symm;exact decide_eq_false (by rw [HQ.o];omega));clear HQ hV;have e1:(f.kind == g.kind)=false:=by rw [beq_eq_false_iff_ne];exact a1
    clear a1
    exact t16
  ·have cs1:=jd f hf (w0:=WW f g w) (Below.refl _ _);have cs2:=fun w1 (hb:Below (WW f g w).heap.size (WW f g w) w1)=>jf g hg hb
   have HY:Hid (false=V):=hid (by rw [<-hV.o];symm;exact decide_eq_false (fun h=>hg h.2.1));unfold WW at cs1 cs2 HW;clear hf hg hV;go_enter func69,ntmps69;go_wp2_with (first
    | (go_at_call 55;(with_reducible refine cs1.mono ?_);rintro e w1 ⟨rfl,hb1⟩;obtain ⟨hf1,hg1,hbw1⟩:=HW.o _ hb1;clear cs1)
    | (go_at_call 55;(with_reducible refine (cs2 _ hb1).mono ?_);rintro e w2 ⟨⟨a2,b2,c2,rfl⟩,hb2⟩;obtain ⟨hf2,hg2,hbw2⟩:=HW.o _ hb2))
   go_ret;exact ⟨bP (HY.o),hbw2⟩
 ·have cs1:=jf f hf (w0:=WW f g w) (Below.refl _ _);have HY:Hid (false=V):=hid (by rw [<-hV.o];symm;exact decide_eq_false (fun h=>hf h.1));clear hf hV;by_cases hg:g.Right
  ·have cs2:=fun w1 (hb:Below (WW f g w).heap.size (WW f g w) w1)=>jd g hg hb
   unfold WW at cs1 cs2 HW;clear hg;go_enter func69,ntmps69;go_wp2_with (first
    | (go_at_call 55;(with_reducible refine cs1.mono ?_);rintro e w1 ⟨⟨a1,b1,c1,rfl⟩,hb1⟩;obtain ⟨hf1,hg1,hbw1⟩:=HW.o _ hb1;clear cs1)
    | (go_at_call 55;(with_reducible refine (cs2 _ hb1).mono ?_);rintro e w2 ⟨rfl,hb2⟩;obtain ⟨hf2,hg2,hbw2⟩:=HW.o _ hb2))
   go_ret;exact ⟨bP (HY.o),hbw2⟩
  ·have cs2:=fun w1 (hb:Below (WW f g w).heap.size (WW f g w) w1)=>jf g hg hb
   unfold WW at cs1 cs2 HW;clear hg;go_enter func69,ntmps69;go_wp2_with (first
    | (go_at_call 55;(with_reducible refine cs1.mono ?_);rintro e w1 ⟨⟨a1,b1,c1,rfl⟩,hb1⟩;obtain ⟨hf1,hg1,hbw1⟩:=HW.o _ hb1;clear cs1)
    | (go_at_call 55;(with_reducible refine (cs2 _ hb1).mono ?_);rintro e w2 ⟨⟨a2,b2,c2,rfl⟩,hb2⟩;obtain ⟨hf2,hg2,hbw2⟩:=HW.o _ hb2))
   go_ret;exact ⟨bP (HY.o),hbw2⟩
end field
end Go.Proofs.YtdnegbkhndekpaaGreat
