/- Contracts and lemmas that claims of this seat share: SchemaExec, SchemaRefRight, SchemaSameW, SchemaRefSame. Each says its own conditions. -/
import Derived.Test.YtogfefdlffmioaaCmWord
import Derived.Laws.StructEq
import Derived.Deep.RegionHeld3
import Derived.Test.YtogfefdlffmioaaCmE
import Derived.Test.YtogfefdlffmioaaCmAJ
import Derived.Test.YtogfefdlffmioaaCmAK
import Derived.Test.YtogfefdlffmioaaCmAQ
import Derived.Test.YtogfefdlffmioaaCmT
import Derived.Test.YtogfefdlffmioaaCmY
import Derived.Test.YtogfefdlffmioaaCmAG
set_option linter.unusedVariables false
namespace Go.Proofs.Ytogfefdlffmioaa
open Go.Proofs.Try
namespace ak
open Go.RowKit
section
variable {o:Oper} {a:Act} {w:World}
theorem gW{x y:Operand}{b off len cap i:Nat}(ho:o.op=.indexAddr 22 x y)(hi:i<len)(hx:a.eval x=.slice (some ⟨b,off,none⟩) len cap:=by kernel_rfl)(hy:a.eval y=.int .i64 (i:Int):=by kernel_rfl):
  (execOp a.eval o).run prog w=.ok (.value (.pointer (some ⟨b,off+i*2,none⟩))) w:=by
 exact t75
end
end ak
theorem t127{P:Prop}(h:P:=by
 refine plan.Rest.first 26 _ (.bool true) rfl (fun w' aJ=>kr_) ?_
 exact t31):P:=h
theorem t62{P:Prop}(h:P:=by
 go_enter func16,ntmps16;go_wp2;go_ret;exact⟨rfl,HW.o⟩):P:=h
namespace ak
open Go.RowKit
open field (Gives aI ay)
set_option maxRecDepth 20000 in
set_option maxHeartbeats 1600000 in
theorem fB(v:Int)(a:Option Addr)(cap:Nat)(F:List Fm)(w:World)(h:FmL w a F)(hF:F.length<=maxLen):
  Calls prog 16 #[zS v a F.length cap] w (Gives (.bool (decide (Right v (forms F)))) w):=by
 have hml:(F.length:Int)<=9223372036854775807:=by unfold maxLen at hF;omega
 have HX:=hid (boxS v a F cap w);have hw:=aI w (.cells (zS v a F.length cap) 24);have HF:=hid (h.below hw);have HW:=hid hw;have HL:=hid (bg F);obtain⟨r,hr⟩:∃r:Bool,Hid (decide (Right v (forms F))=r):=⟨_,rfl⟩;rw[hr.o];unfold Gives;clear h hw;by_cases h1:v<1
 ·obtain rfl:false=r:=by rw[<-hr.o];exact(decide_eq_false (fun e=>by have:=e.1.1;omega)).symm
  have hd1:decide (v<1)=true:=decide_eq_true h1;clear h1
  exact t62
 have hd1:decide (v<1)=false:=decide_eq_false h1;by_cases h2:v>65535
 ·obtain rfl:false=r:=by rw[<-hr.o];exact(decide_eq_false (fun e=>by have:=e.1.2;omega)).symm
  have hd2:decide (v>65535)=true:=decide_eq_true h2;clear h1 h2
  exact t62
 have hd2:decide (v>65535)=false:=decide_eq_false h2;by_cases h4:F.length>8
 ·obtain rfl:false=r:=by rw[<-hr.o];exact(decide_eq_false (fun e=>by have:=e.2.1;rw[bg] at this;omega)).symm
  have hd4:decide ((F.length:Int)>8)=true:=decide_eq_true om_;clear h1 h2 h4
  exact t62
 have hd4:decide ((F.length:Int)>8)=false:=decide_eq_false om_;have CP:Hid (Right v (forms F)↔iW (forms F)):=hid ⟨fun e=>e.2.2,fun e=>⟨by omega,by rw[bg];omega,e⟩⟩;have h8:F.length<=8:=by omega
 clear h1 h2 h4;go_enter func16,ntmps16;go_wp2;clear hd1 hd2 hd4;generalize (w.alloc (.cells (zS v a F.length cap) 24))=W0 at *;go_loopw [3] (fun n wr=>∃k:Nat,k<=F.length/\n=.int .i64 (k:Int)/\Hid (iW ((forms F).take k))/\Hid (Below W0.heap.size W0 wr)) (fun n _=>F.length - (intOf n).toNat);case atStart=>exact⟨0,Nat.zero_le _,rfl,hid iW.nil,hid (Below.refl _ _)⟩
 case round=>
  obtain⟨k,hk,rfl,nK,HB⟩:=hrel;obtain⟨z0,z1,dP⟩:=HX.o _ HB.o;by_cases bI:k<F.length
  ·obtain⟨b,off,p,rfl,jV,hp,c0,c1,D8,GL⟩:=jH HF.o HB.o bI;have i1:(k:Int)<F.length:=by omega
   have oP:=hid (yM (dW hp));have iM:=hid (mr (dW hp));have hR:=Kz c0 c1;obtain⟨i,q,qc,L⟩:=p;simp only[Fm.p] at oP iM hR D8 GL c0 c1;have cf:=fun w' (aJ:Below wr.heap.size wr w')=>rY i q qc L w' (D8.below aJ) GL
   by_cases hf:Fine (i,L)
   ·rw[decide_eq_true hf] at cf;by_cases GN:k=0
    ·have NU:Hid (decide ((k:Int)>0)=false):=hid (by rw[GN];simp);have zW:Hid (iW ((forms F).take (k+1))):=hid (iM.o.2 ⟨nK.o,hf,by rw[GN];simp⟩);have HZ:=hid (fun w' (aJ:Below wr.heap.size wr w')=>(⟨by obtain⟨_,y1,_⟩:=HX.o w' (HB.o.trans (aJ.mono HB.o.size));exact y1,fE hR aJ jV⟩:w'.cell? ⟨w.heap.size,1,none⟩=some (.slice (some ⟨b,off,none⟩) F.length cap)/\w'.rangeAt b (off+k*2) (zS i q L.length qc)));clear hp hR hf c0 c1 D8 GN nK oP iM;go_wp2;have hb:Below wr.heap.size wr wr.drew:=bJ (Below.refl _ _)
     ·refine plan.region kr_ ?_;refine plan.Rest.first 0 _ (.pointer (some ⟨w.heap.size,1,none⟩)) rfl (fun w' aJ=>kr_) ?_;refine plan.Rest.first 1 _ (.slice (some ⟨b,off,none⟩) F.length cap) rfl (fun w' aJ=>aC (ad:=⟨w.heap.size,1,none⟩) rfl (HZ.o _ (hb.trans (aJ.mono hb.size))).1 isAgg22) ?_;refine plan.Rest.first 2 _ (.int .i64 (k:Int)) rfl (fun w' aJ=>kr_) ?_;refine plan.Rest.first 3 _ (.pointer (some ⟨b,off+k*2,none⟩)) rfl (fun w' aJ=>(gW (b:=b) (off:=off) (len:=F.length) (cap:=cap) (i:=k) rfl bI)) ?_;refine plan.Rest.first 4 _ (zS i q L.length qc) rfl (fun w' aJ=>aj (b:=b) (off:=off+k*2) rfl (HZ.o _ (hb.trans (aJ.mono hb.size))).2 underlying40 rfl oI.o) ?_;refine plan.Rest.call 5 _ 37 #[zS i q L.length qc] rfl ((cf wr.drew hb).mono ?_);rintro e W1 ⟨rfl,hn⟩;have hb:=hb.trans (hn.mono hb.size);refine⟨_,rfl,hn, ?_⟩;refine plan.Rest.first 6 _ (.bool false) rfl (fun w' aJ=>kr_) ?_;refine plan.Rest.first 7 _ (.bool false) rfl (fun w' aJ=>kr_) ?_;refine plan.Rest.first 8 _ (.int .i64 (k:Int)) rfl (fun w' aJ=>kr_) ?_;refine plan.Rest.first 9 _ (.bool false) rfl (fun w' aJ=>(iH (n:=(k:Int)) (m:=0) rfl NU)) ?_;refine plan.Rest.first 10 _ (.bool false) rfl (fun w' aJ=>kr_) ?_;refine plan.Rest.skip 11 _ rfl ?_;refine plan.Rest.skip 12 _ rfl ?_;refine plan.Rest.skip 13 _ rfl ?_;refine plan.Rest.skip 14 _ rfl ?_;refine plan.Rest.skip 15 _ rfl ?_;refine plan.Rest.skip 16 _ rfl ?_;refine plan.Rest.skip 17 _ rfl ?_;refine plan.Rest.skip 18 _ rfl ?_;refine plan.Rest.skip 19 _ rfl ?_;refine plan.Rest.skip 20 _ rfl ?_;refine plan.Rest.skip 21 _ rfl ?_;refine plan.Rest.skip 22 _ rfl ?_;refine plan.Rest.skip 23 _ rfl ?_;refine plan.Rest.skip 24 _ rfl ?_;refine plan.Rest.first 25 _ (.bool false) rfl (fun w' aJ=>kr_) ?_;refine plan.Rest.first 26 _ (.bool false) rfl (fun w' aJ=>kr_) ?_
      exact t49
    ·obtain⟨k,rfl⟩:∃j,k=j+1:=⟨k - 1,by omega⟩;clear GN;have qY:k<F.length:=by omega
     obtain⟨b',off',p0,hab,qX,G9,d0,_,_,_⟩:=jH HF.o HB.o qY;obtain⟨rfl,rfl⟩:b=b'/\off=off':=by cases hab;exact⟨rfl,rfl⟩
     clear hab;obtain⟨i0,q0,Xi,L0⟩:=p0;have IE:=hid (rise (x:=(i,L)) (dW G9) nK.o);simp only[Fm.p] at IE d0;have NU:Hid (decide (((k+1:Nat):Int)>0)=true):=hid (decide_eq_true om_);have HZ:=hid (fun w' (aJ:Below wr.heap.size wr w')=>(⟨by obtain⟨_,y1,_⟩:=HX.o w' (HB.o.trans (aJ.mono HB.o.size));exact y1,fE hR aJ jV,(aJ.cell (p:=⟨b,off+k*2,none⟩) jV).trans d0⟩:w'.cell? ⟨w.heap.size,1,none⟩=some (.slice (some ⟨b,off,none⟩) F.length cap)/\w'.rangeAt b (off+(k+1)*2) (zS i q L.length qc)/\w'.cell? ⟨b,off+k*2,none⟩=some (.int .i64 i0)));clear hp hR c0 c1 D8 G9 d0;by_cases hg:i0≥i
     ·have Oq:Hid (decide (i0≥i)=true):=hid (decide_eq_true hg);obtain rfl:false=r:=by rw[<-hr.o];exact(decide_eq_false (fun e=>oP.o (fun e2=>by have:=IE.o.1 e2.2;omega) (CP.o.1 e))).symm
      clear hg hf;go_wp2;have hb:Below wr.heap.size wr wr.drew:=bJ (Below.refl _ _)
      ·refine plan.region kr_ ?_;refine plan.Rest.first 0 _ (.pointer (some ⟨w.heap.size,1,none⟩)) rfl (fun w' aJ=>kr_) ?_;refine plan.Rest.first 1 _ (.slice (some ⟨b,off,none⟩) F.length cap) rfl (fun w' aJ=>aC (ad:=⟨w.heap.size,1,none⟩) rfl (HZ.o _ (hb.trans (aJ.mono hb.size))).1 isAgg22) ?_;refine plan.Rest.first 2 _ (.int .i64 ((k+1:Nat):Int)) rfl (fun w' aJ=>kr_) ?_;refine plan.Rest.first 3 _ (.pointer (some ⟨b,off+(k+1)*2,none⟩)) rfl (fun w' aJ=>(gW (b:=b) (off:=off) (len:=F.length) (cap:=cap) (i:=(k+1)) rfl bI)) ?_;refine plan.Rest.first 4 _ (zS i q L.length qc) rfl (fun w' aJ=>aj (b:=b) (off:=off+(k+1)*2) rfl (HZ.o _ (hb.trans (aJ.mono hb.size))).2.1 underlying40 rfl oI.o) ?_;refine plan.Rest.call 5 _ 37 #[zS i q L.length qc] rfl ((cf wr.drew hb).mono ?_);rintro e W1 ⟨rfl,hn⟩;have hb:=hb.trans (hn.mono hb.size);refine⟨_,rfl,hn, ?_⟩;refine plan.Rest.first 6 _ (.bool false) rfl (fun w' aJ=>kr_) ?_;refine plan.Rest.first 7 _ (.bool false) rfl (fun w' aJ=>kr_) ?_;refine plan.Rest.first 8 _ (.int .i64 ((k+1:Nat):Int)) rfl (fun w' aJ=>kr_) ?_;refine plan.Rest.first 9 _ (.bool true) rfl (fun w' aJ=>(iH (n:=((k+1:Nat):Int)) (m:=0) rfl NU)) ?_;refine plan.Rest.first 10 _ (.bool true) rfl (fun w' aJ=>kr_) ?_;refine plan.Rest.first 11 _ (.pointer (some ⟨w.heap.size,1,none⟩)) rfl (fun w' aJ=>kr_) ?_;refine plan.Rest.first 12 _ (.slice (some ⟨b,off,none⟩) F.length cap) rfl (fun w' aJ=>aC (ad:=⟨w.heap.size,1,none⟩) rfl (HZ.o _ (hb.trans (aJ.mono hb.size))).1 isAgg22) ?_;refine plan.Rest.first 13 _ (.int .i64 ((k+1:Nat):Int)) rfl (fun w' aJ=>kr_) ?_;refine plan.Rest.first 14 _ (.int .i64 (k:Int)) rfl (fun w' aJ=>(wK (k:=k) rfl om_)) ?_;refine plan.Rest.first 15 _ (.pointer (some ⟨b,off+k*2,none⟩)) rfl (fun w' aJ=>(gW (b:=b) (off:=off) (len:=F.length) (cap:=cap) (i:=k) rfl qY)) ?_;refine plan.Rest.first 16 _ (.pointer (some ⟨b,off+k*2,none⟩)) rfl (fun w' aJ=>kr_) ?_;refine plan.Rest.first 17 _ (.int .i64 i0) rfl (fun w' aJ=>ai (ad:=⟨b,off+k*2,none⟩) rfl kr_ (HZ.o _ (hb.trans (aJ.mono hb.size))).2.2 isAgg3) ?_;refine plan.Rest.first 18 _ (.pointer (some ⟨w.heap.size,1,none⟩)) rfl (fun w' aJ=>kr_) ?_;refine plan.Rest.first 19 _ (.slice (some ⟨b,off,none⟩) F.length cap) rfl (fun w' aJ=>aC (ad:=⟨w.heap.size,1,none⟩) rfl (HZ.o _ (hb.trans (aJ.mono hb.size))).1 isAgg22) ?_;refine plan.Rest.first 20 _ (.int .i64 ((k+1:Nat):Int)) rfl (fun w' aJ=>kr_) ?_;refine plan.Rest.first 21 _ (.pointer (some ⟨b,off+(k+1)*2,none⟩)) rfl (fun w' aJ=>(gW (b:=b) (off:=off) (len:=F.length) (cap:=cap) (i:=(k+1)) rfl bI)) ?_;refine plan.Rest.first 22 _ (.pointer (some ⟨b,off+(k+1)*2,none⟩)) rfl (fun w' aJ=>kr_) ?_;refine plan.Rest.first 23 _ (.int .i64 i) rfl (fun w' aJ=>ai (ad:=⟨b,off+(k+1)*2,none⟩) rfl kr_ ((HZ.o _ (hb.trans (aJ.mono hb.size))).2.1 0 _ rfl) isAgg3) ?_;refine plan.Rest.first 24 _ (.bool true) rfl (fun w' aJ=>(qw (n:=i0) (m:=i) rfl Oq)) ?_;refine plan.Rest.first 25 _ (.bool true) rfl (fun w' aJ=>kr_) ?_
       exact t127
     ·have Oq:Hid (decide (i0≥i)=false):=hid (decide_eq_false hg);have zW:Hid (iW ((forms F).take (k+1+1))):=hid (iM.o.2 ⟨nK.o,hf,IE.o.2 om_⟩);clear hg hf;go_wp2;have hb:Below wr.heap.size wr wr.drew:=bJ (Below.refl _ _)
      ·refine plan.region kr_ ?_;refine plan.Rest.first 0 _ (.pointer (some ⟨w.heap.size,1,none⟩)) rfl (fun w' aJ=>kr_) ?_;refine plan.Rest.first 1 _ (.slice (some ⟨b,off,none⟩) F.length cap) rfl (fun w' aJ=>aC (ad:=⟨w.heap.size,1,none⟩) rfl (HZ.o _ (hb.trans (aJ.mono hb.size))).1 isAgg22) ?_;refine plan.Rest.first 2 _ (.int .i64 ((k+1:Nat):Int)) rfl (fun w' aJ=>kr_) ?_;refine plan.Rest.first 3 _ (.pointer (some ⟨b,off+(k+1)*2,none⟩)) rfl (fun w' aJ=>(gW (b:=b) (off:=off) (len:=F.length) (cap:=cap) (i:=(k+1)) rfl bI)) ?_;refine plan.Rest.first 4 _ (zS i q L.length qc) rfl (fun w' aJ=>aj (b:=b) (off:=off+(k+1)*2) rfl (HZ.o _ (hb.trans (aJ.mono hb.size))).2.1 underlying40 rfl oI.o) ?_;refine plan.Rest.call 5 _ 37 #[zS i q L.length qc] rfl ((cf wr.drew hb).mono ?_);rintro e W1 ⟨rfl,hn⟩;have hb:=hb.trans (hn.mono hb.size);refine⟨_,rfl,hn, ?_⟩;refine plan.Rest.first 6 _ (.bool false) rfl (fun w' aJ=>kr_) ?_;refine plan.Rest.first 7 _ (.bool false) rfl (fun w' aJ=>kr_) ?_;refine plan.Rest.first 8 _ (.int .i64 ((k+1:Nat):Int)) rfl (fun w' aJ=>kr_) ?_;refine plan.Rest.first 9 _ (.bool true) rfl (fun w' aJ=>(iH (n:=((k+1:Nat):Int)) (m:=0) rfl NU)) ?_;refine plan.Rest.first 10 _ (.bool true) rfl (fun w' aJ=>kr_) ?_;refine plan.Rest.first 11 _ (.pointer (some ⟨w.heap.size,1,none⟩)) rfl (fun w' aJ=>kr_) ?_;refine plan.Rest.first 12 _ (.slice (some ⟨b,off,none⟩) F.length cap) rfl (fun w' aJ=>aC (ad:=⟨w.heap.size,1,none⟩) rfl (HZ.o _ (hb.trans (aJ.mono hb.size))).1 isAgg22) ?_;refine plan.Rest.first 13 _ (.int .i64 ((k+1:Nat):Int)) rfl (fun w' aJ=>kr_) ?_;refine plan.Rest.first 14 _ (.int .i64 (k:Int)) rfl (fun w' aJ=>(wK (k:=k) rfl om_)) ?_;refine plan.Rest.first 15 _ (.pointer (some ⟨b,off+k*2,none⟩)) rfl (fun w' aJ=>(gW (b:=b) (off:=off) (len:=F.length) (cap:=cap) (i:=k) rfl qY)) ?_;refine plan.Rest.first 16 _ (.pointer (some ⟨b,off+k*2,none⟩)) rfl (fun w' aJ=>kr_) ?_;refine plan.Rest.first 17 _ (.int .i64 i0) rfl (fun w' aJ=>ai (ad:=⟨b,off+k*2,none⟩) rfl kr_ (HZ.o _ (hb.trans (aJ.mono hb.size))).2.2 isAgg3) ?_;refine plan.Rest.first 18 _ (.pointer (some ⟨w.heap.size,1,none⟩)) rfl (fun w' aJ=>kr_) ?_;refine plan.Rest.first 19 _ (.slice (some ⟨b,off,none⟩) F.length cap) rfl (fun w' aJ=>aC (ad:=⟨w.heap.size,1,none⟩) rfl (HZ.o _ (hb.trans (aJ.mono hb.size))).1 isAgg22) ?_;refine plan.Rest.first 20 _ (.int .i64 ((k+1:Nat):Int)) rfl (fun w' aJ=>kr_) ?_;refine plan.Rest.first 21 _ (.pointer (some ⟨b,off+(k+1)*2,none⟩)) rfl (fun w' aJ=>(gW (b:=b) (off:=off) (len:=F.length) (cap:=cap) (i:=(k+1)) rfl bI)) ?_;refine plan.Rest.first 22 _ (.pointer (some ⟨b,off+(k+1)*2,none⟩)) rfl (fun w' aJ=>kr_) ?_;refine plan.Rest.first 23 _ (.int .i64 i) rfl (fun w' aJ=>ai (ad:=⟨b,off+(k+1)*2,none⟩) rfl kr_ ((HZ.o _ (hb.trans (aJ.mono hb.size))).2.1 0 _ rfl) isAgg3) ?_;refine plan.Rest.first 24 _ (.bool false) rfl (fun w' aJ=>(qw (n:=i0) (m:=i) rfl Oq)) ?_;refine plan.Rest.first 25 _ (.bool false) rfl (fun w' aJ=>kr_) ?_;refine plan.Rest.first 26 _ (.bool false) rfl (fun w' aJ=>kr_) ?_;refine plan.Rest.done ?_;walk_nrm;go_wp2;exact⟨⟨k+1+1,by omega,by go_num,zW,hid (HB.o.trans (hb.mono HB.o.size))⟩,by simp[intOf];omega⟩
   ·rw[decide_eq_false hf] at cf;obtain rfl:false=r:=by rw[<-hr.o];exact(decide_eq_false (fun e=>oP.o (fun e2=>hf e2.1) (CP.o.1 e))).symm
    have HZ:=hid (fun w' (aJ:Below wr.heap.size wr w')=>(⟨by obtain⟨_,y1,_⟩:=HX.o w' (HB.o.trans (aJ.mono HB.o.size));exact y1,fE hR aJ jV⟩:w'.cell? ⟨w.heap.size,1,none⟩=some (.slice (some ⟨b,off,none⟩) F.length cap)/\w'.rangeAt b (off+k*2) (zS i q L.length qc)));clear hp hR hf c0 c1 D8;go_wp2;have hb:Below wr.heap.size wr wr.drew:=bJ (Below.refl _ _)
    ·refine plan.region kr_ ?_;refine plan.Rest.first 0 _ (.pointer (some ⟨w.heap.size,1,none⟩)) rfl (fun w' aJ=>kr_) ?_;refine plan.Rest.first 1 _ (.slice (some ⟨b,off,none⟩) F.length cap) rfl (fun w' aJ=>aC (ad:=⟨w.heap.size,1,none⟩) rfl (HZ.o _ (hb.trans (aJ.mono hb.size))).1 isAgg22) ?_;refine plan.Rest.first 2 _ (.int .i64 (k:Int)) rfl (fun w' aJ=>kr_) ?_;refine plan.Rest.first 3 _ (.pointer (some ⟨b,off+k*2,none⟩)) rfl (fun w' aJ=>(gW (b:=b) (off:=off) (len:=F.length) (cap:=cap) (i:=k) rfl bI)) ?_;refine plan.Rest.first 4 _ (zS i q L.length qc) rfl (fun w' aJ=>aj (b:=b) (off:=off+k*2) rfl (HZ.o _ (hb.trans (aJ.mono hb.size))).2 underlying40 rfl oI.o) ?_;refine plan.Rest.call 5 _ 37 #[zS i q L.length qc] rfl ((cf wr.drew hb).mono ?_);rintro e W1 ⟨rfl,hn⟩;have hb:=hb.trans (hn.mono hb.size);refine⟨_,rfl,hn, ?_⟩;refine plan.Rest.first 6 _ (.bool true) rfl (fun w' aJ=>kr_) ?_;refine plan.Rest.first 7 _ (.bool true) rfl (fun w' aJ=>kr_) ?_;refine plan.Rest.skip 8 _ rfl ?_;refine plan.Rest.skip 9 _ rfl ?_;refine plan.Rest.skip 10 _ rfl ?_;refine plan.Rest.skip 11 _ rfl ?_;refine plan.Rest.skip 12 _ rfl ?_;refine plan.Rest.skip 13 _ rfl ?_;refine plan.Rest.skip 14 _ rfl ?_;refine plan.Rest.skip 15 _ rfl ?_;refine plan.Rest.skip 16 _ rfl ?_;refine plan.Rest.skip 17 _ rfl ?_;refine plan.Rest.skip 18 _ rfl ?_;refine plan.Rest.skip 19 _ rfl ?_;refine plan.Rest.skip 20 _ rfl ?_;refine plan.Rest.skip 21 _ rfl ?_;refine plan.Rest.skip 22 _ rfl ?_;refine plan.Rest.skip 23 _ rfl ?_;refine plan.Rest.skip 24 _ rfl ?_;refine plan.Rest.skip 25 _ rfl ?_
     exact t127
  ·obtain rfl:k=F.length:=by omega
   obtain rfl:true=r:=by rw[<-hr.o];have:=nK.o;rw[List.take_of_length_le (by rw[HL.o];exact Nat.le_refl _)] at this;exact(decide_eq_true (CP.o.2 this)).symm
   go_wp2;go_ret;exact⟨rfl,dP⟩
end ak
theorem t103{P:Prop}(h:P:=by
 exact⟨h1,h2,by simpa using h4,by simpa using h5,h3⟩):P:=h
namespace ak
open Go.RowKit
open field (Gives aI ay)
def WM2(i:Int)(a:Option Addr)(L:List field.Fd)(c:Nat)(j:Int)(b:Option Addr)(M:List field.Fd)(d:Nat)(w:World):World:=(w.alloc (.cells (zS i a L.length c) 40)).alloc (.cells (zS j b M.length d) 40)
theorem WM2.all(i:Int)(a:Option Addr)(L:List field.Fd)(c:Nat)(j:Int)(b:Option Addr)(M:List field.Fd)(d:Nat)(w w':World)(hb:Below (WM2 i a L c j b M d w).heap.size (WM2 i a L c j b M d w) w'):
  w'.cell? ⟨w.heap.size,0,none⟩=some (.int .i64 i)/\w'.cell? ⟨w.heap.size,1,none⟩=some (.slice a L.length c)/\w'.cell? ⟨w.heap.size+1,0,none⟩=some (.int .i64 j)/\w'.cell? ⟨w.heap.size+1,1,none⟩=some (.slice b M.length d)/\Below w.heap.size w w':=by
 obtain⟨h1,h2,h3⟩:=Ac i a L c w w' (aX hb);obtain⟨h4,h5,_⟩:=Ac j b M d (w.alloc (.cells (zS i a L.length c) 40)) w' hb
 exact t103
def WS2(i:Int)(a:Option Addr)(L:List Fm)(c:Nat)(j:Int)(b:Option Addr)(M:List Fm)(d:Nat)(w:World):World:=(w.alloc (.cells (zS i a L.length c) 24)).alloc (.cells (zS j b M.length d) 24)
theorem WS2.all(i:Int)(a:Option Addr)(L:List Fm)(c:Nat)(j:Int)(b:Option Addr)(M:List Fm)(d:Nat)(w w':World)(hb:Below (WS2 i a L c j b M d w).heap.size (WS2 i a L c j b M d w) w'):
  w'.cell? ⟨w.heap.size,0,none⟩=some (.int .i64 i)/\w'.cell? ⟨w.heap.size,1,none⟩=some (.slice a L.length c)/\w'.cell? ⟨w.heap.size+1,0,none⟩=some (.int .i64 j)/\w'.cell? ⟨w.heap.size+1,1,none⟩=some (.slice b M.length d)/\Below w.heap.size w w':=by
 obtain⟨h1,h2,h3⟩:=boxS i a L c w w' (aX hb);obtain⟨h4,h5,_⟩:=boxS j b M d (w.alloc (.cells (zS i a L.length c) 24)) w' hb
 exact t103
end ak
theorem t96{P:Prop}(h:P:=by
 go_enter func44,ntmps44;go_wp2;go_ret;exact⟨rfl,HW.o⟩):P:=h
theorem t95{P:Prop}(h:P:=by
 go_enter func21,ntmps21;go_wp2;go_ret;exact⟨rfl,HW.o⟩):P:=h
namespace ak
open Go.RowKit
open field (Gives aI ay)
theorem sU(i:Int)(a:Option Addr)(c:Nat)(L:List field.Fd)(j:Int)(b:Option Addr)(d:Nat)(M:List field.Fd)(w:World)(h:field.Fds w a L)(h':field.Fds w b M)(hL:L.length<=maxLen)(hM:M.length<=maxLen):
  Calls prog 44 #[zS i a L.length c,zS j b M.length d] w (Gives (.bool (decide ((i,L)=(j,M)))) w):=by
 have hml:(L.length:Int)<=9223372036854775807:=by unfold maxLen at hL;omega
 have hmm:(M.length:Int)<=9223372036854775807:=by unfold maxLen at hM;omega
 have HX:=hid (WM2.all i a L c j b M d w);have hw:=(WM2.all i a L c j b M d w _ (Below.refl _ _)).2.2.2.2;have HF:=hid (h.below hw);have HG:=hid (h'.below hw);have HW:=hid hw;obtain⟨r,hr⟩:∃r:Bool,Hid (decide ((i,L)=(j,M))=r):=⟨_,rfl⟩;rw[hr.o];unfold Gives;clear h h' hL hM hw;unfold WM2 at HX HF HG HW;by_cases hij:i=j
 ·subst hij;by_cases hlen:L.length=M.length
  ·have HLEN:=hid hlen;rw[<-hlen] at HX HF HG HW ⊢;clear hlen hmm;go_enter func44,ntmps44;go_wp2;generalize ((w.alloc (.cells (zS i a L.length c) 40))).alloc (.cells (zS i b L.length d) 40)=W0 at *;go_loopw [5] (fun n wr=>∃k:Nat,k<=L.length/\n=.int .i64 (k:Int)/\Hid (L.take k=M.take k)/\Hid (Below W0.heap.size W0 wr)) (fun n _=>L.length - (intOf n).toNat);case atStart=>exact⟨0,Nat.zero_le _,rfl,hid rfl,hid (Below.refl _ _)⟩
   case round=>
    obtain⟨k,hk,rfl,qU,HB⟩:=hrel;obtain⟨z0,z1,z2,z3,dP⟩:=HX.o _ HB.o;by_cases bI:k<L.length
    ·obtain⟨g,off,p,rfl,jV,hp,c0,c1,c2,c3,c4⟩:=eX HF.o HB.o bI;obtain⟨g',off',q,rfl,qX,hq,d0,d1,d2,d3,d4⟩:=eX HG.o HB.o (k:=k) (by rw[<-HLEN.o];exact bI);have i1:(k:Int)<L.length:=by omega
     have HS:=hid (eu hp hq);have dR:=fun W=>pV p q W
     have tN:=hid (fun(fQ:¬p=q)=>show ¬L=M from fun e=>by rw[e] at hp;exact fQ (Option.some.inj (hp.symm.trans hq)));clear hp hq;by_cases fQ:p=q
     ·exact t131
     ·rw[decide_eq_false fQ] at dR;obtain rfl:false=r:=by rw[<-hr.o];exact(decide_eq_false (fun e=>tN.o fQ (Prod.mk.inj e).2)).symm
      clear fQ;go_wp2;go_quiet (fail);go_wp2;go_ret;exact⟨rfl,below_drewN dP _⟩
    ·obtain rfl:k=L.length:=by omega
     obtain rfl:true=r:=by
      rw[<-hr.o];have:=qU.o;rw[List.take_of_length_le (Nat.le_refl _),List.take_of_length_le (by rw[HLEN.o];exact Nat.le_refl _)] at this;exact(decide_eq_true (by rw[this])).symm
     go_wp2;go_ret;exact⟨rfl,dP⟩
  ·obtain rfl:false=r:=by rw[<-hr.o];exact(decide_eq_false (fun e=>hlen (by rw[(Prod.mk.inj e).2]))).symm
   have hd:((L.length:Int) == (M.length:Int))=false:=by rw[beq_eq_false_iff_ne];omega
   clear hlen
   exact t96
 ·obtain rfl:false=r:=by rw[<-hr.o];exact(decide_eq_false (fun e=>hij (Prod.mk.inj e).1)).symm
  have hd:(i == j)=false:=by rw[beq_eq_false_iff_ne];exact hij
  clear hij
  exact t96
theorem iG(i:Int)(a:Option Addr)(c:Nat)(L:List Fm)(j:Int)(b:Option Addr)(d:Nat)(M:List Fm)(w:World)(h:FmL w a L)(h':FmL w b M)(hL:L.length<=maxLen)(hM:M.length<=maxLen):
  Calls prog 21 #[zS i a L.length c,zS j b M.length d] w (Gives (.bool (decide (i=j/\forms L=forms M))) w):=by
 have hml:(L.length:Int)<=9223372036854775807:=by unfold maxLen at hL;omega
 have hmm:(M.length:Int)<=9223372036854775807:=by unfold maxLen at hM;omega
 have HX:=hid (WS2.all i a L c j b M d w);have hw:=(WS2.all i a L c j b M d w _ (Below.refl _ _)).2.2.2.2;have HF:=hid (h.below hw);have HG:=hid (h'.below hw);have HW:=hid hw;obtain⟨r,hr⟩:∃r:Bool,Hid (decide (i=j/\forms L=forms M)=r):=⟨_,rfl⟩;rw[hr.o];unfold Gives;clear h h' hL hM hw;unfold WS2 at HX HF HG HW;by_cases hij:i=j
 ·subst hij;by_cases hlen:L.length=M.length
  ·have HLEN:=hid hlen;rw[<-hlen] at HX HF HG HW ⊢;clear hlen hmm;go_enter func21,ntmps21;go_wp2;generalize ((w.alloc (.cells (zS i a L.length c) 24))).alloc (.cells (zS i b L.length d) 24)=W0 at *;go_loopw [5] (fun n wr=>∃k:Nat,k<=L.length/\n=.int .i64 (k:Int)/\Hid ((forms L).take k=(forms M).take k)/\Hid (Below W0.heap.size W0 wr)) (fun n _=>L.length - (intOf n).toNat);case atStart=>exact⟨0,Nat.zero_le _,rfl,hid rfl,hid (Below.refl _ _)⟩
   case round=>
    obtain⟨k,hk,rfl,qU,HB⟩:=hrel;by_cases bI:k<L.length
    ·obtain⟨g,off,p,rfl,jV,hp,c0,c1,JO,Aq⟩:=jH HF.o (bJ HB.o) bI;obtain⟨g',off',q,rfl,qX,hq,d0,d1,JP,Ar⟩:=jH HG.o (bJ HB.o) (k:=k) (by rw[<-HLEN.o];exact bI);obtain⟨z0,z1,z2,z3,dP⟩:=HX.o _ (bJ HB.o);obtain⟨y0,y1,y2,y3,_⟩:=HX.o _ HB.o;have i1:(k:Int)<L.length:=by omega
     have HS:=hid (eu (dW hp) (dW hq));have tN:=hid (fun(fQ:¬p.p=q.p)=>show ¬forms L=forms M from fun e=>by have h1:=dW hp;rw[e] at h1;exact fQ (Option.some.inj (h1.symm.trans (dW hq))));obtain⟨i',x,xc,P⟩:=p;obtain⟨j',y,yc,R⟩:=q;simp only[Fm.p] at HS tN c0 c1 d0 d1 JO JP Aq Ar;have cS:=sU i' x xc P j' y yc R wr.drew JO JP Aq Ar;have HD:=hid (fun w' (hb:Below wr.drew.heap.size wr.drew w')=>(⟨(hb.cell (p:=⟨g,off+k*2,none⟩) jV).trans c0,(hb.cell (p:=⟨g,off+k*2+1,none⟩) jV).trans c1,(hb.cell (p:=⟨g',off'+k*2,none⟩) qX).trans d0,(hb.cell (p:=⟨g',off'+k*2+1,none⟩) qX).trans d1⟩:w'.cell? ⟨g,off+k*2,none⟩=some (.int .i64 i')/\w'.cell? ⟨g,off+k*2+1,none⟩=some (.slice x P.length xc)/\w'.cell? ⟨g',off'+k*2,none⟩=some (.int .i64 j')/\w'.cell? ⟨g',off'+k*2+1,none⟩=some (.slice y R.length yc)));clear hp hq JO JP Aq Ar;by_cases fQ:(i',P)=(j',R)
     ·rw[decide_eq_true fQ] at cS;have HPQ:=hid fQ;clear fQ;go_wp2;go_region_held3 (fun w'=>w'.cell? ⟨w.heap.size,1,none⟩=some (.slice (some ⟨g,off,none⟩) L.length c)/\w'.cell? ⟨w.heap.size+1,1,none⟩=some (.slice (some ⟨g',off',none⟩) L.length d)/\w'.cell? ⟨g,off+k*2,none⟩=some (.int .i64 i')/\w'.cell? ⟨g,off+k*2+1,none⟩=some (.slice x P.length xc)/\w'.cell? ⟨g',off'+k*2,none⟩=some (.int .i64 j')/\w'.cell? ⟨g',off'+k*2+1,none⟩=some (.slice y R.length yc)) (first | assumption | go_keep) (first
       | (go_at_call 44;(with_reducible refine cS.mono ?_);rintro e w3 ⟨rfl,fD⟩;obtain⟨e0,e1,e2,e3⟩:=HD.o w3 fD;have D7:=(bJ HB.o).trans (fD.mono (bJ HB.o).size);obtain⟨y0,y1,y2,y3,MP⟩:=HX.o w3 D7))
      go_wp2;exact⟨⟨k+1,by omega,by go_num,hid (HS.o.2 ⟨qU.o,HPQ.o⟩),hid D7⟩,by simp[intOf];omega⟩
     ·rw[decide_eq_false fQ] at cS;obtain rfl:false=r:=by rw[<-hr.o];exact(decide_eq_false (fun e=>tN.o fQ e.2)).symm
      clear fQ;go_wp2;go_region_held3 (fun w'=>w'.cell? ⟨w.heap.size,1,none⟩=some (.slice (some ⟨g,off,none⟩) L.length c)/\w'.cell? ⟨w.heap.size+1,1,none⟩=some (.slice (some ⟨g',off',none⟩) L.length d)/\w'.cell? ⟨g,off+k*2,none⟩=some (.int .i64 i')/\w'.cell? ⟨g,off+k*2+1,none⟩=some (.slice x P.length xc)/\w'.cell? ⟨g',off'+k*2,none⟩=some (.int .i64 j')/\w'.cell? ⟨g',off'+k*2+1,none⟩=some (.slice y R.length yc)) (first | assumption | go_keep) (first
       | (go_at_call 44;(with_reducible refine cS.mono ?_);rintro e w3 ⟨rfl,fD⟩;obtain⟨e0,e1,e2,e3⟩:=HD.o w3 fD;have D7:=(bJ HB.o).trans (fD.mono (bJ HB.o).size);obtain⟨y0,y1,y2,y3,MP⟩:=HX.o w3 D7))
      go_wp2;go_ret;exact⟨rfl,MP⟩
    ·obtain rfl:k=L.length:=by omega
     obtain⟨z0,z1,z2,z3,dP⟩:=HX.o _ HB.o;obtain rfl:true=r:=by
      rw[<-hr.o];have:=qU.o;rw[List.take_of_length_le (by rw[bg];exact Nat.le_refl _),List.take_of_length_le (by rw[bg,HLEN.o];exact Nat.le_refl _)] at this;exact(decide_eq_true (by first | exact⟨rfl,this⟩ | exact⟨trivial,this⟩)).symm
     go_wp2;go_ret;exact⟨rfl,dP⟩
  ·obtain rfl:false=r:=by rw[<-hr.o];exact(decide_eq_false (fun e=>hlen (by rw[<-bg,e.2,bg]))).symm
   have hd:((L.length:Int) == (M.length:Int))=false:=by rw[beq_eq_false_iff_ne];omega
   clear hlen
   exact t95
 ·obtain rfl:false=r:=by rw[<-hr.o];exact(decide_eq_false (fun e=>hij e.1)).symm
  have hd:(i == j)=false:=by rw[beq_eq_false_iff_ne];exact hij
  clear hij
  exact t95
end ak
end Go.Proofs.Ytogfefdlffmioaa
