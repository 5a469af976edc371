/- LinkBack returns true for every link and all bytes, and each argument reads afterwards as it read before. No condition. -/
import Derived.Test.YtogfefdlffmioaaCmWord
import Derived.Lib.AtoiErrMem
import Derived.Conc.WalkWords
import Derived.Test.YtogfefdlffmioaaCmA
import Derived.Test.YtogfefdlffmioaaCmAK
import Derived.Test.YtogfefdlffmioaaCmAU
import Derived.Test.YtogfefdlffmioaaCmAX
import Derived.Test.YtogfefdlffmioaaCmW
import Derived.Test.YtogfefdlffmioaaCmX
import Derived.Test.YtogfefdlffmioaaCmAV
import Derived.Test.YtogfefdlffmioaaCmF
import Derived.Test.YtogfefdlffmioaaCmN
set_option linter.unusedSimpArgs false
set_option linter.unusedVariables false
namespace Go.Proofs.Ytogfefdlffmioaa
open Go.Proofs.Try
namespace plan
open Go Go.RowKit
theorem KF{P:Program}{md:Region.Mode}{Q:Exit->Act->World->Prop}{l:List Oper}{S:World->Prop}{f:Nat}{listed:Array Bool}{a:Act}{w w1:World}(i:Nat)(o:Oper)(hi:l[i]?=some o)(hg:o.guard=none)(hd:o.dst=none)
  (hv:(execOp a.eval o).run P w=.ok .skip w1) (hS:S w1) (h:wpAnyH P md l.toArray (NoPanic Q) S f (listed.setIfInBounds i true) a w1) (hr:Region.ready md l.toArray listed=[i]:=by kernel_rfl):wpAnyH P md l.toArray (NoPanic Q) S (f+1) listed a w:=by
 refine wpAnyH_all hr si_ fun j hj=> ?_
 obtain rfl:j=i:=by simpa using hj
 have hi':l.toArray[j]?=some o:=by simpa using hi
 have hw:Region.wanted o (yielded l.toArray a.tmps)=true:=by unfold Region.wanted;rw[hg]
 unfold wpOp;have e:a.put o.dst undef=a:=by rw[hd];rfl
 simp only[hi',hw,if_true,Oper.wp,hv,Oper.upon];exact .inl ⟨hS,by rw[e];exact h⟩
end plan
namespace link
open Go.RowKit pen
open field (aI bytesOf iy gX)
open ak (gY di)
structure Rd (b l R:Nat) (w0:World) (s:Sight) (cs:List Value) (w:World):Prop where
 eye:bG 112 b s w
 row:Block w l 58 cs
 res:Block w R 58 [.slice none 0 0,.slice none 0 0,.slice none 0 0]
 o:Below w0.heap.size w0 w
 lo:w0.heap.size<=R
 lb:R<b
 hi:b<l
def Rw(l g:Nat)(xs:List Nat)(w:World):Prop:=l<g/\g<w.heap.size/\Reads .u8 w (some ⟨g,0,none⟩) xs.length xs
theorem Rw.below{l g B:Nat}{xs:List Nat}{w w':World}(h:Rw l g xs w)(hb:Below B w w')(hg:g<B):Rw l g xs w':=by
 obtain⟨h1,h2,h3⟩:=h;exact⟨h1,Nat.lt_of_lt_of_le h2 hb.size,h3.1,by
  rcases h3.2 with h | ⟨b',off',ha,bI,hc⟩
  ·exact .inl h
  ·refine .inr ⟨b',off',ha,Nat.lt_of_lt_of_le bI hb.size,fun i hi=> ?_⟩;cases ha
   rw[hb.cell (p:=⟨g,0+i,none⟩) hg];exact hc i hi⟩
theorem Rw.store{l g k o:Nat}{v:Value}{xs:List Nat}{w:World}(h:Rw l g xs w)(hk:g≠k):Rw l g xs (w.setCell ⟨k,o,none⟩ v):=by
 obtain⟨h1,h2,h3⟩:=h;exact⟨h1,by simpa using h2,h3.but ((But.refl w.heap.size k w).setCell o v) h2 hk⟩
theorem jK(w:World)(S:ByteArray):Below w.heap.size w (Lib.bytesWorld w 5 S):=Lib.bytesWorld_below _ _ _
theorem Rd.turn{b l R:Nat}{w0 w3 w4:World}{s s':Sight}{cs:List Value}(h:Rd b l R w0 s cs w3)(hE:bG 112 b s' w4)(hu:But w3.heap.size b w3 w4)(S:ByteArray)(i:Nat)(v:Value):
  Rd b l R w0 s' (cs.set i v) ((Lib.bytesWorld w4 5 S).setCell ⟨l,i,none⟩ v):=by
 have hb:=jK w4 S;have r1:=(h.row.but hu h.row.lt (by have:=h.hi;omega)).later hb;have r2:=(h.res.but hu h.res.lt (by have:=h.lb;omega)).later hb;have e1:=hE.later hb;have wP:w0.heap.size<=w3.heap.size:=h.o.size;have o4:Below w0.heap.size w0 w4:=h.o.trans (hu.below wP (by have:=h.lo;have:=h.lb;omega));refine⟨gY e1 h.hi ((But.refl _ l _).setCell i v),r1.setCell i v,r2.apart l i v (by have:=h.lb;have:=h.hi;omega), ?_,h.lo,h.lb,h.hi⟩;exact(o4.trans (hb.mono o4.size)).setCell (p:=⟨l,i,none⟩) (by have:=h.lo;have:=h.lb;have:=h.hi;show w0.heap.size<=l;omega) v
theorem Rw.turn{b l g:Nat}{w3 w4:World}{xs:List Nat}(h:Rw l g xs w3)(jV:b<l)(hu:But w3.heap.size b w3 w4)(S:ByteArray)(i:Nat)(v:Value):
  Rw l g xs ((Lib.bytesWorld w4 5 S).setCell ⟨l,i,none⟩ v):=by
 have h4:Rw l g xs w4:=⟨h.1,Nat.lt_of_lt_of_le h.2.1 hu.2.2.2.1,h.2.2.but hu h.2.1 (by have:=h.1;omega)⟩;exact(h4.below (jK w4 S) h4.2.1).store (by have:=h.1;omega)
theorem Rw.new{b l:Nat}{w4:World}{xs:List Nat}(hx:∀x∈xs,x<256)(hl:l<w4.heap.size)(i:Nat)(v:Value):
  Rw l w4.heap.size xs ((Lib.bytesWorld w4 5 (strOf xs)).setCell ⟨l,i,none⟩ v):=by
 have h0:Rw l w4.heap.size xs (Lib.bytesWorld w4 5 (strOf xs)):=by
  refine⟨hl,by rw[Lib.bytesWorld_size];omega,rfl,.inr ⟨_,_,rfl,by rw[Lib.bytesWorld_size];omega,fun i hi=> ?_⟩⟩;rw[Nat.zero_add,Lib.bytesWorld_cell _ _ _ _ (by rw[gX];exact hi)];have hb:nums (strOf xs).data.toList=xs:=iy hx;conv=>rhs;rw[<-hb]
  have hi2:i<(strOf xs).data.toList.length:=by rw[Array.length_toList];show i<(strOf xs).size;rw[gX];exact hi
  simp[nums,List.getD_eq_getElem?_getD,List.getElem?_eq_getElem hi2]
 exact h0.store om_
theorem zq{fn:Func}{p u v:Tmp}{ty:TypeId}{tmps:Array Value}{P:Program}{w:World}{b o:Nat}{cs:List Value}{d:TypeDesc}(h:fn.results=#[.tmp u,.cell p ty,.tmp v])
  (hp:tmps.getD p undef=.pointer (some ⟨b,o,none⟩)) (hc:w.rangeAt b o cs) (hu:P.underlying ty=some d) (hd:d.isRow=true) (hi:(P.info? ty).map (·.size)=some cs.length):
  (results fn tmps).run P w=.ok (.tuple #[tmps.getD u undef,.agg cs.toArray,tmps.getD v undef]) w:=by
 exact t43
theorem info3r:(prog.info? 58).map (·.size)=some 3:=by kernel_rfl
def xu(xs:List Nat)(w:World)(e:Ending)(w':World):Prop:=
 ∃a1 c1 a2 c2 a3 c3,e=.returned (.tuple #[.int .i64 ((rdN xs).1:Int),.agg #[.slice a1 (rdA xs).1.length c1,.slice a2 (rdB xs).1.length c2,.slice a3 (rdC xs).1.length c3],.int .i64 (gI (rdC xs).2:Int)])/\
  Reads .u8 w' a1 (rdA xs).1.length (rdA xs).1/\Reads .u8 w' a2 (rdB xs).1.length (rdB xs).1/\Reads .u8 w' a3 (rdC xs).1.length (rdC xs).1/\Below w.heap.size w w'
set_option maxRecDepth 20000 in
set_option maxHeartbeats 3200000 in
theorem FD(a:Option Addr)(c:Nat)(xs:List Nat)(w:World)(hr:Reads .u8 w a xs.length xs)(hx:∀c∈xs,c<256)(hl:xs.length<=140737488355328):
  Calls prog 28 #[.slice a xs.length c] w (xu xs w):=by
 obtain⟨W0,hW,bW,hsz,jU⟩:=fH w [(58,[.slice none 0 0,.slice none 0 0,.slice none 0 0])];simp only[boxes] at hW;have c0:=AX a c xs W0 (hr.below bW) hx hl;rw[<-hW.o] at c0;have c1:=fun b w' hE=>aS b (xs,0) w' hE 65535 om_ om_
 have cT:=fun b s w' hE=>nS b s w' hE 131072 om_ om_
 obtain⟨tA,tB,tC⟩:=FC hx;unfold xu;obtain⟨N,e0,hN⟩:∃N s,rdN xs=(N,s):=⟨_,_,rfl⟩;obtain⟨A,e1,hA⟩:∃N s,rdA xs=(N,s):=⟨_,_,rfl⟩;obtain⟨B,e2,hB⟩:∃N s,rdB xs=(N,s):=⟨_,_,rfl⟩;obtain⟨C,e3,hC⟩:∃N s,rdC xs=(N,s):=⟨_,_,rfl⟩;have kN:au 65535 (xs,0)=(N,e0):=hN;have kA:dw 131072 e0=(A,e1):=by have:dw 131072 (rdN xs).2=(A,e1):=hA;rw[hN] at this;exact this
 have kB:dw 131072 e1=(B,e2):=by have:dw 131072 (rdA xs).2=(B,e2):=hB;rw[hA] at this;exact this
 have kC:dw 131072 e2=(C,e3):=by have:dw 131072 (rdB xs).2=(C,e3):=hC;rw[hB] at this;exact this
 have nA:A.length<=131072:=by have:=lQ e0;rw[kA] at this;exact this
 have nB:B.length<=131072:=by have:=lQ e1;rw[kB] at this;exact this
 have nC:C.length<=131072:=by have:=lQ e2;rw[kC] at this;exact this
 rw[hA] at tA;rw[hB] at tB;rw[hC] at tC;rw[kN] at c1;simp only[hN,hA,hB,hC];have cA:=fun b w' hE=>cT b e0 w' hE
 have cB:=fun b w' hE=>cT b e1 w' hE
 have cC:=fun b w' hE=>cT b e2 w' hE
 rw[kA] at cA;rw[kB] at cB;rw[kC] at cC;simp only at c1 cA cB cC tA tB tC;unfold Saw at c1 cA cB cC;have hcv:Hid (∀(S:ByteArray) (w1:World),(convert 9 31 (.string S)).run prog w1=.ok (.slice (some ⟨w1.heap.size,0,none⟩) S.size (grownCap w1 S.size 0 5)) (Lib.bytesWorld w1 5 S)):=
  hid fun S w1=>Lib.run_convert_string_bytes w1 _ _ _ _ underlying9 underlying31 underlying5
 have oD:Hid (W0.heap.size=w.heap.size+1):=hid hsz.o;clear kN kA kB kC cT hN hA hB hC hr hx hl hsz bW;go_enter func28,ntmps28;go_wp2_with (first
  | (go_at_call 51;((with_reducible refine c0.mono ?_);clear c0;rintro en w1 ⟨b,rfl,D6,hE1,bQ⟩;rw[hW.o] at D6 bQ;obtain⟨⟨K1,_⟩,q1⟩:=jU.o _ bQ))
  | (go_at_call 52;((with_reducible refine(c1 b w1 hE1).mono ?_);clear c1;rintro en w2 ⟨rfl,hE2,hu2⟩;have K2:=K1.but hu2 K1.lt (by rw[oD.o] at D6;omega);have q2:=q1.trans (hu2.below q1.size (by rw[oD.o] at D6;omega)))))
 have fD:=aI w2 (.cells #[.slice none 0 0,.slice none 0 0,.slice none 0 0] 58);have hR0:Rd b w2.heap.size w.heap.size w e0 [.slice none 0 0,.slice none 0 0,.slice none 0 0] (w2.alloc (.cells #[.slice none 0 0,.slice none 0 0,.slice none 0 0] 58)):=
  ⟨hE2.later fD,Block.new w2 _ _,K2.later fD,q2.trans (fD.mono q2.size),Nat.le_refl _,by rw[oD.o] at D6;omega,hE2.lt⟩
 generalize w2.alloc (.cells #[.slice none 0 0,.slice none 0 0,.slice none 0 0] 58)=w3 at hR0 ⊢;have HR0:=hid hR0;clear hR0 fD hE1 bQ K1 q1 hE2 hu2 K2 q2 D6 jU hW oD;refine wp_loop_rounds 4 ?_;rw[rounds_succ];go_wp2_with (go_at_call 53;((with_reducible refine(cA b w3 HR0.o.eye).mono ?_);rintro en w4 ⟨rfl,KX,DZ⟩;have hc4:=hcv.o (strOf A) w4;have K4:=(HR0.o.row.but DZ HR0.o.row.lt (by have:=HR0.o.hi;omega)).later (jK w4 (strOf A));have y4:=K4.cell 0;have g4:=K4.frozen 0));have hR1:=HR0.o.turn KX DZ (strOf A) 0 (.slice (some ⟨w4.heap.size,0,none⟩) (strOf A).size (grownCap w4 (strOf A).size 0 5));have hN0:=Rw.new (b:=b) tA (Nat.lt_of_lt_of_le HR0.o.row.lt DZ.2.2.2.1) 0 (.slice (some ⟨w4.heap.size,0,none⟩) (strOf A).size (grownCap w4 (strOf A).size 0 5));obtain⟨d0,hd0⟩:∃d,Hid (grownCap w4 (strOf A).size 0 5=d):=⟨_,hid rfl⟩;rw[hd0.o] at hR1 hN0 ⊢;generalize (Lib.bytesWorld w4 5 (strOf A)).setCell ⟨w2.heap.size,0,none⟩ (.slice (some ⟨w4.heap.size,0,none⟩) (strOf A).size d0)=w5 at hR1 hN0 ⊢;obtain⟨p0,G9⟩:∃p,Hid (w4.heap.size=p):=⟨_,hid rfl⟩;rw[G9.o] at hR1 hN0 ⊢;simp only[List.set_cons_zero,List.set_cons_succ] at hR1;have HR1:=hid hR1;have RX:=hid hN0;clear hR1 hN0 KX DZ hc4 K4 y4 g4 HR0;rw[rounds_succ];go_wp2_with (go_at_call 53;((with_reducible refine(cB b w5 HR1.o.eye).mono ?_);rintro en w6 ⟨rfl,SC,Nc⟩;have hc6:=hcv.o (strOf B) w6;have K6:=(HR1.o.row.but Nc HR1.o.row.lt (by have:=HR1.o.hi;omega)).later (jK w6 (strOf B));have y6:=K6.cell 1;have g6:=K6.frozen 1));have hR2:=HR1.o.turn SC Nc (strOf B) 1 (.slice (some ⟨w6.heap.size,0,none⟩) (strOf B).size (grownCap w6 (strOf B).size 0 5));have hN1:=Rw.new (b:=b) tB (Nat.lt_of_lt_of_le HR1.o.row.lt Nc.2.2.2.1) 1 (.slice (some ⟨w6.heap.size,0,none⟩) (strOf B).size (grownCap w6 (strOf B).size 0 5));have Gt:=RX.o.turn HR1.o.hi Nc (strOf B) 1 (.slice (some ⟨w6.heap.size,0,none⟩) (strOf B).size (grownCap w6 (strOf B).size 0 5));obtain⟨d1,hd1⟩:∃d,Hid (grownCap w6 (strOf B).size 0 5=d):=⟨_,hid rfl⟩;rw[hd1.o] at hR2 hN1 Gt ⊢;generalize (Lib.bytesWorld w6 5 (strOf B)).setCell ⟨w2.heap.size,1,none⟩ (.slice (some ⟨w6.heap.size,0,none⟩) (strOf B).size d1)=w7 at hR2 hN1 Gt ⊢;obtain⟨p1,Au⟩:∃p,Hid (w6.heap.size=p):=⟨_,hid rfl⟩;rw[Au.o] at hR2 hN1 ⊢;simp only[List.set_cons_zero,List.set_cons_succ] at hR2;have HR2:=hid hR2;have NV:=hid hN1;have Lu:=hid Gt;clear hR2 hN1 Gt SC Nc hc6 K6 y6 g6 HR1 RX;rw[rounds_succ];go_wp2_with (go_at_call 53;((with_reducible refine(cC b w7 HR2.o.eye).mono ?_);rintro en w8 ⟨rfl,SE,L9⟩;have hc8:=hcv.o (strOf C) w8;have K8:=(HR2.o.row.but L9 HR2.o.row.lt (by have:=HR2.o.hi;omega)).later (jK w8 (strOf C));have y8:=K8.cell 2;have g8:=K8.frozen 2));have qi:=HR2.o.turn SE L9 (strOf C) 2 (.slice (some ⟨w8.heap.size,0,none⟩) (strOf C).size (grownCap w8 (strOf C).size 0 5));have MH:=Rw.new (b:=b) tC (Nat.lt_of_lt_of_le HR2.o.row.lt L9.2.2.2.1) 2 (.slice (some ⟨w8.heap.size,0,none⟩) (strOf C).size (grownCap w8 (strOf C).size 0 5));have Gu:=Lu.o.turn HR2.o.hi L9 (strOf C) 2 (.slice (some ⟨w8.heap.size,0,none⟩) (strOf C).size (grownCap w8 (strOf C).size 0 5));have Gv:=NV.o.turn HR2.o.hi L9 (strOf C) 2 (.slice (some ⟨w8.heap.size,0,none⟩) (strOf C).size (grownCap w8 (strOf C).size 0 5));obtain⟨d2,hd2⟩:∃d,Hid (grownCap w8 (strOf C).size 0 5=d):=⟨_,hid rfl⟩;rw[hd2.o] at qi MH Gu Gv ⊢;generalize (Lib.bytesWorld w8 5 (strOf C)).setCell ⟨w2.heap.size,2,none⟩ (.slice (some ⟨w8.heap.size,0,none⟩) (strOf C).size d2)=w9 at qi MH Gu Gv ⊢;obtain⟨p2,nM⟩:∃p,Hid (w8.heap.size=p):=⟨_,hid rfl⟩;rw[nM.o] at qi MH ⊢;simp only[List.set_cons_zero,List.set_cons_succ] at qi;have HR3:=hid qi;have IC:=hid MH;have Iz:=hid Gu;have IA:=hid Gv;clear qi MH Gu Gv SE L9 hc8 K8 y8 g8 HR2 Lu NV;rw[rounds_succ];go_wp2;have tN:Hid (w2.heap.size≠w.heap.size):=hid (by have:=HR3.o.lb;have:=HR3.o.hi;omega);refine plan.xY (S:=fun w'=>But w9.heap.size w.heap.size w9 w') ?_;have hS:But w9.heap.size w.heap.size w9 w9.drew:=(But.refl _ _ w9).drewN 1;have cE:=xB b e3 w9.drew (HR3.o.eye.later (below_drewN (Below.refl _ _) 1));refine plan.gm 0 _ (.int .i64 (N:Int)) rfl (fun w' qy=>kr_) hS ?_;refine plan.gm 1 _ (.agg #[.slice (some ⟨p0,0,none⟩) (strOf A).size d0,.slice (some ⟨p1,0,none⟩) (strOf B).size d1,.slice (some ⟨p2,0,none⟩) (strOf C).size d2]) rfl (fun w' qy=>ak.aj (b:=w2.heap.size) (off:=0) rfl (HR3.o.row.but qy HR3.o.row.lt tN.o).whole underlying58 rfl info3r) hS ?_;refine plan.gm 2 _ (.pointer (some ⟨b,0,none⟩)) rfl (fun w' qy=>kr_) hS ?_;refine plan.En 3 _ 54 #[.pointer (some ⟨b,0,none⟩)] rfl (cE.mono ?_);rintro en wd ⟨rfl,m,rfl⟩;have MJ:But w9.heap.size w.heap.size w9 (w9.drew.drewN m):=hS.drewN m;have SH:Block (w9.drew.drewN m) w.heap.size 58 [.slice none 0 0,.slice none 0 0,.slice none 0 0]:=HR3.o.res;refine⟨_,rfl,MJ, ?_⟩;refine plan.Nl 4 _ (.int .i64 (N:Int)) rfl rfl MJ ?_;refine plan.KF 5 _ rfl rfl rfl (plan.kH (cells:=#[.slice (some ⟨p0,0,none⟩) (strOf A).size d0,.slice (some ⟨p1,0,none⟩) (strOf B).size d1,.slice (some ⟨p2,0,none⟩) (strOf C).size d2]) rfl SH rfl info3r (by simp[Value.oneCell'])) (MJ.setCells 0 _) ?_;refine plan.Nl (w1:=(w9.drew.drewN m).setCells w.heap.size 0 [.slice (some ⟨p0,0,none⟩) (strOf A).size d0,.slice (some ⟨p1,0,none⟩) (strOf B).size d1,.slice (some ⟨p2,0,none⟩) (strOf C).size d2]) 6 _ (.int .i64 (gI e3:Int)) rfl rfl (MJ.setCells 0 _) ?_;refine plan.Es ?_;have hB:=SH.setCells (o:=0) (vs:=[.slice (some ⟨p0,0,none⟩) (strOf A).size d0,.slice (some ⟨p1,0,none⟩) (strOf B).size d1,.slice (some ⟨p2,0,none⟩) (strOf C).size d2]);rw[tJ _ _ (by rfl)] at hB;walk_nrm;have JM:=MJ.setCells 0 [.slice (some ⟨p0,0,none⟩) (strOf A).size d0,.slice (some ⟨p1,0,none⟩) (strOf B).size d1,.slice (some ⟨p2,0,none⟩) (strOf C).size d2];have X3:=HR3.o.lb;have hhi:=HR3.o.hi;have q0:=Iz.o.2.2.but JM Iz.o.2.1 (by have:=Iz.o.1;omega);have q1:=IA.o.2.2.but JM IA.o.2.1 (by have:=IA.o.1;omega);have q2:=IC.o.2.2.but JM IC.o.2.1 (by have:=IC.o.1;omega);have qo:Below w.heap.size w ((w9.drew.drewN m).setCells w.heap.size 0 [.slice (some ⟨p0,0,none⟩) (strOf A).size d0,.slice (some ⟨p1,0,none⟩) (strOf B).size d1,.slice (some ⟨p2,0,none⟩) (strOf C).size d2]):=
  below_setCells (below_drewN (below_drewN HR3.o.o 1) m) (Nat.le_refl _) 0 _
 simp only[gX] at hB q0 q1 q2 qo ⊢;go_wp2;exact bodyPost_ret (zq (b:=w.heap.size) (o:=0) rfl rfl hB.whole underlying58 rfl info3r) rfl ⟨_,_,_,_,_,_,rfl,q0,q1,q2,qo⟩
end link
theorem t121{P:Prop}(h:P:=by
 rw[rounds_succ];go_wp2;rw[rounds_succ]
 exact t12):P:=h
namespace link
open Go.RowKit pen
open field (aI)
open step (St Sp StL bV)
open ak (Fm FmL forms)
theorem Bc(g:Nat)(t:TypeId)(x y z:Nat)(w:World)(h:Block w g t [.int .i64 (x:Int),.int .i64 (y:Int),.int .i64 (z:Int)]):
  Calls prog 31 #[.slice (some ⟨g,0,none⟩) 3 3] w (field.Gives (.int .i64 (Fv x y z:Int)) w):=by
 have c0:=h.cell 0;have c1:=h.cell 1;have c2:=h.cell 2;unfold Fv field.Gives;clear h;by_cases hx:x=0
 ·have hx0:((x:Int) != 0)=false:=by simp[hx]
  rw[if_neg om_];clear hx;by_cases hy:y=0
  ·have hy0:((y:Int) != 0)=false:=by simp[hy]
   rw[if_neg om_];clear hy;by_cases hz:z=0
   ·have hz0:((z:Int) != 0)=false:=by simp[hz]
    rw[hz];have HZ:=hid hz;clear hz;go_enter func31,ntmps31;go_wp2;refine wp_loop_rounds 4 ?_;rw[rounds_succ];go_wp2;rw[rounds_succ];go_wp2
    exact t121
   ·have hz0:((z:Int) != 0)=true:=by simp[hz]
    clear hz;go_enter func31,ntmps31;go_wp2;refine wp_loop_rounds 3 ?_;rw[rounds_succ];go_wp2
    exact t121
  ·have hy0:((y:Int) != 0)=true:=by simp[hy]
   rw[if_pos hy];clear hy;go_enter func31,ntmps31;go_wp2;refine wp_loop_rounds 2 ?_
   exact t121
 ·have hx0:((x:Int) != 0)=true:=by simp[hx]
  rw[if_pos hx];clear hx;go_enter func31,ntmps31;go_wp2;refine wp_loop_rounds 1 ?_;rw[rounds_succ]
  exact t12
theorem BH{α β:Type}(x:α×β):∃a b,x=(a,b):=⟨_,_,rfl⟩
theorem FQ{α β γ:Type}(x:α×β×γ):∃a b c,x=(a,b,c):=⟨_,_,_,rfl⟩
theorem EY{w7 w8:World}{fa:Option Addr}{F:List Fm}{oa:Option Addr}{O:List St}{ba:Option Addr}{B:List St}{b1 b2 b3 S:Nat}{v0 v1 v2 v3 v4:Value}(uF:Upon b1 w7 (fun v=>FmL v fa F))(uO:Upon b2 w7 (fun v=>StL v oa O))(uB:Upon b3 w7 (fun v=>StL v ba B))(m:LkM w7 fa F oa O ba B)
  (h1:S<b1) (h2:S<b2) (h3:S<b3) (hb:Below w7.heap.size w7 w8):LkM (((((w8.setCell ⟨S,0,none⟩ v0).setCell ⟨S,1,none⟩ v1).setCell ⟨S,2,none⟩ v2).setCell ⟨S,3,none⟩ v3).setCell ⟨S,4,none⟩ v4) fa F oa O ba B:=
 ⟨((((((uF.after hb).past h1).past h1).past h1).past h1).past h1).now,((((((uO.after hb).past h2).past h2).past h2).past h2).past h2).now,((((((uB.after hb).past h3).past h3).past h3).past h3).past h3).now,m.lf,m.lo,m.lb⟩
def fG(xs:List Nat)(w:World)(e:Ending)(w':World):Prop:=
 ∃n v fa fc F oa oc O ba bc B E,e=.returned (.tuple #[.agg #[.int .i64 n,.int .i64 v,.slice fa F.length fc,.slice oa O.length oc,.slice ba B.length bc],.int .i64 ((E:Nat):Int)])/\parsed xs=((n,v,forms F,bV O,bV B),E)/\LkM w' fa F oa O ba B/\Below w.heap.size w w'
theorem tu(v0 v1 v2 v3 v4:Value):(prog.info? 27).map (·.size)=some [v0,v1,v2,v3,v4].length:=by kernel_rfl
set_option maxRecDepth 20000 in
set_option maxHeartbeats 3200000 in
theorem parse_any(a:Option Addr)(c:Nat)(xs:List Nat)(w:World)(hr:Reads .u8 w a xs.length xs)(hx:∀c∈xs,c<256)(hl:xs.length<=140737488355328):
  Calls prog 12 #[.slice a xs.length c] w (fG xs w):=by
 obtain⟨W0,hW,bW,hsz,jU⟩:=fH w [(27,[.int .i64 0,.int .i64 0,.slice none 0 0,.slice none 0 0,.slice none 0 0])];simp only[boxes] at hW;have c0:=FD a c xs W0 (hr.below bW) hx hl;rw[<-hW.o] at c0;obtain⟨tA,tB,tC⟩:=FC hx;have nA:(rdA xs).1.length<=131072:=lQ (rdN xs).2;have nB:(rdB xs).1.length<=131072:=lQ (rdA xs).2;have nC:(rdC xs).1.length<=131072:=lQ (rdB xs).2;obtain⟨V,P,E1,hP⟩:∃V P E,ak.parsed (rdA xs).1=(V,P,E):=FQ _;obtain⟨L,E2,hL⟩:∃P E,step.parsed (rdB xs).1=(P,E):=BH _;obtain⟨M,E3,hM⟩:∃P E,step.parsed (rdC xs).1=(P,E):=BH _;have NY:Hid (parsed xs=if gI (rdC xs).2≠0 then((0,0,[],[],[]),gI (rdC xs).2) else decoded (rdN xs).1 V P L M (Fv E1 E2 E3)):=hid (by unfold parsed;rw[hP,hL,hM]);have OB:Hid (ak.parsed (rdA xs).1=(V,P,E1)):=hid hP;have cS:=fun a' c' w' (hr:Reads .u8 w' a' (rdA xs).1.length (rdA xs).1)=>ak.oM (c:=c') hr tA (Nat.le_trans nA de_) (E1:Int) rfl hP
 have cO:=fun a' c' w' (hr:Reads .u8 w' a' (rdB xs).1.length (rdB xs).1)=>step.oM (c:=c') hr tB (Nat.le_trans nB de_) (E2:Int) rfl hL
 have cB:=fun a' c' w' (hr:Reads .u8 w' a' (rdC xs).1.length (rdC xs).1)=>step.oM (c:=c') hr tC (Nat.le_trans nC de_) (E3:Int) rfl hM
 unfold step.I8 at cO cB;have jg:=hid bW;have oD:Hid (W0.heap.size=w.heap.size+1):=hid hsz.o;unfold xu at c0;generalize (rdA xs).1=A at *;generalize (rdB xs).1=B at *;generalize (rdC xs).1=C at *;generalize (rdN xs).1=N at *;generalize gI (rdC xs).2=E0 at *;clear hr hx hl tA tB tC nA nB nC hP hL hM bW hsz;by_cases hE0:E0=0
 ·have h0:((E0:Int) != 0)=false:=by simp[hE0]
  have HP:=NY.o;rw[if_neg om_] at HP;unfold decoded at HP;clear hE0 NY;by_cases hO3:Fv E1 E2 E3=0
  ·rw[if_neg om_] at HP;have h3:((Fv E1 E2 E3:Int) != 0)=false:=by rw[hO3];rfl
   clear hO3;by_cases mJ:Right N V P L M
   ·rw[if_pos mJ] at HP;have HP:=hid HP;have DD:=decide_eq_true mJ;clear mJ;go_enter func12,ntmps12;go_wp2_with (first
   | (go_at_call 28;((with_reducible refine c0.mono ?_);clear c0;rintro e w1 ⟨a1,d1,a2,d2,a3,d3,rfl,q1,q2,q3,bQ⟩;rw[hW.o] at bQ;obtain⟨⟨K1,_⟩,o1⟩:=jU.o _ bQ;have N1:=aI w1 (.cells #[.slice a1 A.length d1,.slice a2 B.length d2,.slice a3 C.length d3] 58);have LB:=Block.new w1 58 [.slice a1 A.length d1,.slice a2 B.length d2,.slice a3 C.length d3];have J:=K1.later N1))
   | (go_at_call 29;((with_reducible refine(cS a1 d1 _ (q1.below N1)).mono ?_);clear cS;rintro e w2 ⟨aF,cF,F,rfl,hF,mF,aQ⟩;have n2:=aI w2 (.cells (zS V aF F.length cF) 24);have N2:=aQ.trans (n2.mono aQ.size);have I7:=LB.later N2;have y1:=I7.cell 1;have SB:=Block.new w2 24 (zS V aF F.length cF);have J2:=J.later N2))
   | (go_at_call 30;((with_reducible refine(cO a2 d2 _ ((q2.below N1).below N2)).mono ?_);clear cO;rintro e w3 ⟨aO,wG,O,rfl,hO,mO,lO,fD⟩;have LP:=I7.later fD;have y2:=LP.cell 2;have LQ:=SB.later fD;have J3:=J2.later fD))
   | (go_at_call 30;((with_reducible refine(cB a3 d3 _ (((q3.below N1).below N2).below fD)).mono ?_);clear cB;rintro e w4 ⟨aB,cB',D,rfl,hD,mD,lD,ku⟩;have I9:=LQ.later ku;have z0:=I9.cell 0;have z1:=I9.cell 1;have J4:=J3.later ku;have n4:=aI w4 (.cells #[.int .i64 N,.int .i64 V,.slice aF F.length cF,.slice aO O.length wG,.slice aB D.length cB'] 27);have n5:=aI (w4.alloc (.cells #[.int .i64 N,.int .i64 V,.slice aF F.length cF,.slice aO O.length wG,.slice aB D.length cB'] 27)) (.cells #[.int .i64 E1,.int .i64 E2,.int .i64 E3] 32);have BO:=Block.new (w4.alloc (.cells #[.int .i64 N,.int .i64 V,.slice aF F.length cF,.slice aO O.length wG,.slice aB D.length cB'] 27)) 32 [.int .i64 E1,.int .i64 E2,.int .i64 E3];rw[show(w4.alloc (.cells #[.int .i64 N,.int .i64 V,.slice aF F.length cF,.slice aO O.length wG,.slice aB D.length cB'] 27)).heap.size=w4.heap.size+1 by simp] at BO))
   | (go_at_call 31;go_loud ((with_reducible refine(Bc _ _ E1 E2 E3 _ BO).mono ?_);clear BO;rintro e w7 ⟨rfl,DY⟩;have N4:=n4.trans (n5.mono n4.size);have N7:=N4.trans (DY.mono N4.size);have J7:=J4.later N7;have sW:=((Block.new w4 27 [.int .i64 N,.int .i64 V,.slice aF F.length cF,.slice aO O.length wG,.slice aB D.length cB']).later n5).later DY;have uF:=(((mF.after n2).after fD).after ku).after N7;have uO:=(mO.after ku).after N7;have uD:=mD.after N7;have m7:LkM w7 aF F aO O aB D:=⟨uF.now,uO.now,uD.now,(by have e1:=ak.bg F;rw[hF] at e1;have e2:=ak.pW A;rw[OB.o] at e2;have e3:P.length<=8:=e2;unfold maxLen;omega),(by unfold maxLen;omega),(by unfold maxLen;omega)⟩;have o7:Below w.heap.size w w7:=o1.trans ((N1.trans ((N2.trans ((fD.trans ((ku.trans (N7.mono ku.size)).mono fD.size)).mono N2.size)).mono N1.size)).mono o1.size);have UQ:=sW.cell 0;have UL:=sW.frozen 0;have UR:=sW.cell 1;have UM:=sW.frozen 1;have UU:=sW.cell 2;have lp2:=sW.frozen 2;have UW:=sW.cell 3;have UN:=sW.frozen 3;have UX:=sW.cell 4;have UO:=sW.frozen 4))
   | (go_at_call 7;((with_reducible refine(dB N V aF cF F aO wG O aB cB' D w7 m7).mono ?_);rw[hF,hO,hD,DD];rintro e w8 ⟨rfl,zU⟩;have J8:=J7.later zU;have Ec:=sW.later zU;have m8:=m7.below zU;have o8:=o7.trans (zU.mono o7.size);have Qy:=J8.cell 0;have Qs:=J8.frozen 0;have Qz:=J8.cell 1;have Qu:=J8.frozen 1;have QA:=J8.cell 2;have Qv:=J8.frozen 2;have QB:=J8.cell 3;have Qw:=J8.frozen 3;have QC:=J8.cell 4;have Qx:=J8.frozen 4;have Xb:=Ec.cell 0;have X6:=Ec.frozen 0;have Xc:=Ec.cell 1;have X7:=Ec.frozen 1;have Xd:=Ec.cell 2;have X8:=Ec.frozen 2;have Xe:=Ec.cell 3;have X9:=Ec.frozen 3;have Xf:=Ec.cell 4;have Xa:=Ec.frozen 4)))
    have s1:w.heap.size<w1.heap.size:=by have:=bQ.size;have:=oD.o;omega
    have hB:=(((((J8.setCell 0 (.int .i64 N)).setCell 1 (.int .i64 V)).setCell 2 (.slice aF F.length cF)).setCell 3 (.slice aO O.length wG)).setCell 4 (.slice aB D.length cB'))
    exact bodyPost_ret (ak.gu (b:=w.heap.size) (o:=0) rfl rfl hB.whole underlying27 rfl (tu _ _ _ _ _)) rfl ⟨_,_,_,_,F,_,_,O,_,_,D,0,rfl,by rw[hF,hO,hD];exact HP.o,EY uF uO uD m7 (Nat.lt_of_lt_of_le s1 N1.size) (Nat.lt_of_lt_of_le s1 (Nat.le_trans N1.size N2.size)) (Nat.lt_of_lt_of_le s1 (Nat.le_trans N1.size (Nat.le_trans N2.size fD.size))) zU,(((((o8.setCell (p:=⟨w.heap.size,0,none⟩) (Nat.le_refl _) _).setCell (p:=⟨w.heap.size,1,none⟩) (Nat.le_refl _) _).setCell (p:=⟨w.heap.size,2,none⟩) (Nat.le_refl _) _).setCell (p:=⟨w.heap.size,3,none⟩) (Nat.le_refl _) _).setCell (p:=⟨w.heap.size,4,none⟩) (Nat.le_refl _) _)⟩
   ·rw[if_neg mJ] at HP;have HP:=hid HP;have DD:=decide_eq_false mJ;clear mJ;go_enter func12,ntmps12;go_wp2_with (first
   | (go_at_call 28;((with_reducible refine c0.mono ?_);clear c0;rintro e w1 ⟨a1,d1,a2,d2,a3,d3,rfl,q1,q2,q3,bQ⟩;rw[hW.o] at bQ;obtain⟨⟨K1,_⟩,o1⟩:=jU.o _ bQ;have N1:=aI w1 (.cells #[.slice a1 A.length d1,.slice a2 B.length d2,.slice a3 C.length d3] 58);have LB:=Block.new w1 58 [.slice a1 A.length d1,.slice a2 B.length d2,.slice a3 C.length d3];have J:=K1.later N1))
   | (go_at_call 29;((with_reducible refine(cS a1 d1 _ (q1.below N1)).mono ?_);clear cS;rintro e w2 ⟨aF,cF,F,rfl,hF,mF,aQ⟩;have n2:=aI w2 (.cells (zS V aF F.length cF) 24);have N2:=aQ.trans (n2.mono aQ.size);have I7:=LB.later N2;have y1:=I7.cell 1;have SB:=Block.new w2 24 (zS V aF F.length cF);have J2:=J.later N2))
   | (go_at_call 30;((with_reducible refine(cO a2 d2 _ ((q2.below N1).below N2)).mono ?_);clear cO;rintro e w3 ⟨aO,wG,O,rfl,hO,mO,lO,fD⟩;have LP:=I7.later fD;have y2:=LP.cell 2;have LQ:=SB.later fD;have J3:=J2.later fD))
   | (go_at_call 30;((with_reducible refine(cB a3 d3 _ (((q3.below N1).below N2).below fD)).mono ?_);clear cB;rintro e w4 ⟨aB,cB',D,rfl,hD,mD,lD,ku⟩;have I9:=LQ.later ku;have z0:=I9.cell 0;have z1:=I9.cell 1;have J4:=J3.later ku;have n4:=aI w4 (.cells #[.int .i64 N,.int .i64 V,.slice aF F.length cF,.slice aO O.length wG,.slice aB D.length cB'] 27);have n5:=aI (w4.alloc (.cells #[.int .i64 N,.int .i64 V,.slice aF F.length cF,.slice aO O.length wG,.slice aB D.length cB'] 27)) (.cells #[.int .i64 E1,.int .i64 E2,.int .i64 E3] 32);have BO:=Block.new (w4.alloc (.cells #[.int .i64 N,.int .i64 V,.slice aF F.length cF,.slice aO O.length wG,.slice aB D.length cB'] 27)) 32 [.int .i64 E1,.int .i64 E2,.int .i64 E3];rw[show(w4.alloc (.cells #[.int .i64 N,.int .i64 V,.slice aF F.length cF,.slice aO O.length wG,.slice aB D.length cB'] 27)).heap.size=w4.heap.size+1 by simp] at BO))
   | (go_at_call 31;go_loud ((with_reducible refine(Bc _ _ E1 E2 E3 _ BO).mono ?_);clear BO;rintro e w7 ⟨rfl,DY⟩;have N4:=n4.trans (n5.mono n4.size);have N7:=N4.trans (DY.mono N4.size);have J7:=J4.later N7;have sW:=((Block.new w4 27 [.int .i64 N,.int .i64 V,.slice aF F.length cF,.slice aO O.length wG,.slice aB D.length cB']).later n5).later DY;have uF:=(((mF.after n2).after fD).after ku).after N7;have uO:=(mO.after ku).after N7;have uD:=mD.after N7;have m7:LkM w7 aF F aO O aB D:=⟨uF.now,uO.now,uD.now,(by have e1:=ak.bg F;rw[hF] at e1;have e2:=ak.pW A;rw[OB.o] at e2;have e3:P.length<=8:=e2;unfold maxLen;omega),(by unfold maxLen;omega),(by unfold maxLen;omega)⟩;have o7:Below w.heap.size w w7:=o1.trans ((N1.trans ((N2.trans ((fD.trans ((ku.trans (N7.mono ku.size)).mono fD.size)).mono N2.size)).mono N1.size)).mono o1.size);have UQ:=sW.cell 0;have UL:=sW.frozen 0;have UR:=sW.cell 1;have UM:=sW.frozen 1;have UU:=sW.cell 2;have lp2:=sW.frozen 2;have UW:=sW.cell 3;have UN:=sW.frozen 3;have UX:=sW.cell 4;have UO:=sW.frozen 4))
   | (go_at_call 7;((with_reducible refine(dB N V aF cF F aO wG O aB cB' D w7 m7).mono ?_);rw[hF,hO,hD,DD];rintro e w8 ⟨rfl,zU⟩;have J8:=J7.later zU;have Ec:=sW.later zU;have m8:=m7.below zU;have o8:=o7.trans (zU.mono o7.size);have Qy:=J8.cell 0;have Qs:=J8.frozen 0;have Qz:=J8.cell 1;have Qu:=J8.frozen 1;have QA:=J8.cell 2;have Qv:=J8.frozen 2;have QB:=J8.cell 3;have Qw:=J8.frozen 3;have QC:=J8.cell 4;have Qx:=J8.frozen 4)))
    have hB:=(((((J8.setCell 0 (.int .i64 0)).setCell 1 (.int .i64 0)).setCell 2 (.slice none 0 0)).setCell 3 (.slice none 0 0)).setCell 4 (.slice none 0 0))
    exact bodyPost_ret (ak.gu (b:=w.heap.size) (o:=0) rfl rfl hB.whole underlying27 rfl (tu _ _ _ _ _)) rfl ⟨0,0,none,0,[],none,0,[],none,0,[],_,rfl,HP.o,.nil _,(((((o8.setCell (p:=⟨w.heap.size,0,none⟩) (Nat.le_refl _) _).setCell (p:=⟨w.heap.size,1,none⟩) (Nat.le_refl _) _).setCell (p:=⟨w.heap.size,2,none⟩) (Nat.le_refl _) _).setCell (p:=⟨w.heap.size,3,none⟩) (Nat.le_refl _) _).setCell (p:=⟨w.heap.size,4,none⟩) (Nat.le_refl _) _)⟩
  ·rw[if_pos hO3] at HP;have HP:=hid HP;have h3:((Fv E1 E2 E3:Int) != 0)=true:=by simp[hO3]
   clear hO3;go_enter func12,ntmps12;go_wp2_with (first
   | (go_at_call 28;((with_reducible refine c0.mono ?_);clear c0;rintro e w1 ⟨a1,d1,a2,d2,a3,d3,rfl,q1,q2,q3,bQ⟩;rw[hW.o] at bQ;obtain⟨⟨K1,_⟩,o1⟩:=jU.o _ bQ;have N1:=aI w1 (.cells #[.slice a1 A.length d1,.slice a2 B.length d2,.slice a3 C.length d3] 58);have LB:=Block.new w1 58 [.slice a1 A.length d1,.slice a2 B.length d2,.slice a3 C.length d3];have J:=K1.later N1))
   | (go_at_call 29;((with_reducible refine(cS a1 d1 _ (q1.below N1)).mono ?_);clear cS;rintro e w2 ⟨aF,cF,F,rfl,hF,mF,aQ⟩;have n2:=aI w2 (.cells (zS V aF F.length cF) 24);have N2:=aQ.trans (n2.mono aQ.size);have I7:=LB.later N2;have y1:=I7.cell 1;have SB:=Block.new w2 24 (zS V aF F.length cF);have J2:=J.later N2))
   | (go_at_call 30;((with_reducible refine(cO a2 d2 _ ((q2.below N1).below N2)).mono ?_);clear cO;rintro e w3 ⟨aO,wG,O,rfl,hO,mO,lO,fD⟩;have LP:=I7.later fD;have y2:=LP.cell 2;have LQ:=SB.later fD;have J3:=J2.later fD))
   | (go_at_call 30;((with_reducible refine(cB a3 d3 _ (((q3.below N1).below N2).below fD)).mono ?_);clear cB;rintro e w4 ⟨aB,cB',D,rfl,hD,mD,lD,ku⟩;have I9:=LQ.later ku;have z0:=I9.cell 0;have z1:=I9.cell 1;have J4:=J3.later ku;have n4:=aI w4 (.cells #[.int .i64 N,.int .i64 V,.slice aF F.length cF,.slice aO O.length wG,.slice aB D.length cB'] 27);have n5:=aI (w4.alloc (.cells #[.int .i64 N,.int .i64 V,.slice aF F.length cF,.slice aO O.length wG,.slice aB D.length cB'] 27)) (.cells #[.int .i64 E1,.int .i64 E2,.int .i64 E3] 32);have BO:=Block.new (w4.alloc (.cells #[.int .i64 N,.int .i64 V,.slice aF F.length cF,.slice aO O.length wG,.slice aB D.length cB'] 27)) 32 [.int .i64 E1,.int .i64 E2,.int .i64 E3];rw[show(w4.alloc (.cells #[.int .i64 N,.int .i64 V,.slice aF F.length cF,.slice aO O.length wG,.slice aB D.length cB'] 27)).heap.size=w4.heap.size+1 by simp] at BO))
   | (go_at_call 31;go_loud ((with_reducible refine(Bc _ _ E1 E2 E3 _ BO).mono ?_);clear BO;rintro e w7 ⟨rfl,DY⟩;have N4:=n4.trans (n5.mono n4.size);have N7:=N4.trans (DY.mono N4.size);have J7:=J4.later N7;have sW:=((Block.new w4 27 [.int .i64 N,.int .i64 V,.slice aF F.length cF,.slice aO O.length wG,.slice aB D.length cB']).later n5).later DY;have uF:=(((mF.after n2).after fD).after ku).after N7;have uO:=(mO.after ku).after N7;have uD:=mD.after N7;have m7:LkM w7 aF F aO O aB D:=⟨uF.now,uO.now,uD.now,(by have e1:=ak.bg F;rw[hF] at e1;have e2:=ak.pW A;rw[OB.o] at e2;have e3:P.length<=8:=e2;unfold maxLen;omega),(by unfold maxLen;omega),(by unfold maxLen;omega)⟩;have o7:Below w.heap.size w w7:=o1.trans ((N1.trans ((N2.trans ((fD.trans ((ku.trans (N7.mono ku.size)).mono fD.size)).mono N2.size)).mono N1.size)).mono o1.size);have Qy:=J7.cell 0;have Qs:=J7.frozen 0;have Qz:=J7.cell 1;have Qu:=J7.frozen 1;have QA:=J7.cell 2;have Qv:=J7.frozen 2;have QB:=J7.cell 3;have Qw:=J7.frozen 3;have QC:=J7.cell 4;have Qx:=J7.frozen 4)))
   have hB:=(((((J7.setCell 0 (.int .i64 0)).setCell 1 (.int .i64 0)).setCell 2 (.slice none 0 0)).setCell 3 (.slice none 0 0)).setCell 4 (.slice none 0 0));exact bodyPost_ret (ak.gu (b:=w.heap.size) (o:=0) rfl rfl hB.whole underlying27 rfl (tu _ _ _ _ _)) rfl ⟨0,0,none,0,[],none,0,[],none,0,[],_,rfl,HP.o,.nil _,(((((o7.setCell (p:=⟨w.heap.size,0,none⟩) (Nat.le_refl _) _).setCell (p:=⟨w.heap.size,1,none⟩) (Nat.le_refl _) _).setCell (p:=⟨w.heap.size,2,none⟩) (Nat.le_refl _) _).setCell (p:=⟨w.heap.size,3,none⟩) (Nat.le_refl _) _).setCell (p:=⟨w.heap.size,4,none⟩) (Nat.le_refl _) _)⟩
 ·have h0:((E0:Int) != 0)=true:=by simp[hE0]
  have HP:=NY.o;rw[if_pos hE0] at HP;have HP:=hid HP;clear hE0 NY cS cO cB;go_enter func12,ntmps12;go_wp2_with (first
   | (go_at_call 28;((with_reducible refine c0.mono ?_);clear c0;rintro e w1 ⟨a1,d1,a2,d2,a3,d3,rfl,q1,q2,q3,bQ⟩;rw[hW.o] at bQ;obtain⟨⟨K1,_⟩,o1⟩:=jU.o _ bQ;have N1:=aI w1 (.cells #[.slice a1 A.length d1,.slice a2 B.length d2,.slice a3 C.length d3] 58);have LB:=Block.new w1 58 [.slice a1 A.length d1,.slice a2 B.length d2,.slice a3 C.length d3];have J:=K1.later N1;have Qy:=J.cell 0;have Qs:=J.frozen 0;have Qz:=J.cell 1;have Qu:=J.frozen 1;have QA:=J.cell 2;have Qv:=J.frozen 2;have QB:=J.cell 3;have Qw:=J.frozen 3;have QC:=J.cell 4;have Qx:=J.frozen 4)))
  have hB:=(((((J.setCell 0 (.int .i64 0)).setCell 1 (.int .i64 0)).setCell 2 (.slice none 0 0)).setCell 3 (.slice none 0 0)).setCell 4 (.slice none 0 0));exact bodyPost_ret (ak.gu (b:=w.heap.size) (o:=0) rfl rfl hB.whole underlying27 rfl (tu _ _ _ _ _)) rfl ⟨0,0,none,0,[],none,0,[],none,0,[],_,rfl,HP.o,.nil _,((((((o1.trans (N1.mono o1.size)).setCell (p:=⟨w.heap.size,0,none⟩) (Nat.le_refl _) _).setCell (p:=⟨w.heap.size,1,none⟩) (Nat.le_refl _) _).setCell (p:=⟨w.heap.size,2,none⟩) (Nat.le_refl _) _).setCell (p:=⟨w.heap.size,3,none⟩) (Nat.le_refl _) _).setCell (p:=⟨w.heap.size,4,none⟩) (Nat.le_refl _) _)⟩
end link
theorem t51{P:Prop}(h:P:=by
 go_ret;exact⟨rfl,q1.trans (yx.mono q1.size)⟩):P:=h
namespace linkBack
open Go.RowKit pen link
open field (aI)
open ak (Fm forms)
open step (St Sp bV)
theorem Hg{xs:List Nat}{n v n' v':Int}{F F':List ak.Form}{O B O' B':List Sp}{E E':Nat}(h:parsed xs=((n,v,F,O,B),E))(h':parsed xs=((n',v',F',O',B'),E')):Same n v F O B n' v' F' O' B':=by
 rw[h] at h';simp only[Prod.mk.injEq] at h';exact⟨h'.1.1,⟨h'.1.2.1,h'.1.2.2.1⟩,h'.1.2.2.2.1,h'.1.2.2.2.2⟩
theorem Ey{xs:List Nat}{p p':Int×Int×List ak.Form×List Sp×List Sp}{E E':Nat}(h:parsed xs=(p,E))(h':parsed xs=(p',E')):E=E':=by
 rw[h] at h';exact(Prod.mk.inj h').2
theorem EX(n v:Int)(F:List ak.Form)(O B:List Sp):∀c∈jk n v F O B,c<256:=by
 have ht:∀l:List Nat,(∀c∈l,c<256)->∀c∈iq l,c<256:=fun l hl c hc=>by
  unfold iq at hc;rcases List.mem_append.1 hc with h | h
  ·exact iw _ c h
  ·exact hl c h
 intro c hc;unfold jk at hc;simp only[List.mem_append] at hc;rcases hc with ((h | h) | h) | h
 ·exact iw _ c h
 ·exact ht _ (ak.pX v F) c h
 ·exact ht _ (step.nY O) c h
 ·exact ht _ (step.nY B) c h
theorem Dl{n v:Int}{F:List ak.Form}{O B:List Sp}(h:Right n v F O B):(jk n v F O B).length<=300000:=by
 have l1:=mQ h.2.1;have l2:=jC h.2.2.2.1;have l3:=jC h.2.2.2.2;have v0:=aT n.toNat (by have:=h.1;omega);have v1:=aT (ak.dU v F).length om_;have v2:=aT (step.dZ O).length om_;have v3:=aT (step.dZ B).length om_;unfold jk iq;simp only[List.length_append];omega
set_option maxRecDepth 20000 in
set_option maxHeartbeats 3200000 in
theorem FV(n v:Int)(fa:Option Addr)(fc:Nat)(F:List Fm)(oa:Option Addr)(oc:Nat)(O:List St)(ba:Option Addr)(bc:Nat)(B:List St)(a:Option Addr)(cap:Nat)(xs:List Nat)(w:World)(h:LkM w fa F oa O ba B)(hr:Reads .u8 w a xs.length xs)(hx:∀x∈xs,x<256)(hc:xs.length<=cap)(hm:cap<=140737488351232):
  Calls prog 4 #[.agg #[.int .i64 n,.int .i64 v,.slice fa F.length fc,.slice oa O.length oc,.slice ba B.length bc],.slice a xs.length cap] w (Yes w):=by
 obtain⟨W0,hW,bW,hsz,jU⟩:=fH w [(27,[.int .i64 n,.int .i64 v,.slice fa F.length fc,.slice oa O.length oc,.slice ba B.length bc])];simp only[boxes] at hW;have cG:=jY n v fa fc F oa oc O ba bc B W0 (h.below bW);rw[<-hW.o] at cG;have cA:∀w',Calls prog 6 #[] w' (field.Gives (.bool true) w'):=fun w'=>wE w'
 have cB:=fun w' (hb:Below w.heap.size w w')=>parse_any a cap xs w' (hr.below hb) hx om_
 have HL:=hid h;have O0:=hid hr;have HX:=hid hx;obtain⟨PP,PE,hP⟩:=BH (parsed xs);have HP:Hid (∀p E,parsed xs=(p,E)->E=PE):=hid fun _ _ h=>Ey h hP
 unfold field.Gives at cA;unfold fG at cB;unfold Yes;by_cases mJ:Right n v (forms F) (bV O) (bV B)
 ·have cP:=fun w' (hb:Below w.heap.size w w')=>je n v fa fc F oa oc O ba bc B w' (h.below hb) mJ
  have Si:Hid (∀n' v' F' O' B' E',parsed (jk n v (forms F) (bV O) (bV B))=((n',v',F',O',B'),E')->E'=0/\Same n v (forms F) (bV O) (bV B) n' v' F' O' B'):=hid fun _ _ _ _ _ _ h=>⟨Ey h (jc mJ),Hg (jc mJ) h⟩
  have bI:=EX n v (forms F) (bV O) (bV B);have hlen:=Dl mJ;generalize jk n v (forms F) (bV O) (bV B)=Y at *;have cY:=fun w' ya yc (hY:Reads .u8 w' ya Y.length Y)=>parse_any ya yc Y w' hY bI (Nat.le_trans hlen de_)
  unfold pen.Gives at cP;unfold fG at cY;clear h hr hx mJ hc hm hP bI hlen;by_cases hPE:PE=0
  ·subst hPE;go_enter func4,ntmps4;go_wp2_with (first
   | (go_at_call 5;((with_reducible refine cG.mono ?_);clear cG;rintro e w1 ⟨r,rfl,bQ⟩;rw[hW.o] at bQ;obtain⟨⟨K1,_⟩,q1⟩:=jU.o _ bQ;have Ir:=K1.cell 0;have NR:=K1.cell 1;have NS:=K1.cell 2;have y13:=K1.cell 3;have Hy:=K1.cell 4))
   | (go_at_call 11;((with_reducible refine(cP _ q1).mono ?_);clear cP;rintro e w2 ⟨u2,rfl,ho2,aQ⟩;obtain⟨a2,c2,rfl,_⟩:=aP ho2;have Ko:=hid (Reads.own (xs:=Y) ho2);clear ho2;have K2:=K1.later aQ;have q2:=q1.trans (aQ.mono q1.size)))
   | (go_at_call 12;((with_reducible refine(cY _ _ _ Ko.o).mono ?_);clear cY;rintro e w3 ⟨n3,v3,f3,e3,F3,o3,p3,O3,b3,s3,B3,E3,rfl,P3,M3,fD⟩;obtain⟨he,hs⟩:=Si.o _ _ _ _ _ _ P3;replace hs:=hid hs;subst he;clear P3;have q3:=q2.trans (fD.mono q2.size);have N3:=aI w3 (.cells #[.int .i64 n3,.int .i64 v3,.slice f3 F3.length e3,.slice o3 O3.length p3,.slice b3 B3.length s3] 27);have K3:=(K2.later fD).later N3;have Tt:=K3.cell 0;have y31:=K3.cell 1;have y32:=K3.cell 2;have NT:=K3.cell 3;have y34:=K3.cell 4;have r3:=q3.trans (N3.mono q3.size)))
   | (go_at_call 10;((with_reducible refine(iG n v fa fc F oa oc O ba bc B n3 v3 f3 e3 F3 o3 p3 O3 b3 s3 B3 _ (HL.o.below r3) (M3.below N3)).mono ?_);rw[decide_eq_true hs.o];rintro e w4 ⟨rfl,ku⟩;have q4:=r3.trans (ku.mono r3.size)))
   | (go_at_call 12;((with_reducible refine(cB _ q4).mono ?_);clear cB;rintro e w5 ⟨n5,v5,f5,e5,F5,o5,p5,O5,b5,s5,B5,E5,rfl,P5,M5,jq⟩;have he:=HP.o _ _ P5;subst he;have q5:=q4.trans (jq.mono q4.size);have N5:=aI w5 (.cells #[.int .i64 n5,.int .i64 v5,.slice f5 F5.length e5,.slice o5 O5.length p5,.slice b5 B5.length s5] 27);have r5:=q5.trans (N5.mono q5.size);obtain⟨Aw,Az⟩:=jb HX.o P5;replace Aw:=hid Aw;replace Az:=hid Az;clear P5))
   | (go_at_call 11;((with_reducible refine(je n5 v5 f5 e5 F5 o5 p5 O5 b5 s5 B5 _ (M5.below N5) Aw.o).mono ?_);rw[Az.o];rintro e w6 ⟨u6,rfl,JY,pU⟩;obtain⟨a6,c6,rfl,_⟩:=aP JY;have q6:=r5.trans (pU.mono r5.size);have PV:=Reads.str (P:=prog) (Reads.own (xs:=xs) JY) 31 5 underlying31 underlying5 c6 9 underlying9;have PW:=Reads.str (P:=prog) (O0.o.below q6) 31 5 underlying31 underlying5 cap 9 underlying9;clear JY))
   | (go_at_call 6;((with_reducible refine(cA _).mono ?_);rintro e w9 ⟨rfl,yx⟩)))
   ·exact t51
   ·go_ret;exact⟨rfl,q6.trans (yx.mono q6.size)⟩
  ·have dR:((PE:Int) == 0)=false:=by rw[beq_eq_false_iff_ne];omega
   clear hPE;go_enter func4,ntmps4;go_wp2_with (first
   | (go_at_call 5;((with_reducible refine cG.mono ?_);clear cG;rintro e w1 ⟨r,rfl,bQ⟩;rw[hW.o] at bQ;obtain⟨⟨K1,_⟩,q1⟩:=jU.o _ bQ;have Ir:=K1.cell 0;have NR:=K1.cell 1;have NS:=K1.cell 2;have y13:=K1.cell 3;have Hy:=K1.cell 4))
   | (go_at_call 11;((with_reducible refine(cP _ q1).mono ?_);clear cP;rintro e w2 ⟨u2,rfl,ho2,aQ⟩;obtain⟨a2,c2,rfl,_⟩:=aP ho2;have Ko:=hid (Reads.own (xs:=Y) ho2);clear ho2;have K2:=K1.later aQ;have q2:=q1.trans (aQ.mono q1.size)))
   | (go_at_call 12;((with_reducible refine(cY _ _ _ Ko.o).mono ?_);clear cY;rintro e w3 ⟨n3,v3,f3,e3,F3,o3,p3,O3,b3,s3,B3,E3,rfl,P3,M3,fD⟩;obtain⟨he,hs⟩:=Si.o _ _ _ _ _ _ P3;replace hs:=hid hs;subst he;clear P3;have q3:=q2.trans (fD.mono q2.size);have N3:=aI w3 (.cells #[.int .i64 n3,.int .i64 v3,.slice f3 F3.length e3,.slice o3 O3.length p3,.slice b3 B3.length s3] 27);have K3:=(K2.later fD).later N3;have Tt:=K3.cell 0;have y31:=K3.cell 1;have y32:=K3.cell 2;have NT:=K3.cell 3;have y34:=K3.cell 4;have r3:=q3.trans (N3.mono q3.size)))
   | (go_at_call 10;((with_reducible refine(iG n v fa fc F oa oc O ba bc B n3 v3 f3 e3 F3 o3 p3 O3 b3 s3 B3 _ (HL.o.below r3) (M3.below N3)).mono ?_);rw[decide_eq_true hs.o];rintro e w4 ⟨rfl,ku⟩;have q4:=r3.trans (ku.mono r3.size)))
   | (go_at_call 12;((with_reducible refine(cB _ q4).mono ?_);clear cB;rintro e w5 ⟨n5,v5,f5,e5,F5,o5,p5,O5,b5,s5,B5,E5,rfl,P5,M5,jq⟩;have he:=HP.o _ _ P5;subst he;have q5:=q4.trans (jq.mono q4.size);have N5:=aI w5 (.cells #[.int .i64 n5,.int .i64 v5,.slice f5 F5.length e5,.slice o5 O5.length p5,.slice b5 B5.length s5] 27);have r5:=q5.trans (N5.mono q5.size);clear P5))
   | (go_at_call 6;((with_reducible refine(cA _).mono ?_);rintro e w9 ⟨rfl,yx⟩)))
   ·exact t51
   ·go_ret;exact⟨rfl,r5.trans (yx.mono r5.size)⟩
 ·have cP:=fun w' (hb:Below w.heap.size w w')=>uP n v fa fc F oa oc O ba bc B w' (h.below hb) mJ
  clear h hr hx mJ hc hm hP;by_cases hPE:PE=0
  ·subst hPE;go_enter func4,ntmps4;go_wp2_with (first
   | (go_at_call 5;((with_reducible refine cG.mono ?_);clear cG;rintro e w1 ⟨r,rfl,bQ⟩;rw[hW.o] at bQ;obtain⟨⟨K1,_⟩,q1⟩:=jU.o _ bQ;have Ir:=K1.cell 0;have NR:=K1.cell 1;have NS:=K1.cell 2;have y13:=K1.cell 3;have Hy:=K1.cell 4))
   | (go_at_call 11;((with_reducible refine(cP _ q1).mono ?_);clear cP;rintro e w2 ⟨rfl,aQ⟩;have q4:=q1.trans (aQ.mono q1.size)))
   | (go_at_call 12;((with_reducible refine(cB _ q4).mono ?_);clear cB;rintro e w5 ⟨n5,v5,f5,e5,F5,o5,p5,O5,b5,s5,B5,E5,rfl,P5,M5,jq⟩;have he:=HP.o _ _ P5;subst he;have q5:=q4.trans (jq.mono q4.size);have N5:=aI w5 (.cells #[.int .i64 n5,.int .i64 v5,.slice f5 F5.length e5,.slice o5 O5.length p5,.slice b5 B5.length s5] 27);have r5:=q5.trans (N5.mono q5.size);obtain⟨Aw,Az⟩:=jb HX.o P5;replace Aw:=hid Aw;replace Az:=hid Az;clear P5))
   | (go_at_call 11;((with_reducible refine(je n5 v5 f5 e5 F5 o5 p5 O5 b5 s5 B5 _ (M5.below N5) Aw.o).mono ?_);rw[Az.o];rintro e w6 ⟨u6,rfl,JY,pU⟩;obtain⟨a6,c6,rfl,_⟩:=aP JY;have q6:=r5.trans (pU.mono r5.size);have PV:=Reads.str (P:=prog) (Reads.own (xs:=xs) JY) 31 5 underlying31 underlying5 c6 9 underlying9;have PW:=Reads.str (P:=prog) (O0.o.below q6) 31 5 underlying31 underlying5 cap 9 underlying9;clear JY))
   | (go_at_call 6;((with_reducible refine(cA _).mono ?_);rintro e w9 ⟨rfl,yx⟩)))
   ·exact t51
   ·go_ret;exact⟨rfl,q6.trans (yx.mono q6.size)⟩
  ·have dR:((PE:Int) == 0)=false:=by rw[beq_eq_false_iff_ne];omega
   clear hPE;go_enter func4,ntmps4;go_wp2_with (first
   | (go_at_call 5;((with_reducible refine cG.mono ?_);clear cG;rintro e w1 ⟨r,rfl,bQ⟩;rw[hW.o] at bQ;obtain⟨⟨K1,_⟩,q1⟩:=jU.o _ bQ;have Ir:=K1.cell 0;have NR:=K1.cell 1;have NS:=K1.cell 2;have y13:=K1.cell 3;have Hy:=K1.cell 4))
   | (go_at_call 11;((with_reducible refine(cP _ q1).mono ?_);clear cP;rintro e w2 ⟨rfl,aQ⟩;have q4:=q1.trans (aQ.mono q1.size)))
   | (go_at_call 12;((with_reducible refine(cB _ q4).mono ?_);clear cB;rintro e w5 ⟨n5,v5,f5,e5,F5,o5,p5,O5,b5,s5,B5,E5,rfl,P5,M5,jq⟩;have he:=HP.o _ _ P5;subst he;have q5:=q4.trans (jq.mono q4.size);have N5:=aI w5 (.cells #[.int .i64 n5,.int .i64 v5,.slice f5 F5.length e5,.slice o5 O5.length p5,.slice b5 B5.length s5] 27);have r5:=q5.trans (N5.mono q5.size);clear P5))
   | (go_at_call 6;((with_reducible refine(cA _).mono ?_);rintro e w9 ⟨rfl,yx⟩)))
   ·exact t51
   ·go_ret;exact⟨rfl,r5.trans (yx.mono r5.size)⟩
theorem walk(x:Lk)(a:Option Addr)(len cap:Nat)(xs:List Nat)(w:World)(hx:x.Good w)(hr:Reads .u8 w a len xs)(hb:∀x∈xs,x<256)(hc:len<=cap)(hm:cap*1<=140737488351232):
  Calls prog 4 #[x.val,.slice a len cap] w (Yes w):=by
 obtain rfl:=hr.1;exact FV x.n x.p.Gg x.p.f x.p.jB x.p.fL x.o x.oc x.O x.b x.bc x.B a cap xs w ⟨⟨hx.p.rf,fun q hq=>(hx.p.mf q hq).ok⟩,⟨hx.o,fun q hq=>(hx.mo q hq).lists⟩,⟨hx.b,fun q hq=>(hx.mb q hq).lists⟩,Nat.le_trans hx.p.cf hx.p.df,Nat.le_trans hx.co hx.eo,Nat.le_trans hx.cb hx.eb⟩ hr hb hc om_
end linkBack
namespace linkBack
open Go.ChangeShapes Go.WideShapes Go.ChangeAt Go.RowKit link
open Go.ChangeMaps (open_string shut_string)
set_option maxRecDepth 100000 in
theorem lifted(os:Os)(started:os.Started)(H:Type)(enc:TypeId×Value->H):
  ReturnsInHanded {} Try.checked os 4 .any (Rows.linkBackSpec.pre6 enc prog Try.f4 Rows.linkBackRow.domain false) (Rows.linkBackSpec.post enc prog Try.f4 false true false false):=by
 refine returnsInHanded_of_change_sized (C:=Try.checked) own started kr_ func4
  (ChangeSpec.witness6 (enc:=enc) (C:=Try.checked) false ⟨#[],#[.agg #[.int .i64 0,.int .i64 0,.slice none 0 0,.slice none 0 0,.slice none 0 0],.slice none 0 0],[]⟩ 8 kr_ kr_ kr_ kr_) ?_
 intro W base args ds gs before hval0 hW hcnd hsz0 _;have hsz:(DataW.weightsEach prog (Try.f4.params.toList++Rows.linkBackSpec.plain.varTypes prog) (ds++gs)).all (· <=reachBytes)=true:=hsz0;clear hsz0;have hval:∀(j:Nat) t v,Try.f4.params[j]?=some t->args[j]?=some v->Value.okWide prog W .any base t v:=hval0
 have OT:=hW;obtain⟨p,q,hA0,hV,rfl,Ql,Uy⟩:=hW;have hA:DataW.TrodAll enc prog W 0 (fun _=>true) true Try.f4.params.toList args.toList ds p:=hA0;rw[Try.params4] at hA hval hsz;obtain⟨v0,Vg,d0,ds0,p0,q0,hargs,rfl,rfl,h0,r0⟩:=trodAll_cons hA;obtain⟨v1,vs1,d1,ds1,p1,q1,rfl,rfl,rfl,h1,r1⟩:=trodAll_cons r0;obtain⟨rfl,rfl,rfl⟩:=trodAll_nil r1;obtain rfl:args=#[v0,v1]:=by cases args;simp_all
 obtain⟨rfl,rfl⟩:=trodVars_none hV;have k0:=h0;have QD:∀x∈p0,x.block<W.heap.size:=by obtain⟨m,hm⟩:=k0;exact DataW.trod_lt m _ _ _ hm
 obtain⟨QE,OI,rfl⟩:=oh link.AO (hval 0 27 v0 rfl rfl) h0;obtain⟨a1,len1,cap1,rfl⟩:=okWide_slice underlying31 (hval 1 31 v1 rfl rfl);have k1:=h1;have La:∀x∈p1,x.block<W.heap.size:=by obtain⟨m,hm⟩:=k1;exact DataW.trod_lt m _ _ _ hm
 obtain⟨WE,Ve,VJ,UK,Vf⟩:=Ba (j:=1) underlying31 underlying5 (by kernel_rfl:prog.bytesOf 5=1) wf_u8 h1 hsz rfl rfl;clear hA0 hval0;refine(walk QE a1 len1 cap1 WE W OI Ve VJ UK Vf).mono fun e W' ⟨he,bel⟩=> ?_
 subst he;exact⟨_,rfl,_,_,_,[],_,[],OT,trodAll_mk1 (shut_bool underlying4 _),(trodAll_cons_mk (Below.trod laidOut kr_ (of_decide_eq_true kr_) k0 bel QD) (trodAll_cons_mk (Below.trod laidOut kr_ (of_decide_eq_true kr_) k1 bel La) trodAll_mk0)),rfl,bel.frame _,fun h=>by cases h⟩
theorem holds:Rows.LinkBackSaid:=
 OpenClaim.holds_of_wide 4 Try.f4 rfl rfl rfl rfl rfl rfl rfl ⟨rfl,rfl,rfl,rfl,rfl⟩ rfl rfl rfl rfl rfl kr_ func4 kr_
  (of_decide_eq_true kr_) (by unfold Func.isWrapper;first | (rw[if_pos (by decide+kernel)];kernel_rfl) | (rw[if_neg (by decide+kernel)];exact⟨rfl,rfl⟩))
  (fun os started H enc _=>lifted os started H enc)
end linkBack
end Go.Proofs.Ytogfefdlffmioaa
#print axioms Go.Proofs.Ytogfefdlffmioaa.linkBack.holds
