/- LinkRight returns true for every two links, and each argument reads afterwards as it read before. No condition. -/
import Derived.Test.YtogfefdlffmioaaCmWord
import Derived.Laws.StructEq
import Derived.Conc.WalkWords
import Derived.Test.YtogfefdlffmioaaCmA
import Derived.Test.YtogfefdlffmioaaCmE
import Derived.Test.YtogfefdlffmioaaCmAJ
import Derived.Test.YtogfefdlffmioaaCmAK
import Derived.Test.YtogfefdlffmioaaCmAL
import Derived.Test.YtogfefdlffmioaaCmT
import Derived.Test.YtogfefdlffmioaaCmAX
import Derived.Test.YtogfefdlffmioaaCmY
import Derived.Test.YtogfefdlffmioaaCmAV
import Derived.Test.YtogfefdlffmioaaCmF
import Derived.Test.YtogfefdlffmioaaCmAO
import Derived.Test.YtogfefdlffmioaaCmAW
import Derived.Test.YtogfefdlffmioaaCmN
set_option linter.unusedVariables false
namespace Go.Proofs.Ytogfefdlffmioaa
open Go.Proofs.Try
namespace ak
open Go.RowKit
open field (Gives aI ay)
theorem yg(i:Int)(a:Option Addr)(c:Nat)(L:List field.Fd)(j:Int)(b:Option Addr)(d:Nat)(M:List field.Fd)(w:World)(h:field.Fds w a L)(h':field.Fds w b M)(hL:L.length<=maxLen)(hM:M.length<=maxLen):
  Calls prog 40 #[zS i a L.length c,zS j b M.length d] w (Gives (.bool (decide ((i,L)=(j,M)))) w):=by
 have HX:=hid (WM2.all i a L c j b M d w);have hw:=(WM2.all i a L c j b M d w _ (Below.refl _ _)).2.2.2.2;have cE:=lZ a c L b d M (WM2 i a L c j b M d w) (h.below hw) (h'.below hw) hL hM;have HW:=hid hw;clear h h' hL hM hw;unfold Gives;by_cases hij:i=j
 ·subst hij;rw[show decide ((i,L)=(i,M))=decide (L=M) by simp];generalize decide (L=M)=r at *;unfold WM2 at HX cE HW;go_enter func40,ntmps40;go_wp2_with (go_at_call 43;((with_reducible refine cE.mono ?_);rintro e w2 ⟨rfl,aQ⟩;obtain⟨z0,z1,z2,z3,dP⟩:=HX.o _ aQ));go_ret;exact⟨rfl,dP⟩
 ·have hd:(i == j)=false:=by rw[beq_eq_false_iff_ne];exact hij
  rw[show decide ((i,L)=(j,M))=false from decide_eq_false (fun e=>hij (Prod.mk.inj e).1)];clear hij cE;unfold WM2 at HX HW;go_enter func40,ntmps40;go_wp2;go_ret;exact⟨rfl,HW.o⟩
theorem vV(a:Option Addr)(ca:Nat)(L:List Fm)(b:Option Addr)(cb:Nat)(M:List Fm)(w:World)(h:FmL w a L)(h':FmL w b M)(hL:L.length<=maxLen)(hM:M.length<=maxLen):
  Calls prog 39 #[.slice a L.length ca,.slice b M.length cb,.func (.func 40) #[] #[]] w (Gives (.bool (decide (forms L=forms M))) w):=by
 have hml:(L.length:Int)<=9223372036854775807:=by unfold maxLen at hL;omega
 have hmm:(M.length:Int)<=9223372036854775807:=by unfold maxLen at hM;omega
 have HF:=hid h;have HG:=hid h';obtain⟨r,hr⟩:∃r:Bool,Hid (decide (forms L=forms M)=r):=⟨_,rfl⟩;rw[hr.o];unfold Gives;clear h h' hL hM;by_cases hlen:L.length=M.length
 ·have HLEN:=hid hlen;rw[<-hlen];clear hlen hmm;go_enter func39,ntmps39;go_wp2;go_loopw [17] (fun n wr=>∃k:Nat,k<=L.length/\n=.int .i64 (k:Int)/\Hid ((forms L).take k=(forms M).take k)/\Hid (Below w.heap.size w wr)) (fun n _=>L.length - (intOf n).toNat);case atStart=>exact⟨0,Nat.zero_le _,rfl,hid rfl,hid (Below.refl _ _)⟩
  case round=>
   obtain⟨k,hk,rfl,qU,HB⟩:=hrel;by_cases bI:k<L.length
   ·obtain⟨g,off,p,rfl,jV,hp,c0,c1,JO,Aq⟩:=jH HF.o HB.o bI;obtain⟨g',off',q,rfl,qX,hq,d0,d1,JP,Ar⟩:=jH HG.o HB.o (k:=k) (by rw[<-HLEN.o];exact bI);have i1:(k:Int)<L.length:=by omega
    have HS:=hid (eu (dW hp) (dW hq));have tN:=hid (fun(fQ:¬p.p=q.p)=>show ¬forms L=forms M from fun e=>by have h1:=dW hp;rw[e] at h1;exact fQ (Option.some.inj (h1.symm.trans (dW hq))));obtain⟨i,x,xc,P⟩:=p;obtain⟨j,y,yc,R⟩:=q;simp only[Fm.p] at HS tN c0 c1 d0 d1 JO JP Aq Ar;have aQ:=(aI wr (.cells (zS i x P.length xc) 40)).trans ((aI ((wr.alloc (.cells (zS i x P.length xc) 40))) (.cells (zS j y R.length yc) 40)).mono si_);have cS:=yg i x xc P j y yc R (WM2 i x P xc j y R yc wr) (JO.below aQ) (JP.below aQ) Aq Ar;have HX:=hid (WM2.all i x P xc j y R yc wr);unfold WM2 at cS HX;clear hp hq JO JP Aq Ar aQ;by_cases fQ:(i,P)=(j,R)
    ·rw[decide_eq_true fQ] at cS;have HPQ:=hid fQ;clear fQ;go_wp2_with (go_at_call 40;((with_reducible refine cS.mono ?_);rintro e w2 ⟨rfl,aQ⟩;obtain⟨z0,z1,z2,z3,dP⟩:=HX.o _ aQ));exact⟨⟨k+1,by omega,by go_num,hid (HS.o.2 ⟨qU.o,HPQ.o⟩),hid (HB.o.trans (dP.mono HB.o.size))⟩,by simp[intOf];omega⟩
    ·rw[decide_eq_false fQ] at cS;obtain rfl:false=r:=by rw[<-hr.o];exact(decide_eq_false (tN.o fQ)).symm
     clear fQ;go_wp2_with (go_at_call 40;((with_reducible refine cS.mono ?_);rintro e w2 ⟨rfl,aQ⟩;obtain⟨z0,z1,z2,z3,dP⟩:=HX.o _ aQ));go_ret;exact⟨rfl,HB.o.trans (dP.mono HB.o.size)⟩
   ·obtain rfl:k=L.length:=by omega
    obtain rfl:true=r:=by
     rw[<-hr.o];have:=qU.o;rw[List.take_of_length_le (by rw[bg];exact Nat.le_refl _),List.take_of_length_le (by rw[bg,HLEN.o];exact Nat.le_refl _)] at this;exact(decide_eq_true this).symm
    go_wp2;go_ret;exact⟨rfl,HB.o⟩
 ·obtain rfl:false=r:=by rw[<-hr.o];exact(decide_eq_false (fun e=>hlen (by rw[<-bg,e,bg]))).symm
  have hd:((L.length:Int) == (M.length:Int))=false:=by rw[beq_eq_false_iff_ne];omega
  clear hlen;go_enter func39,ntmps39
  exact t12
theorem kQ(i:Int)(a:Option Addr)(c:Nat)(L:List Fm)(j:Int)(b:Option Addr)(d:Nat)(M:List Fm)(w:World)(h:FmL w a L)(h':FmL w b M)(hL:L.length<=maxLen)(hM:M.length<=maxLen):
  Calls prog 18 #[zS i a L.length c,zS j b M.length d] w (Gives (.bool (decide (i=j/\forms L=forms M))) w):=by
 have HX:=hid (WS2.all i a L c j b M d w);have hw:=(WS2.all i a L c j b M d w _ (Below.refl _ _)).2.2.2.2;have cE:=vV a c L b d M (WS2 i a L c j b M d w) (h.below hw) (h'.below hw) hL hM;have HW:=hid hw;clear h h' hL hM hw;unfold Gives;by_cases hij:i=j
 ·subst hij;rw[show decide (i=i/\forms L=forms M)=decide (forms L=forms M) by simp];generalize decide (forms L=forms M)=r at *;unfold WS2 at HX cE HW;go_enter func18,ntmps18;go_wp2_with (go_at_call 39;((with_reducible refine cE.mono ?_);rintro e w2 ⟨rfl,aQ⟩;obtain⟨z0,z1,z2,z3,dP⟩:=HX.o _ aQ));go_ret;exact⟨rfl,dP⟩
 ·have hd:(i == j)=false:=by rw[beq_eq_false_iff_ne];exact hij
  rw[show decide (i=j/\forms L=forms M)=false from decide_eq_false (fun e=>hij e.1)];clear hij cE;unfold WS2 at HX HW;go_enter func18,ntmps18;go_wp2;go_ret;exact⟨rfl,HW.o⟩
end ak
namespace link
open Go.RowKit
open field (Gives aI)
open step (St Sp StL bV gU dI Lists mW xC spC)
open ak (Fm FmL forms)
theorem wJ{o:Oper}{a:Act}{w:World}(ho:o.op=.alloc 52):
  (execOp a.eval o).run prog w=.ok (.value (.pointer (some ⟨w.heap.size,0,none⟩))) (w.alloc (.cells zZ 52)):=by
 unfold execOp;rw[ho];go_simp
set_option maxRecDepth 20000 in
set_option maxHeartbeats 1600000 in
theorem uf(a:Option Addr)(ca:Nat)(L:List St)(b:Option Addr)(cb:Nat)(M:List St)(w:World)(h:StL w a L)(h':StL w b M)(hL:L.length<=maxLen)(hM:M.length<=maxLen):
  Calls prog 19 #[.slice a L.length ca,.slice b M.length cb,.func (.func 20) #[] #[]] w (Gives (.bool (decide (bV L=bV M))) w):=by
 have hml:(L.length:Int)<=9223372036854775807:=by unfold maxLen at hL;omega
 have hmm:(M.length:Int)<=9223372036854775807:=by unfold maxLen at hM;omega
 have HF:=hid h;have HG:=hid h';have qQ:=hid (dI L);have IB:=hid (dI M);obtain⟨r,hr⟩:∃r:Bool,Hid (decide (bV L=bV M)=r):=⟨_,hid rfl⟩;rw[hr.o];unfold Gives;clear h h' hL hM;by_cases hlen:L.length=M.length
 ·have HLEN:=hid hlen;rw[<-hlen];clear hlen hmm;go_enter func19,ntmps19;go_wp2;go_loopw [17] (fun n wr=>∃k:Nat,k<=L.length/\n=.int .i64 (k:Int)/\Hid ((bV L).take k=(bV M).take k)/\Hid (Below w.heap.size w wr)) (fun n _=>L.length - (intOf n).toNat);case atStart=>exact⟨0,Nat.zero_le _,rfl,hid rfl,hid (Below.refl _ _)⟩
  case round=>
   obtain⟨k,hk,rfl,qU,HB⟩:=hrel;by_cases bI:k<L.length
   ·obtain⟨g,off,p,rfl,jV,hp,Aq,c0⟩:=step.step_range HF.o HB.o bI;obtain⟨g',off',q,rfl,qX,hq,Ar,d0⟩:=step.step_range HG.o HB.o (k:=k) (by rw[<-HLEN.o];exact bI);have i1:(k:Int)<L.length:=by omega
    have HS:=hid (xC (gU hp) (gU hq));have tN:=hid (fun(fQ:¬p.s=q.s)=>show ¬bV L=bV M from fun e=>by have h1:=gU hp;rw[e] at h1;exact fQ (Option.some.inj (h1.symm.trans (gU hq))));obtain⟨s,ta,tc,la,lc⟩:=p;obtain⟨u,ua,uc,va,vc⟩:=q;simp only at HS tN Aq Ar c0 d0;have HC:Hid (wr.rangeAt g (off+k*16) (zP s ta tc la lc)):=hid c0;have HD:Hid (wr.rangeAt g' (off'+k*16) (zP u ua uc va vc)):=hid d0;obtain⟨w1,hw1⟩:∃x,Hid ((wr.alloc (.cells zZ 52)).setCells wr.heap.size 0 (zP s ta tc la lc)=x):=⟨_,hid rfl⟩;have B1:=(Block.new wr 52 zZ).setCells (o:=0) (vs:=(zP s ta tc la lc));rw[tJ _ _ (by rfl),hw1.o] at B1;have n1:Below wr.heap.size wr w1:=by rw[<-hw1.o];exact below_setCells (aI wr _) (Nat.le_refl _) 0 _
    obtain⟨w2,hw2⟩:∃x,Hid ((w1.alloc (.cells zZ 52)).setCells w1.heap.size 0 (zP u ua uc va vc)=x):=⟨_,hid rfl⟩;have B2:=(Block.new w1 52 zZ).setCells (o:=0) (vs:=(zP u ua uc va vc));rw[tJ _ _ (by rfl),hw2.o] at B2;have n2:Below w1.heap.size w1 w2:=by rw[<-hw2.o];exact below_setCells (aI w1 _) (Nat.le_refl _) 0 _
    have n3:Below wr.heap.size wr w2:=n1.trans (n2.mono n1.size);have HB1:=hid (B1.later n2);have HB2:=hid B2;have NV:=hid n1;have KR:=hid n3;have yE:=hid jV;have HL2:=hid qX;have cS:=step.kQ s ta tc la lc u ua uc va vc w2 (Aq.below n3) (Ar.below n3);unfold Gives at cS;clear hp hq Aq Ar c0 d0 B1 B2 n1 n2 n3;go_upto_region 5 with fail
    refine plan.line ?_;refine plan.af 0 _ (.int .i64 (k:Int)) rfl ?_;refine plan.af 1 _ (.pointer (some ⟨g,off+k*16,none⟩)) rfl (hv:=(step.jd (cap:=ca) rfl bI)) ?_;refine plan.af 2 _ (zP s ta tc la lc) rfl (hv:=(ak.aj (b:=g) (off:=off+k*16) rfl HC.o underlying52 rfl step.dS.o)) ?_;refine plan.kL (w1:=wr.alloc (.cells zZ 52)) 3 _ (.pointer (some ⟨wr.heap.size,0,none⟩)) rfl (wJ rfl) ?_;refine plan.af 4 _ (.int .i64 (k:Int)) rfl ?_;refine plan.uH (w1:=w1) 5 _ rfl (by rw[<-hw1.o];exact plan.kH (cells:=(zP s ta tc la lc)) rfl (Block.new wr 52 zZ) rfl step.dS.o (by simp[Value.oneCell'])) ?_;refine plan.aK de_ ?_;walk_nrm;go_upto_region 6 with fail
    refine plan.line ?_;refine plan.af 0 _ (.slice (some ⟨g',off',none⟩) L.length cb) rfl ?_;refine plan.af 1 _ (.int .i64 (k:Int)) rfl ?_;refine plan.af 2 _ (.pointer (some ⟨g',off'+k*16,none⟩)) rfl (hv:=(step.jd (cap:=cb) rfl bI)) ?_;refine plan.af 3 _ (zP u ua uc va vc) rfl (hv:=(ak.aj (b:=g') (off:=off'+k*16) rfl (ak.fE HD.o NV.o HL2.o) underlying52 rfl step.dS.o)) ?_;refine plan.kL (w1:=w1.alloc (.cells zZ 52)) 4 _ (.pointer (some ⟨w1.heap.size,0,none⟩)) rfl (wJ rfl) ?_;refine plan.uH (w1:=w2) 5 _ rfl (by rw[<-hw2.o];exact plan.kH (cells:=(zP u ua uc va vc)) rfl (Block.new w1 52 zZ) rfl step.dS.o (by simp[Value.oneCell'])) ?_;refine plan.aK de_ ?_;walk_nrm;go_upto_region 7 with fail
    refine plan.line ?_;refine plan.af 0 _ (.func (.func 20) #[] #[]) rfl ?_;refine plan.af 1 _ (zP s ta tc la lc) rfl (hv:=(ak.aj (b:=wr.heap.size) (off:=0) rfl HB1.o.whole underlying52 rfl step.dS.o)) ?_;refine plan.af 2 _ (zP u ua uc va vc) rfl (hv:=(ak.aj (b:=w1.heap.size) (off:=0) rfl HB2.o.whole underlying52 rfl step.dS.o)) ?_;refine plan.oJ 3 _ 20 #[zP s ta tc la lc,zP u ua uc va vc] rfl kr_ kr_ (cS.mono ?_);rintro e w3 ⟨rfl,fD⟩;have HQ:=hid (HB.o.trans ((KR.o.trans (fD.mono KR.o.size)).mono HB.o.size));clear fD cS;refine⟨_,rfl, ?_⟩;by_cases fQ:s=u
    ·rw[decide_eq_true fQ];have HPQ:=hid fQ;clear fQ;refine plan.af 4 _ (.bool false) rfl ?_;refine plan.aK de_ ?_;walk_nrm;go_wp2;exact⟨⟨k+1,by omega,by go_num,hid (HS.o.2 ⟨qU.o,HPQ.o⟩),HQ⟩,by simp[intOf];omega⟩
    ·rw[decide_eq_false fQ];obtain rfl:false=r:=by rw[<-hr.o];exact(decide_eq_false (tN.o fQ)).symm
     clear fQ;refine plan.af 4 _ (.bool true) rfl ?_;refine plan.aK de_ ?_;walk_nrm;go_wp2;go_ret;exact⟨rfl,HQ.o⟩
   ·exact t29
 ·obtain rfl:false=r:=by rw[<-hr.o];exact(decide_eq_false (fun e=>hlen (by rw[<-qQ.o,e,IB.o]))).symm
  have hd:((L.length:Int) == (M.length:Int))=false:=by rw[beq_eq_false_iff_ne];omega
  have hd2:((L.length:Int) != (M.length:Int))=true:=by simp;omega
  clear hlen;go_enter func19,ntmps19
  exact t12
set_option maxRecDepth 20000 in
theorem kQ(n v:Int)(fa:Option Addr)(fc:Nat)(F:List Fm)(oa:Option Addr)(oc:Nat)(O:List St)(ba:Option Addr)(bc:Nat)(B:List St)(n' v':Int)(wL:Option Addr)(yK:Nat)(F':List Fm)(wS:Option Addr)(oc':Nat)(O':List St)(ba':Option Addr)(bc':Nat)(B':List St)(w:World)(h:LkM w fa F oa O ba B)(h':LkM w wL F' wS O' ba' B'):
  Calls prog 9 #[.agg #[.int .i64 n,.int .i64 v,.slice fa F.length fc,.slice oa O.length oc,.slice ba B.length bc],.agg #[.int .i64 n',.int .i64 v',.slice wL F'.length yK,.slice wS O'.length oc',.slice ba' B'.length bc']] w (Gives (.bool (decide (Same n v (forms F) (bV O) (bV B) n' v' (forms F') (bV O') (bV B')))) w):=by
 obtain⟨W0,hW,bW,hsz,jU⟩:=fH w [(27,[.int .i64 n,.int .i64 v,.slice fa F.length fc,.slice oa O.length oc,.slice ba B.length bc]),(27,[.int .i64 n',.int .i64 v',.slice wL F'.length yK,.slice wS O'.length oc',.slice ba' B'.length bc'])];simp only[boxes] at hW;have h0:=h.below bW;have yR:=h'.below bW;have cS:=ak.kQ v fa fc F v' wL yK F' W0 h0.f yR.f h0.lf yR.lf;have cO:=fun w' (hb:Below W0.heap.size W0 w')=>uf oa oc O wS oc' O' w' (h0.o.below hb) (yR.o.below hb) h0.lo yR.lo
 have cB:=fun w' (hb:Below W0.heap.size W0 w')=>uf ba bc B ba' bc' B' w' (h0.b.below hb) (yR.b.below hb) h0.lb yR.lb
 obtain⟨r,hr⟩:∃r:Bool,Hid (decide (Same n v (forms F) (bV O) (bV B) n' v' (forms F') (bV O') (bV B'))=r):=⟨_,hid rfl⟩;have HR:Hid (r=((n == n') && decide (v=v'/\forms F=forms F') && decide (bV O=bV O') && decide (bV B=bV B'))):=hid (by
  rw[<-hr.o,Bool.eq_iff_iff];simp only[decide_eq_true_eq,Bool.and_eq_true,beq_iff_eq];unfold Same;constructor
  ·rintro⟨a,b,c,d⟩;exact⟨⟨⟨a,b⟩,c⟩,d⟩
  ·rintro⟨⟨⟨a,b⟩,c⟩,d⟩;exact⟨a,b,c,d⟩)
 rw[hr.o];have jg:=hid bW;have yu:=hid bW;rw[<-hW.o] at cS yu;generalize decide (v=v'/\forms F=forms F')=sr at *;generalize decide (bV O=bV O')=so at *;generalize decide (bV B=bV B')=sb at *;unfold Gives at cS cO cB ⊢;clear h h0 h' yR bW hr;by_cases h1:n=n'
 ·have d1:(n == n')=true:=by simp[h1]
  clear h1;cases sr with
  | true=>
   cases so with
   | true=>
    obtain rfl:r=sb:=by rw[HR.o,d1];simp
    go_enter func9,ntmps9;go_wp2_with (first | (go_at_call 18;((with_reducible refine cS.mono ?_);clear cS;rintro e w2 ⟨rfl,aQ⟩;rw[hW.o] at aQ;obtain⟨⟨k2,j2,_⟩,_⟩:=jU.o _ aQ;have z23:=k2.cell 3;have z24:=k2.cell 4;have y23:=j2.cell 3;have y24:=j2.cell 4;clear k2 j2)) | (go_at_call 19;((with_reducible refine(cO _ aQ).mono ?_);clear cO;rintro e w3 ⟨rfl,fD⟩;have lF:=aQ.trans (fD.mono aQ.size);obtain⟨⟨k3,j3,_⟩,_⟩:=jU.o _ lF;have z33:=k3.cell 3;have z34:=k3.cell 4;have NT:=j3.cell 3;have y34:=j3.cell 4;clear k3 j3)) | (go_at_call 19;((with_reducible refine(cB _ lF).mono ?_);clear cB;rintro e w4 ⟨rfl,ku⟩;have G6:=lF.trans (ku.mono lF.size))));go_ret
    exact t53
   | false=>
    obtain rfl:r=false:=by rw[HR.o];simp
    go_enter func9,ntmps9;go_wp2_with (first | (go_at_call 18;((with_reducible refine cS.mono ?_);clear cS;rintro e w2 ⟨rfl,aQ⟩;rw[hW.o] at aQ;obtain⟨⟨k2,j2,_⟩,_⟩:=jU.o _ aQ;have z23:=k2.cell 3;have z24:=k2.cell 4;have y23:=j2.cell 3;have y24:=j2.cell 4;clear k2 j2)) | (go_at_call 19;((with_reducible refine(cO _ aQ).mono ?_);clear cO;rintro e w3 ⟨rfl,fD⟩;have lF:=aQ.trans (fD.mono aQ.size);obtain⟨⟨k3,j3,_⟩,_⟩:=jU.o _ lF;have z33:=k3.cell 3;have z34:=k3.cell 4;have NT:=j3.cell 3;have y34:=j3.cell 4;clear k3 j3)));go_ret
    exact t54
  | false=>
   obtain rfl:r=false:=by rw[HR.o];simp
   go_enter func9,ntmps9;go_wp2_with (first | (go_at_call 18;((with_reducible refine cS.mono ?_);clear cS;rintro e w2 ⟨rfl,aQ⟩;rw[hW.o] at aQ;obtain⟨⟨k2,j2,_⟩,_⟩:=jU.o _ aQ;have z23:=k2.cell 3;have z24:=k2.cell 4;have y23:=j2.cell 3;have y24:=j2.cell 4;clear k2 j2)))
   exact t116
 ·have d1:(n == n')=false:=by simp[h1]
  clear h1;obtain rfl:r=false:=by rw[HR.o,d1];simp
  go_enter func9,ntmps9;go_wp2;go_ret;exact⟨rfl,yu.o⟩
end link
namespace linkRight
open Go.RowKit pen link
open field (aI)
open ak (aY aj Fm forms)
open step (St Sp bV)
theorem oV{o:Oper}{a:Act}{w:World}{x y:Operand}{t':TypeId}{r:Bool}(ho:o.op=.binOp .eql 4 x y t')(hx:a.eval x=.bool r:=by kernel_rfl)(hy:a.eval y=.bool r:=by kernel_rfl):(execOp a.eval o).run prog w=.ok (.value (.bool true)) w:=
 aY ho (hx:=hx) (hy:=hy) (by simp[go_sem]) (by simp[go_sem])
theorem kW:(prog.info? 27).map (·.size)=some 5:=by kernel_rfl
set_option maxRecDepth 20000 in
set_option maxHeartbeats 3200000 in
theorem FV(n v:Int)(fa:Option Addr)(fc:Nat)(F:List Fm)(oa:Option Addr)(oc:Nat)(O:List St)(ba:Option Addr)(bc:Nat)(B:List St)(n' v':Int)(wL:Option Addr)(yK:Nat)(F':List Fm)(wS:Option Addr)(oc':Nat)(O':List St)(ba':Option Addr)(bc':Nat)(B':List St)(w:World)(h:LkM w fa F oa O ba B)(h':LkM w wL F' wS O' ba' B'):
  Calls prog 3 #[.agg #[.int .i64 n,.int .i64 v,.slice fa F.length fc,.slice oa O.length oc,.slice ba B.length bc],.agg #[.int .i64 n',.int .i64 v',.slice wL F'.length yK,.slice wS O'.length oc',.slice ba' B'.length bc']] w (Yes w):=by
 obtain⟨W0,hW,bW,hsz,jU⟩:=fH w [(27,[.int .i64 n,.int .i64 v,.slice fa F.length fc,.slice oa O.length oc,.slice ba B.length bc]),(27,[.int .i64 n',.int .i64 v',.slice wL F'.length yK,.slice wS O'.length oc',.slice ba' B'.length bc'])];simp only[boxes] at hW;have OH:=jY n v fa fc F oa oc O ba bc B W0 (h.below bW);have Sv:=fun w2 (hb:Below W0.heap.size W0 w2)=>jY n' v' wL yK F' wS oc' O' ba' bc' B' w2 ((h'.below bW).below hb)
 rw[<-hW.o] at OH;have cA:∀w',Calls prog 6 #[] w' (field.Gives (.bool true) w'):=fun w'=>wE w'
 have cR:=fun w2 (hb:Below w.heap.size w w2)=>dB n v fa fc F oa oc O ba bc B w2 (h.below hb)
 have cQ:=fun w2 (hb:Below w.heap.size w w2)=>fB n v fa fc F oa oc O ba bc B w2 (h.below hb)
 have cS:=fun w2 (hb:Below w.heap.size w w2)=>kQ n v fa fc F oa oc O ba bc B n' v' wL yK F' wS oc' O' ba' bc' B' w2 (h.below hb) (h'.below hb)
 have cT:=fun w2 (hb:Below w.heap.size w w2)=>iG n v fa fc F oa oc O ba bc B n' v' wL yK F' wS oc' O' ba' bc' B' w2 (h.below hb) (h'.below hb)
 have cU:=fun w2 (hb:Below w.heap.size w w2)=>kQ n v fa fc F oa oc O ba bc B n v fa fc F oa oc O ba bc B w2 (h.below hb) (h.below hb)
 rw[show decide (Same n v (forms F) (bV O) (bV B) n v (forms F) (bV O) (bV B))=true from decide_eq_true ⟨rfl,⟨rfl,rfl⟩,rfl,rfl⟩] at cU;generalize decide (Right n v (forms F) (bV O) (bV B))=r1 at *;generalize decide (Same n v (forms F) (bV O) (bV B) n' v' (forms F') (bV O') (bV B'))=s1 at *;unfold field.Gives at cA cR cQ cS cT cU;unfold Yes;clear h h' bW;go_enter func3,ntmps3;go_wp2_with (first
  | (go_at_call 5;((with_reducible refine OH.mono ?_);clear OH;rintro e w1 ⟨r,rfl,bQ⟩;rw[hW.o] at bQ;obtain⟨⟨K1,J1,_⟩,q1⟩:=jU.o _ bQ;have x10:=J1.cell 0;have x11:=J1.cell 1;have x12:=J1.cell 2;have Ny:=J1.cell 3;have x14:=J1.cell 4))
  | (go_at_call 5;((with_reducible refine(Sv _ bQ).mono ?_);clear Sv;rintro e w2 ⟨r2,rfl,aQ⟩;have K2:=K1.later aQ;have J2:=J1.later aQ;have q2:=q1.trans (aQ.mono q1.size)))
  | (go_at_call 6;((with_reducible refine(cA _).mono ?_);rintro e w9 ⟨rfl,yx⟩)))
 ·go_ret;exact⟨rfl,q1.trans (yx.mono q1.size)⟩
 ·go_ret;exact⟨rfl,q2.trans (yx.mono q2.size)⟩
 ·have hb:=below_drewN q2 1;have KK:=K2.later (below_drewN (Below.refl w2.heap.size w2) 1);have JJ:=J2.later (below_drewN (Below.refl w2.heap.size w2) 1);refine plan.region kr_ ?_;refine plan.Rest.first 0 _ (.agg #[.int .i64 n,.int .i64 v,.slice fa F.length fc,.slice oa O.length oc,.slice ba B.length bc]) rfl (fun w' aJ=>aj (b:=w.heap.size) (off:=0) rfl (KK.later aJ).whole underlying27 rfl kW) ?_;refine plan.Rest.first 2 _ (.agg #[.int .i64 n,.int .i64 v,.slice fa F.length fc,.slice oa O.length oc,.slice ba B.length bc]) rfl (fun w' aJ=>aj (b:=w.heap.size) (off:=0) rfl (KK.later aJ).whole underlying27 rfl kW) ?_;refine plan.Rest.call 1 _ 7 #[.agg #[.int .i64 n,.int .i64 v,.slice fa F.length fc,.slice oa O.length oc,.slice ba B.length bc]] rfl ((cR w2.drew hb).mono ?_);rintro e W1 ⟨rfl,hn⟩;have hb:=hb.trans (hn.mono hb.size);replace KK:=KK.later hn;replace JJ:=JJ.later hn;refine⟨_,rfl,hn, ?_⟩;refine plan.Rest.call 3 _ 8 #[.agg #[.int .i64 n,.int .i64 v,.slice fa F.length fc,.slice oa O.length oc,.slice ba B.length bc]] rfl ((cQ W1 hb).mono ?_);rintro e W3 ⟨rfl,hn⟩;have hb:=hb.trans (hn.mono hb.size);replace KK:=KK.later hn;replace JJ:=JJ.later hn;refine⟨_,rfl,hn, ?_⟩;refine plan.Rest.first 4 _ (.bool true) rfl (fun w' aJ=>oV (r:=r1) rfl) ?_;refine plan.Rest.first 5 _ (.bool true) rfl (fun w' aJ=>kr_) ?_;refine plan.Rest.first 6 _ (.agg #[.int .i64 n,.int .i64 v,.slice fa F.length fc,.slice oa O.length oc,.slice ba B.length bc]) rfl (fun w' aJ=>aj (b:=w.heap.size) (off:=0) rfl (KK.later aJ).whole underlying27 rfl kW) ?_;refine plan.Rest.first 7 _ (.agg #[.int .i64 n',.int .i64 v',.slice wL F'.length yK,.slice wS O'.length oc',.slice ba' B'.length bc']) rfl (fun w' aJ=>aj (b:=w.heap.size+1) (off:=0) rfl (JJ.later aJ).whole underlying27 rfl kW) ?_;refine plan.Rest.first 9 _ (.agg #[.int .i64 n,.int .i64 v,.slice fa F.length fc,.slice oa O.length oc,.slice ba B.length bc]) rfl (fun w' aJ=>aj (b:=w.heap.size) (off:=0) rfl (KK.later aJ).whole underlying27 rfl kW) ?_;refine plan.Rest.first 10 _ (.agg #[.int .i64 n',.int .i64 v',.slice wL F'.length yK,.slice wS O'.length oc',.slice ba' B'.length bc']) rfl (fun w' aJ=>aj (b:=w.heap.size+1) (off:=0) rfl (JJ.later aJ).whole underlying27 rfl kW) ?_;refine plan.Rest.call 8 _ 9 #[.agg #[.int .i64 n,.int .i64 v,.slice fa F.length fc,.slice oa O.length oc,.slice ba B.length bc],.agg #[.int .i64 n',.int .i64 v',.slice wL F'.length yK,.slice wS O'.length oc',.slice ba' B'.length bc']] rfl ((cS W3 hb).mono ?_);rintro e W8 ⟨rfl,hn⟩;have hb:=hb.trans (hn.mono hb.size);replace KK:=KK.later hn;replace JJ:=JJ.later hn;refine⟨_,rfl,hn, ?_⟩;refine plan.Rest.call 11 _ 10 #[.agg #[.int .i64 n,.int .i64 v,.slice fa F.length fc,.slice oa O.length oc,.slice ba B.length bc],.agg #[.int .i64 n',.int .i64 v',.slice wL F'.length yK,.slice wS O'.length oc',.slice ba' B'.length bc']] rfl ((cT W8 hb).mono ?_);rintro e U2 ⟨rfl,hn⟩;have hb:=hb.trans (hn.mono hb.size);replace KK:=KK.later hn;replace JJ:=JJ.later hn;refine⟨_,rfl,hn, ?_⟩;refine plan.Rest.first 12 _ (.bool true) rfl (fun w' aJ=>oV (r:=s1) rfl) ?_;refine plan.Rest.first 13 _ (.bool true) rfl (fun w' aJ=>kr_) ?_;refine plan.Rest.first 14 _ (.bool true) rfl (fun w' aJ=>kr_) ?_;refine plan.Rest.first 15 _ (.agg #[.int .i64 n,.int .i64 v,.slice fa F.length fc,.slice oa O.length oc,.slice ba B.length bc]) rfl (fun w' aJ=>aj (b:=w.heap.size) (off:=0) rfl (KK.later aJ).whole underlying27 rfl kW) ?_;refine plan.Rest.first 16 _ (.agg #[.int .i64 n,.int .i64 v,.slice fa F.length fc,.slice oa O.length oc,.slice ba B.length bc]) rfl (fun w' aJ=>aj (b:=w.heap.size) (off:=0) rfl (KK.later aJ).whole underlying27 rfl kW) ?_;refine plan.Rest.call 17 _ 9 #[.agg #[.int .i64 n,.int .i64 v,.slice fa F.length fc,.slice oa O.length oc,.slice ba B.length bc],.agg #[.int .i64 n,.int .i64 v,.slice fa F.length fc,.slice oa O.length oc,.slice ba B.length bc]] rfl ((cU U2 hb).mono ?_);rintro e U3 ⟨rfl,hn⟩;have hb:=hb.trans (hn.mono hb.size);replace KK:=KK.later hn;replace JJ:=JJ.later hn;refine⟨_,rfl,hn, ?_⟩;refine plan.Rest.first 18 _ (.bool true) rfl (fun w' aJ=>kr_) ?_;refine plan.Rest.first 19 _ (.bool true) rfl (fun w' aJ=>kr_) ?_;refine plan.Rest.call 20 _ 6 #[] rfl ((cA U3).mono ?_);rintro e WJ ⟨rfl,hn⟩;have hb:=hb.trans (hn.mono hb.size);replace KK:=KK.later hn;replace JJ:=JJ.later hn;refine⟨_,rfl,hn, ?_⟩;refine plan.Rest.first 21 _ (.bool true) rfl (fun w' aJ=>kr_) ?_;refine plan.Rest.first 22 _ (.bool true) rfl (fun w' aJ=>kr_) ?_;refine plan.Rest.done ?_;walk_nrm;go_wp2;go_ret;exact⟨rfl,hb⟩
theorem walk(x y:Lk)(w:World)(hx:x.Good w)(hy:y.Good w):Calls prog 3 #[x.val,y.val] w (Yes w):=by
 have hm:∀x:Lk,x.Good w->LkM w x.p.f x.p.fL x.o x.O x.b x.B:=fun x hx=>⟨⟨hx.p.rf,fun q hq=>(hx.p.mf q hq).ok⟩,⟨hx.o,fun q hq=>(hx.mo q hq).lists⟩,⟨hx.b,fun q hq=>(hx.mb q hq).lists⟩,Nat.le_trans hx.p.cf hx.p.df,Nat.le_trans hx.co hx.eo,Nat.le_trans hx.cb hx.eb⟩
 exact FV x.n x.p.Gg x.p.f x.p.jB x.p.fL x.o x.oc x.O x.b x.bc x.B y.n y.p.Gg y.p.f y.p.jB y.p.fL y.o y.oc y.O y.b y.bc y.B w (hm x hx) (hm y hy)
end linkRight
namespace linkRight
open Go.ChangeShapes Go.WideShapes Go.ChangeAt Go.RowKit link
open Go.ChangeMaps (open_string shut_string)
set_option maxRecDepth 100000 in
theorem lifted(os:Os)(started:os.Started)(H:Type)(enc:TypeId×Value->H):
  ReturnsInHanded {} Try.checked os 3 .any (Rows.linkRightSpec.pre6 enc prog Try.f3 Rows.linkRightRow.domain false) (Rows.linkRightSpec.post enc prog Try.f3 false true false false):=by
 refine returnsInHanded_of_change_sized (C:=Try.checked) own started kr_ func3
  (ChangeSpec.witness6 (enc:=enc) (C:=Try.checked) false ⟨#[],#[.agg #[.int .i64 0,.int .i64 0,.slice none 0 0,.slice none 0 0,.slice none 0 0],.agg #[.int .i64 0,.int .i64 0,.slice none 0 0,.slice none 0 0,.slice none 0 0]],[]⟩ 8 kr_ kr_ kr_ kr_) ?_
 intro W base args ds gs before hval0 hW hcnd hsz0 _;have hsz:(DataW.weightsEach prog (Try.f3.params.toList++Rows.linkRightSpec.plain.varTypes prog) (ds++gs)).all (· <=reachBytes)=true:=hsz0;clear hsz0;have hval:∀(j:Nat) t v,Try.f3.params[j]?=some t->args[j]?=some v->Value.okWide prog W .any base t v:=hval0
 have OT:=hW;obtain⟨p,q,hA0,hV,rfl,Ql,Uy⟩:=hW;have hA:DataW.TrodAll enc prog W 0 (fun _=>true) true Try.f3.params.toList args.toList ds p:=hA0;rw[Try.params3] at hA hval hsz;obtain⟨v0,Vg,d0,ds0,p0,q0,hargs,rfl,rfl,h0,r0⟩:=trodAll_cons hA;obtain⟨v1,vs1,d1,ds1,p1,q1,rfl,rfl,rfl,h1,r1⟩:=trodAll_cons r0;obtain⟨rfl,rfl,rfl⟩:=trodAll_nil r1;obtain rfl:args=#[v0,v1]:=by cases args;simp_all
 obtain⟨rfl,rfl⟩:=trodVars_none hV;have k0:=h0;have QD:∀x∈p0,x.block<W.heap.size:=by obtain⟨m,hm⟩:=k0;exact DataW.trod_lt m _ _ _ hm
 obtain⟨QE,OI,rfl⟩:=oh link.AO (hval 0 27 v0 rfl rfl) h0;have k1:=h1;have La:∀x∈p1,x.block<W.heap.size:=by obtain⟨m,hm⟩:=k1;exact DataW.trod_lt m _ _ _ hm
 obtain⟨pc1,Ua,rfl⟩:=oh link.AO (hval 1 27 v1 rfl rfl) h1;clear hA0 hval0;refine(walk QE pc1 W OI Ua).mono fun e W' ⟨he,bel⟩=> ?_
 subst he;exact⟨_,rfl,_,_,_,[],_,[],OT,trodAll_mk1 (shut_bool underlying4 _),(trodAll_cons_mk (Below.trod laidOut kr_ (of_decide_eq_true kr_) k0 bel QD) (trodAll_cons_mk (Below.trod laidOut kr_ (of_decide_eq_true kr_) k1 bel La) trodAll_mk0)),rfl,bel.frame _,fun h=>by cases h⟩
theorem holds:Rows.LinkRightSaid:=
 OpenClaim.holds_of_wide 3 Try.f3 rfl rfl rfl rfl rfl rfl rfl ⟨rfl,rfl,rfl,rfl,rfl⟩ rfl rfl rfl rfl rfl kr_ func3 kr_
  (of_decide_eq_true kr_) (by unfold Func.isWrapper;first | (rw[if_pos (by decide+kernel)];kernel_rfl) | (rw[if_neg (by decide+kernel)];exact⟨rfl,rfl⟩))
  (fun os started H enc _=>lifted os started H enc)
end linkRight
end Go.Proofs.Ytogfefdlffmioaa
#print axioms Go.Proofs.Ytogfefdlffmioaa.linkRight.holds
