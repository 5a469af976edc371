/- Contracts and lemmas that claims of this seat share: LinkFine, StepParse, StepFixP, LinkPrint, LinkPrints, LinkAwake, LinkRef. Each says its own conditions. -/
import Derived.Test.YtogfefdlffmioaaCmWord
import Derived.Deep.CutRange
import Derived.Laws.Strings
import Derived.Test.YtogfefdlffmioaaCmAT
import Derived.Test.YtogfefdlffmioaaCmAU
import Derived.Test.YtogfefdlffmioaaCmT
import Derived.Test.YtogfefdlffmioaaCmW
import Derived.Test.YtogfefdlffmioaaCmAV
import Derived.Test.YtogfefdlffmioaaCmAO
import Derived.Test.YtogfefdlffmioaaCmAW
set_option linter.unusedVariables false
namespace Go.Proofs.Ytogfefdlffmioaa
open Go.Proofs.Try
theorem t116{P:Prop}(h:P:=by
 go_ret;exact⟨rfl,jg.o.trans (aQ.mono jg.o.size)⟩):P:=h
theorem t98{P:Prop}(h:P:=by
 go_enter func7,ntmps7;go_wp2;go_ret;exact⟨rfl,yu.o⟩):P:=h
theorem t84{P:Prop}(h:P:=by
 rintro⟨⟨a,b⟩,c,d,e,f⟩;exact⟨⟨⟨⟨⟨a,b⟩,c⟩,d⟩,e⟩,f⟩):P:=h
theorem t54{P:Prop}(h:P:=by
 exact⟨rfl,jg.o.trans (lF.mono jg.o.size)⟩):P:=h
theorem t53{P:Prop}(h:P:=by
 exact⟨rfl,jg.o.trans (G6.mono jg.o.size)⟩):P:=h
theorem t24{P:Prop}(h:P:=by
 go_enter func7,ntmps7;go_wp2_with (first | (go_at_call 14;((with_reducible refine cS.mono ?_);clear cS;rintro e w2 ⟨rfl,aQ⟩;rw[hW.o] at aQ;obtain⟨⟨k2,_⟩,_⟩:=jU.o _ aQ;have z20:=k2.cell 0;have z21:=k2.cell 1;have z22:=k2.cell 2;have z23:=k2.cell 3;have z24:=k2.cell 4;clear k2)))
 exact t116):P:=h
namespace link
open Go.RowKit
open field (Gives aI ay)
open step (St Sp StL bV Rights bP Lists mW gU dI kY oO oQ)
open ak (Fm FmL forms aX aH)
set_option maxRecDepth 20000 in
theorem DT(s:Sp)(ta:Option Addr)(tc:Nat)(la:Option Addr)(lc:Nat)(w:World)(h:Lists w s ta la):
  Calls prog 35 #[zP s ta tc la lc] w (Gives (.bool (!decide s.Right)) w):=by
 have hb:=aI w (.cells (zP s ta tc la lc) 52);have cR:=step.dB s ta tc la lc (w.alloc (.cells (zP s ta tc la lc) 52)) (h.below hb);have HX:=hid (oQ s ta tc la lc w);obtain⟨r,hr⟩:∃r:Bool,Hid (decide s.Right=r):=⟨_,hid rfl⟩;rw[hr.o] at cR ⊢;unfold Gives at cR ⊢;clear h hb;go_enter func35,ntmps35;go_wp2_with (go_at_call 36;((with_reducible refine cR.mono ?_);rintro e w2 ⟨rfl,aQ⟩;have HB2:=hid (aX aQ)));go_ret;exact⟨rfl,HB2.o⟩
def xq(L:List Sp)(w:World)(e:Ending)(w':World):Prop:=∃k:Int,e=.returned (.int .i64 k)/\(0<=k↔¬Rights L)/\ -1<=k/\Below w.heap.size w w'
set_option maxRecDepth 20000 in
theorem Df(a:Option Addr)(c:Nat)(L:List St)(w:World)(h:StL w a L)(hL:L.length<=maxLen):
  Calls prog 60 #[.slice a L.length c,.func (.func 35) #[] #[]] w (xq (bV L) w):=by
 have hml:(L.length:Int)<=9223372036854775807:=by unfold maxLen at hL;omega
 unfold xq;have HF:=hid h;have qQ:=hid (dI L);clear h hL;go_enter func60,ntmps60;go_wp2;go_loopw [8] (fun n wr=>∃k:Nat,k<=L.length/\n=.int .i64 (k:Int)/\Hid (Rights ((bV L).take k))/\Hid (Below w.heap.size w wr)) (fun n _=>L.length - (intOf n).toNat);case atStart=>exact⟨0,Nat.zero_le _,rfl,hid (by intro q hq;simp at hq),hid (Below.refl _ _)⟩
 case round=>
  obtain⟨k,hk,rfl,nK,HB⟩:=hrel;by_cases bI:k<L.length
  ·obtain⟨b,off,p,rfl,jV,hp,xU,z0,z1,z2,z3,z4,z5,z6,z7,z8,z9,z10,z11,z12,z13,lm,lU⟩:=mW HF.o HB.o bI;have i1:(k:Int)<L.length:=by omega
   have iM:=hid (kY (gU hp));have oP:=hid (oO (gU hp));obtain⟨s,ta,tc,la,lc⟩:=p;simp only at z0 z1 z2 z3 z4 z5 z6 z7 z8 z9 z10 z11 z12 z13 lm lU xU iM oP;have cR:=DT s ta tc la lc wr xU;unfold Gives at cR;clear hp xU;by_cases hs:s.Right
   ·rw[decide_eq_true hs] at cR;have HS:=hid hs;clear hs;go_wp2_with (go_at_call 35;((with_reducible refine cR.mono ?_);rintro e w2 ⟨rfl,aQ⟩;have HB2:=hid aQ))
    exact t33
   ·rw[decide_eq_false hs] at cR;have HS:=hid hs;clear hs;go_wp2_with (go_at_call 35;((with_reducible refine cR.mono ?_);rintro e w2 ⟨rfl,aQ⟩;have HB2:=hid aQ));go_ret;exact⟨_,rfl,⟨fun _=>oP.o HS.o,fun _=>by omega⟩,by omega,HB.o.trans (HB2.o.mono HB.o.size)⟩
  ·obtain rfl:k=L.length:=by omega
   have mJ:Rights (bV L):=by have:=nK.o;rw[List.take_of_length_le (by rw[qQ.o];exact Nat.le_refl _)] at this;exact this
   have CP:=hid mJ;clear mJ;go_wp2;go_ret;exact⟨-1,rfl,⟨fun h=>absurd h om_,fun h=>absurd CP.o h⟩,by omega,HB.o⟩
theorem xA(a:Option Addr)(c:Nat)(L:List St)(w:World)(h:StL w a L)(hL:L.length<=maxLen):
  Calls prog 34 #[.slice a L.length c,.func (.func 35) #[] #[]] w (Gives (.bool (!decide (Rights (bV L)))) w):=by
 have cI:=Df a c L w h hL;unfold xq at cI;obtain⟨r,hr⟩:∃r:Bool,Hid ((!decide (Rights (bV L)))=r):=⟨_,hid rfl⟩;have HK:Hid (∀k:Int,(0<=k↔¬Rights (bV L))->decide (k≥0)=r):=hid fun k hk=>by
  rw[<-hr.o];by_cases hq:Rights (bV L)
  ·rw[decide_eq_true hq,decide_eq_false (fun h0=>(hk.1 h0) hq)];rfl
  ·rw[decide_eq_false hq,decide_eq_true (hk.2 hq)];rfl
 rw[hr.o];unfold Gives;clear h hL;go_enter func34,ntmps34;go_wp2_with (go_at_call 60;((with_reducible refine cI.mono ?_);rintro e w2 ⟨k,rfl,hk,kz,aQ⟩;have X0:=HK.o k hk;clear hk));go_ret;exact⟨rfl,aQ⟩
theorem kJ(a:Option Addr)(c:Nat)(L:List St)(w:World)(h:StL w a L)(hL:L.length<=maxLen):
  Calls prog 15 #[.slice a L.length c] w (Gives (.bool (decide (bP (bV L)=0))) w):=by
 have hml:(L.length:Int)<=9223372036854775807:=by unfold maxLen at hL;omega
 by_cases DX:L.length<=40
 ·have cC:=xA a c L w h hL;have hd:decide ((L.length:Int)<=40)=true:=decide_eq_true om_;have i1:(L.length:Int)<=40:=by omega
  rw[show decide (bP (bV L)=0)=decide (Rights (bV L)) from decide_eq_decide.2 ⟨fun h=>(jP h).2,fun h=>Bg (by rw[dI];exact DX) h⟩];generalize decide (Rights (bV L))=r at *;unfold Gives at cC ⊢;clear h hL DX;go_enter func15,ntmps15;go_wp2_with (go_at_call 34;((with_reducible refine cC.mono ?_);rintro e w2 ⟨rfl,aQ⟩));go_ret;exact⟨by simp,aQ⟩
 ·have hd:decide ((L.length:Int)<=40)=false:=decide_eq_false om_;have i1:¬(L.length:Int)<=40:=by omega
  rw[decide_eq_false (fun h:bP (bV L)=0=>DX (by have:=(jP h).1;rw[dI] at this;exact this))];unfold Gives;clear h hL DX;go_enter func15,ntmps15
  exact t12
structure LkM (w:World) (fa:Option Addr) (F:List Fm) (oa:Option Addr) (O:List St) (ba:Option Addr) (B:List St):Prop where
 f:FmL w fa F
 o:StL w oa O
 b:StL w ba B
 lf:F.length<=maxLen
 lo:O.length<=maxLen
 lb:B.length<=maxLen
theorem LkM.below{w w':World}{fa:Option Addr}{F:List Fm}{oa:Option Addr}{O:List St}{ba:Option Addr}{B:List St}(h:LkM w fa F oa O ba B)(hb:Below w.heap.size w w'):LkM w' fa F oa O ba B:=
 ⟨h.f.below hb,h.o.below hb,h.b.below hb,h.lf,h.lo,h.lb⟩
theorem LkM.nil(w:World):LkM w none [] none [] none []:=⟨⟨.inl rfl,by simp⟩,.nil w,.nil w,Nat.zero_le _,Nat.zero_le _,Nat.zero_le _⟩
set_option maxRecDepth 20000 in
theorem dB(n v:Int)(fa:Option Addr)(fc:Nat)(F:List Fm)(oa:Option Addr)(oc:Nat)(O:List St)(ba:Option Addr)(bc:Nat)(B:List St)(w:World)(h:LkM w fa F oa O ba B):
  Calls prog 7 #[.agg #[.int .i64 n,.int .i64 v,.slice fa F.length fc,.slice oa O.length oc,.slice ba B.length bc]] w (Gives (.bool (decide (Right n v (forms F) (bV O) (bV B)))) w):=by
 obtain⟨W0,hW,bW,hsz,jU⟩:=fH w [(27,[.int .i64 n,.int .i64 v,.slice fa F.length fc,.slice oa O.length oc,.slice ba B.length bc])];simp only[boxes] at hW;have h0:=h.below bW;have cS:=ak.dB v fa fc F W0 h0.f h0.lf;have cO:=fun w' (hb:Below W0.heap.size W0 w')=>kJ oa oc O w' (h0.o.below hb) h0.lo
 have cB:=fun w' (hb:Below W0.heap.size W0 w')=>kJ ba bc B w' (h0.b.below hb) h0.lb
 obtain⟨r,hr⟩:∃r:Bool,Hid (decide (Right n v (forms F) (bV O) (bV B))=r):=⟨_,hid rfl⟩;have HR:Hid (r=(decide (1<=n) && decide (n<=65535) && decide (ak.Right v (forms F)) && (v != n) && decide (bP (bV O)=0) && decide (bP (bV B)=0))):=hid (by
  rw[<-hr.o,Bool.eq_iff_iff];simp only[decide_eq_true_eq,Bool.and_eq_true,bne_iff_ne,ne_eq];unfold Right;constructor
  ·exact t84
  ·rintro⟨⟨⟨⟨⟨a,b⟩,c⟩,d⟩,e⟩,f⟩;exact⟨⟨a,b⟩,c,d,e,f⟩)
 rw[hr.o];have jg:=hid bW;have yu:=hid bW;rw[<-hW.o] at cS yu;generalize decide (ak.Right v (forms F))=sr at *;generalize decide (bP (bV O)=0)=so at *;generalize decide (bP (bV B)=0)=sb at *;unfold Gives at cS cO cB ⊢;clear h h0 bW hr;by_cases h1:1<=n
 ·have d1:decide (1<=n)=true:=decide_eq_true h1;by_cases h2:n<=65535
  ·have d2:decide (n<=65535)=true:=decide_eq_true h2;cases sr with
   | true=>
    by_cases h3:v=n
    ·have d3:(v != n)=false:=by simp[h3]
     clear h3;obtain rfl:r=false:=by rw[HR.o,d3];simp
     exact t24
    ·have d3:(v != n)=true:=by simp[h3]
     cases so with
     | true=>
      obtain rfl:r=sb:=by rw[HR.o,d1,d2,d3];simp
      go_enter func7,ntmps7;go_wp2_with (first | (go_at_call 14;((with_reducible refine cS.mono ?_);clear cS;rintro e w2 ⟨rfl,aQ⟩;rw[hW.o] at aQ;obtain⟨⟨k2,_⟩,_⟩:=jU.o _ aQ;have z20:=k2.cell 0;have z21:=k2.cell 1;have z22:=k2.cell 2;have z23:=k2.cell 3;have z24:=k2.cell 4;clear k2)) | (go_at_call 15;((with_reducible refine(cO _ aQ).mono ?_);clear cO;rintro e w3 ⟨rfl,fD⟩;have lF:=aQ.trans (fD.mono aQ.size);obtain⟨⟨k3,_⟩,_⟩:=jU.o _ lF;have z30:=k3.cell 0;have z31:=k3.cell 1;have z32:=k3.cell 2;have z33:=k3.cell 3;have z34:=k3.cell 4;clear k3)) | (go_at_call 15;((with_reducible refine(cB _ lF).mono ?_);clear cB;rintro e w4 ⟨rfl,ku⟩;have G6:=lF.trans (ku.mono lF.size))));go_ret
      exact t53
     | false=>
      obtain rfl:r=false:=by rw[HR.o];simp
      go_enter func7,ntmps7;go_wp2_with (first | (go_at_call 14;((with_reducible refine cS.mono ?_);clear cS;rintro e w2 ⟨rfl,aQ⟩;rw[hW.o] at aQ;obtain⟨⟨k2,_⟩,_⟩:=jU.o _ aQ;have z20:=k2.cell 0;have z21:=k2.cell 1;have z22:=k2.cell 2;have z23:=k2.cell 3;have z24:=k2.cell 4;clear k2)) | (go_at_call 15;((with_reducible refine(cO _ aQ).mono ?_);clear cO;rintro e w3 ⟨rfl,fD⟩;have lF:=aQ.trans (fD.mono aQ.size);obtain⟨⟨k3,_⟩,_⟩:=jU.o _ lF;have z30:=k3.cell 0;have z31:=k3.cell 1;have z32:=k3.cell 2;have z33:=k3.cell 3;have z34:=k3.cell 4;clear k3)));go_ret
      exact t54
   | false=>
    obtain rfl:r=false:=by rw[HR.o];simp
    exact t24
  ·have d2:decide (n<=65535)=false:=decide_eq_false h2;obtain rfl:r=false:=by rw[HR.o,d2];simp
   exact t98
 ·have d1:decide (1<=n)=false:=decide_eq_false h1;obtain rfl:r=false:=by rw[HR.o,d1];simp
  exact t98
end link
namespace step
open Go.RowKit pen
open field (aI)
open ak (eP)
set_option maxRecDepth 20000 in
set_option maxHeartbeats 3200000 in
theorem parse_any(a:Option Addr)(c:Nat)(xs:List Nat)(w:World)(hr:Reads .u8 w a xs.length xs)(hx:∀c∈xs,c<256)(hl:xs.length<=140737488355328):
  Calls prog 30 #[.slice a xs.length c] w (fG xs w):=by
 obtain⟨N,e1,hN⟩:∃N q,au 40 (xs,0)=(N,q):=⟨_,_,rfl⟩;have OL:N<=40:=by have:=eP 40 (xs,0);rw[show((40:Nat):Int)=40 from rfl,hN] at this;exact this
 have HP:Hid (parsed xs=(if gI (bU N e1).2≠0 then([],gI (bU N e1).2) else if Rights (bU N e1).1 then((bU N e1).1,0) else([],2))):=hid (by
  have h3:jm xs=bU N e1:=by unfold jm;rw[hN]
  unfold parsed;rw[h3])
 have c0:=AX a c xs w hr hx hl;have c1:=fun b w' hE=>aS b (xs,0) w' hE 40 om_ om_
 rw[hN] at c1;clear hN hr hx hl;simp only at c1;unfold Saw at c1;go_enter func30,ntmps30;go_wp2_with (first
  | (go_at_call 51;((with_reducible refine c0.mono ?_);clear c0;rintro en w1 ⟨b,rfl,D6,hE1,hu1⟩))
  | (go_at_call 52;((with_reducible refine(c1 b w1 hE1).mono ?_);clear c1;rintro en w2 ⟨rfl,hE2,hu2⟩;have Iy:=hid (LS.start hE2))))
 have HB2:=hid (show Below w.heap.size w w2 from hu1.trans ((hu2.mono hu1.size).below (Nat.le_refl _) D6));have Tv:=hid D6;obtain⟨B,hB⟩:∃B,Hid (w2.heap.size=B):=⟨_,hid rfl⟩;rw[hB.o] at Iy;have Sm:=hid (show w.heap.size<=B by rw[<-hB.o];exact HB2.o.size);clear hu1 hu2 hE1 hE2 D6;go_loopw [5,11] (fun l m wr=>∃k:Nat,k<=N/\m=.int .i64 (k:Int)/\∃(ua:Option Addr) (uc:Nat),l=.slice ua k uc/\Hid (∃P,P.length=k/\bV P=(bU k e1).1/\LS 112 b B w2 P (bU k e1).2 ua uc wr)) (fun _ m _=>N - (intOf m).toNat);case atStart=>exact⟨0,Nat.zero_le _,rfl,none,0,rfl,hid ⟨[],rfl,rfl,Iy.o⟩⟩
 case round=>
  obtain⟨k,hk,rfl,ua,uc,rfl,HS⟩:=hrel;obtain⟨P,Gw,O6,hS⟩:=HS.o;by_cases hlt2:k<N
  ·have i1:(k:Int)<N:=by omega
   obtain⟨p0,e4,hp⟩:∃p q,jS (bU k e1).2=(p,q):=⟨_,_,rfl⟩;have HT1:Hid ((bU (k+1) e1).1=(bU k e1).1++[p0]):=hid (by rw[bU,hp]);have HT2:Hid ((bU (k+1) e1).2=e4):=hid (by rw[bU,hp]);have cP:=fun w' hE=>wu b (bU k e1).2 w' hE
   unfold A7 at cP;rw[hp] at cP;clear hp HS Iy;have NZ:=hid O6;have BQ:=hid Gw;clear O6 Gw;generalize (bU k e1).1=L at *;generalize (bU k e1).2=sk at *;have I5:=hid hS;clear hS;go_upto_region 5 with fail
   refine plan.line ?_;refine plan.af 0 _ (.slice ua k uc) rfl ?_;refine plan.af 1 _ (.pointer (some ⟨b,0,none⟩)) rfl ?_;refine plan.oJ 2 _ 56 #[.pointer (some ⟨b,0,none⟩)] rfl kr_ kr_ ((cP _ I5.o.eye).mono ?_);rintro en w3 ⟨p,rfl,Ob,SV,rQ,hu3⟩;refine⟨_,rfl, ?_⟩;have ny:=I5.o.call rQ hu3;have hO3:=SV.low I5.o.size;obtain⟨s,ta,tc,la,lc⟩:=p;have hN3:=aI w3 (.cells (zP s ta tc la lc) 52);have kK:=ny.later hN3;have hO4:=hO3.later hN3;have TN:=hid hO4;have TR:Hid (s=p0):=hid Ob;refine plan.kL (w1:=w3.alloc (.cells (zP s ta tc la lc) 52)) 3 _ (.slice (some ⟨w3.heap.size,0,none⟩) 1 1) rfl kr_ ?_;have qE:=kK.row;rw[BQ.o] at qE;refine plan.EW 4 _ (fun q w5=>w5.ownsRow B 52 16 q (k+1) (stV (P++[⟨s,ta,tc,la,lc⟩]))/\(w3.alloc (.cells (zP s ta tc la lc) 52)).grownBy w5 (Value.slice ua k uc).ownBlock) rfl
    (xG (L:=P) (p:=⟨s,ta,tc,la,lc⟩) (g:=w3.heap.size) rfl qE (Block.new w3 52 (zP s ta tc la lc)) om_ kK.size) ?_
   rintro q w5 ⟨uy,hg5⟩;obtain⟨qa,qc,rfl,_⟩:=aP uy;have nU:=kK.push (p:=⟨s,ta,tc,la,lc⟩) (q:=qa) (qc:=qc) TN.o (by rw[BQ.o];exact hg5) (by rw[BQ.o];exact uy);refine plan.af 5 _ (.slice qa (k+1) qc) rfl ?_;refine plan.aK de_ ?_;have yw:=hid nU;clear nU uy hg5 kK ny hO3 hO4 hN3 qE Ob SV rQ hu3;walk_nrm;go_wp2;exact⟨⟨k+1,by omega,by go_num,qa,qc,rfl,hid ⟨P++[⟨s,ta,tc,la,lc⟩],by simp[BQ.o],by rw[HT1.o,<-NZ.o,<-TR.o];simp[bV],by rw[HT2.o];exact yw.o⟩⟩,by simp[intOf];omega⟩
  ·obtain rfl:k=N:=by omega
   have D7:w.heap.size<=b:=Tv.o;have jg:=hid (show Below w.heap.size w wr from HB2.o.trans (hS.but.below Sm.o D7));have DW:=hid hS;have BQ:=hid Gw;have NZ:=hid O6;have cE:Calls prog 54 #[.pointer (some ⟨b,0,none⟩)] wr (field.Gives (.int .i64 (gI (bU k e1).2:Int)) wr):=(xB b _ wr hS.eye).mono (by rintro e w' ⟨rfl,m,rfl⟩;exact⟨rfl,below_drewN (Below.refl _ _) m⟩);unfold field.Gives at cE;clear HS hS Gw O6 Iy;by_cases hE:gI (bU k e1).2=0
   ·rw[hE] at cE;have HP2:=HP.o;rw[if_neg (by rw[hE];simp)] at HP2;have HP2:=hid HP2;have cR:=fun w' (hb:Below wr.heap.size wr w')=>lV ua uc P w' (DW.o.list.below hb) (by have:=BQ.o;unfold maxLen;omega)
    rw[BQ.o,NZ.o] at cR;unfold field.Gives at cR;have hN0:(((0:Nat):Int) == 0)=true:=rfl;clear HP hE;by_cases mJ:Rights (bU k e1).1
    ·have FY:Hid (parsed xs=((bU k e1).1,0)):=hid (by rw[HP2.o,if_pos mJ]);simp only[decide_eq_true mJ] at cR;clear HP2 mJ;go_wp2_with (first
      | (go_at_call 54;((with_reducible refine cE.mono ?_);rintro en w5 ⟨rfl,jq⟩))
      | (go_at_call 57;((with_reducible refine(cR _ jq).mono ?_);rintro en w6 ⟨rfl,pU⟩)))
     go_ret2;refine⟨ua,uc,P,by rw[BQ.o,FY.o];rfl,by rw[FY.o];exact NZ.o,((DW.o.upon Sm.o).after jq).after pU,by rw[BQ.o];exact OL,(jg.o.trans (jq.mono jg.o.size)).trans (pU.mono (Nat.le_trans jg.o.size jq.size))⟩
    ·have FY:Hid (parsed xs=([],2)):=hid (by rw[HP2.o,if_neg mJ]);simp only[decide_eq_false mJ] at cR;clear HP2 mJ;go_wp2_with (first
      | (go_at_call 54;((with_reducible refine cE.mono ?_);rintro en w5 ⟨rfl,jq⟩))
      | (go_at_call 57;((with_reducible refine(cR _ jq).mono ?_);rintro en w6 ⟨rfl,pU⟩)))
     go_ret2;exact kM FY.o ((jg.o.trans (jq.mono jg.o.size)).trans (pU.mono (Nat.le_trans jg.o.size jq.size)))
   ·have HP2:Hid (parsed xs=([],gI (bU k e1).2)):=hid (by rw[HP.o,if_pos hE]);have dR:((gI (bU k e1).2:Int) == 0)=false:=by rw[beq_eq_false_iff_ne];omega
    have qC:((gI (bU k e1).2:Int) != 0)=true:=by simp[hE]
    generalize gI (bU k e1).2=E at *;clear HP hE;go_wp2_with (go_at_call 54;((with_reducible refine cE.mono ?_);rintro en w5 ⟨rfl,jq⟩));go_ret2;exact kM HP2.o (jg.o.trans (jq.mono jg.o.size))
end step
namespace step
open Go.RowKit pen
open field (bytesOf pJ)
def I8(PL:List Sp)(Z:Int)(w:World)(en:Ending)(w':World):Prop:=
 ∃(a:Option Addr) (c:Nat) (P:List St),en=.returned (.tuple #[.slice a P.length c,.int .i64 Z])/\bV P=PL/\Upon w.heap.size w' (fun v=>StL v a P)/\P.length<=40/\Below w.heap.size w w'
theorem oM{a:Option Addr}{c:Nat}{xs:List Nat}{w:World}(hr:Reads .u8 w a xs.length xs)(hx:∀c∈xs,c<256)(hl:xs.length<=140737488355328){P:List Sp}{E:Nat}(Z:Int)(hz:Z=(E:Int))(hP:parsed xs=(P,E)):
  Calls prog 30 #[.slice a xs.length c] w (I8 P Z w):=by
 have h:=parse_any a c xs w hr hx hl;unfold fG at h;rw[hP] at h;rw[hz];exact h
theorem GX(s:Sp)(q:UInt8):∀c∈s.ja q,c<256:=by
 have hf:∀f:field.Fd,∀c∈fZ f,c<256:=by
  intro f c hc;unfold fZ at hc;simp only[List.mem_append] at hc;rcases hc with (((h | h) | h) | h) | h <;> exact iw _ c h
 intro c hc;unfold Sp.ja at hc;split at hc
 ·exact iw _ c hc
 split at hc
 ·exact iw _ c hc
 split at hc
 ·exact iw _ c hc
 split at hc
 ·exact iw _ c hc
 split at hc
 ·exact iw _ c hc
 split at hc
 ·rcases List.mem_append.1 hc with h | h <;> exact iw _ c h
 split at hc
 ·exact hf _ c hc
 split at hc
 ·rcases List.mem_append.1 hc with h | h
  ·exact iw _ c h
  ·rcases List.mem_append.1 h with h | h
   ·exact iw _ c h
   ·exact pJ _ c h
 split at hc
 ·rcases List.mem_append.1 hc with h | h
  ·exact iw _ c h
  ·unfold fP at h;obtain⟨l,hl,h⟩:=List.mem_flatten.1 h;obtain⟨n,_,rfl⟩:=List.mem_map.1 hl;exact iw _ c h
 ·rcases List.mem_append.1 hc with h | h
  ·exact iw _ c h
  ·unfold dF at h;obtain⟨l,hl,h⟩:=List.mem_flatten.1 h;obtain⟨n,_,rfl⟩:=List.mem_map.1 hl;exact hf _ c h
theorem FO(s:Sp):∀c∈s.iL,c<256:=by
 intro c hc;unfold Sp.iL at hc;rcases List.mem_append.1 hc with h | h
 ·exact iw _ c h
 ·obtain⟨l,hl,h⟩:=List.mem_flatten.1 h;obtain⟨n,_,rfl⟩:=List.mem_map.1 hl;exact GX s n c h
theorem nY(L:List Sp):∀c∈dZ L,c<256:=by
 intro c hc;unfold dZ at hc;rcases List.mem_append.1 hc with h | h
 ·exact iw _ c h
 ·obtain⟨l,hl,h⟩:=List.mem_flatten.1 h;obtain⟨n,_,rfl⟩:=List.mem_map.1 hl;exact FO n c h
theorem xZ{L:List Sp}(h:bP L=0):L.length<=40/\Rights L:=by
 unfold bP at h;by_cases h1:40<L.length
 ·rw[if_pos h1] at h;cases h
 ·rw[if_neg h1] at h;by_cases h2:Rights L
  ·exact⟨by omega,h2⟩
  ·rw[if_neg h2] at h;cases h
theorem uQ(a:Option Addr)(c:Nat)(L:List St)(w:World)(h:StL w a L)(hE:bP (bV L)=0):
  Calls prog 48 #[.slice a L.length c] w (pen.Gives (dZ (bV L)) 0 w):=by
 obtain⟨h1,h2⟩:=xZ hE;exact je a c L w h (by rw[<-dI];exact h1) h2
end step
namespace link
open Go.RowKit pen
open field (Gives aI bytesOf iy gX)
open step (St Sp StL bV bP dZ)
open ak (Fm FmL forms dM PS)
def pI(B:Nat)(w:World)(u:Value)(xs:List Nat):Prop:=w.ownsRow B 5 1 u xs.length (u8v xs)
theorem pI.later{B:Nat}{w w':World}{u:Value}{xs:List Nat}(h:pI B w u xs)(hb:Below w.heap.size w w'):pI B w' u xs:=dL h hb
theorem pI.after{B S o:Nat}{w:World}{u v:Value}{xs:List Nat}(h:pI B w u xs)(hS:S<B):pI B (w.setCell ⟨S,o,none⟩ v) u xs:=
 bM h (fun g hg=>Below.heap_setCell w ⟨S,o,none⟩ v g (by have:=(World.ownsRow.lt h g hg).1;show g≠S;omega))
def Parts(xs ys zs:List Nat)(w:World)(e:Ending)(w':World):Prop:=∃u1 u2 u3,e=.returned (.agg #[u1,u2,u3])/\pI w.heap.size w' u1 xs/\pI w.heap.size w' u2 ys/\pI w.heap.size w' u3 zs/\Below w.heap.size w w'
theorem info3:(prog.info? 58).map (·.size)=some 3:=by kernel_rfl
set_option maxRecDepth 20000 in
theorem Dn(n v:Int)(fa:Option Addr)(fc:Nat)(F:List Fm)(oa:Option Addr)(oc:Nat)(O:List St)(ba:Option Addr)(bc:Nat)(B:List St)(w:World)(h:LkM w fa F oa O ba B)(hs:ak.Right v (forms F))(hO:bP (bV O)=0)(hB:bP (bV B)=0):
  Calls prog 25 #[.agg #[.int .i64 n,.int .i64 v,.slice fa F.length fc,.slice oa O.length oc,.slice ba B.length bc]] w (Parts (ak.dU v (forms F)) (dZ (bV O)) (dZ (bV B)) w):=by
 obtain⟨W0,hW,bW,hsz,jU⟩:=fH w [(27,[.int .i64 n,.int .i64 v,.slice fa F.length fc,.slice oa O.length oc,.slice ba B.length bc]),(58,[.slice none 0 0,.slice none 0 0,.slice none 0 0]),(58,[.slice none 0 0,.slice none 0 0,.slice none 0 0])];simp only[boxes] at hW;have h0:=h.below bW;have c1:=ak.je v fa fc F W0 h0.f hs;have c2:=fun w' (hb:Below w.heap.size w w')=>step.uQ oa oc O w' (h.o.below hb) hO
 have c3:=fun w' (hb:Below w.heap.size w w')=>step.uQ ba bc B w' (h.b.below hb) hB
 generalize ak.dU v (forms F)=xs at *;generalize dZ (bV O)=ys at *;generalize dZ (bV B)=zs at *;have jg:=hid bW;rw[<-hW.o] at c1;unfold pen.Gives at c1 c2 c3;unfold Parts;clear h h0 bW hs hO hB;go_enter func25,ntmps25;have oD:Hid (W0.heap.size=w.heap.size+3):=hid hsz.o;go_wp2_with (first
  | (go_at_call 47;((with_reducible refine c1.mono ?_);clear c1;rintro e w1 ⟨u1,rfl,o1,b1⟩;rw[hW.o] at b1 o1;obtain⟨⟨K0,K1,K2,_⟩,q1⟩:=jU.o _ b1;obtain⟨a1,d1,rfl,_⟩:=aP o1;have x12:=K0.cell 3;have Ny:=K0.cell 4;have Ir:=K2.cell 0;have g10:=K2.frozen 0;have s1:=q1.setCell (p:=⟨w.heap.size+1+1,0,none⟩) (by show w.heap.size<=w.heap.size+1+1;omega) (.slice a1 xs.length d1)))
  | (go_at_call 48;((with_reducible refine(c2 _ s1).mono ?_);clear c2;rintro e w2 ⟨u2,rfl,o2,b2⟩;have q2:=s1.trans (b2.mono s1.size);have Sr:=(K0.apart (w.heap.size+1+1) 0 (.slice a1 xs.length d1) om_).later b2;have K22:=(K2.setCell 0 (.slice a1 xs.length d1)).later b2;have U1:=(K1.apart (w.heap.size+1+1) 0 (.slice a1 xs.length d1) om_).later b2;have UZ:=(pI.after (o:=0) (v:=.slice a1 xs.length d1) o1 (show w.heap.size+1+1<W0.heap.size by rw[oD.o];omega)).later b2;obtain⟨a2,d2,rfl,_⟩:=aP o2;have x23:=Sr.cell 4;have y21:=K22.cell 1;have g21:=K22.frozen 1;have s2:=q2.setCell (p:=⟨w.heap.size+1+1,1,none⟩) (by show w.heap.size<=w.heap.size+1+1;omega) (.slice a2 ys.length d2)))
  | (go_at_call 48;((with_reducible refine(c3 _ s2).mono ?_);clear c3;rintro e w3 ⟨u3,rfl,o3,b3⟩;have q3:=s2.trans (b3.mono s2.size);have WI:=(Sr.apart (w.heap.size+1+1) 1 (.slice a2 ys.length d2) om_).later b3;have O4:=(K22.setCell 1 (.slice a2 ys.length d2)).later b3;have IK:=(U1.apart (w.heap.size+1+1) 1 (.slice a2 ys.length d2) om_).later b3;obtain⟨a3,d3,rfl,_⟩:=aP o3;have y32:=O4.cell 2;have WL:=O4.frozen 2;have Tt:=O4.cell 0;have y31:=O4.cell 1;have t30:=IK.cell 0;have t31:=IK.cell 1;have t32:=IK.cell 2;have Xj:=IK.frozen 0;have Xk:=IK.frozen 1;have r32:=IK.frozen 2)))
 have l2:=dM o2 (B':=W0.heap.size) (by simpa using b1.size);have l3:=dM o3 (B':=W0.heap.size) (by have e1:=b1.size;have e2:=b2.size;simp at e1 e2 ⊢;omega);have bI:w.heap.size+1+1<W0.heap.size:=by rw[oD.o];omega
 have qY:w.heap.size+1<W0.heap.size:=by omega
 have hR:=(((IK.apart (w.heap.size+1+1) 2 (.slice a3 zs.length d3) om_).setCell 0 (.slice a1 xs.length d1)).setCell 1 (.slice a2 ys.length d2)).setCell 2 (.slice a3 zs.length d3);have P1:=(((((pI.after (o:=1) (v:=.slice a2 ys.length d2) UZ bI).later b3).after (o:=2) (v:=.slice a3 zs.length d3) bI).after (o:=0) (v:=.slice a1 xs.length d1) qY).after (o:=1) (v:=.slice a2 ys.length d2) qY).after (o:=2) (v:=.slice a3 zs.length d3) qY;have P2:=(((((pI.after (o:=1) (v:=.slice a2 ys.length d2) l2 bI).later b3).after (o:=2) (v:=.slice a3 zs.length d3) bI).after (o:=0) (v:=.slice a1 xs.length d1) qY).after (o:=1) (v:=.slice a2 ys.length d2) qY).after (o:=2) (v:=.slice a3 zs.length d3) qY;have P3:=(((pI.after (o:=2) (v:=.slice a3 zs.length d3) l3 bI).after (o:=0) (v:=.slice a1 xs.length d1) qY).after (o:=1) (v:=.slice a2 ys.length d2) qY).after (o:=2) (v:=.slice a3 zs.length d3) qY;have Ap:w.heap.size<=W0.heap.size:=by omega
 exact bodyPost_ret (fU (b:=w.heap.size+1) (o:=0) rfl rfl hR.whole underlying58 rfl info3) rfl
  ⟨_,_,_,rfl,dM P1 Ap,dM P2 Ap,dM P3 Ap,(((q3.setCell (p:=⟨w.heap.size+1+1,2,none⟩) (by show w.heap.size<=w.heap.size+1+1;omega) _).setCell (p:=⟨w.heap.size+1,0,none⟩) (by show w.heap.size<=w.heap.size+1;omega) _).setCell (p:=⟨w.heap.size+1,1,none⟩) (by show w.heap.size<=w.heap.size+1;omega) _).setCell (p:=⟨w.heap.size+1,2,none⟩) (by show w.heap.size<=w.heap.size+1;omega) _⟩
theorem lT{g:Nat}{w1:World}{X:List Nat}{v:Value}{w:World}(h:PS g w1 X v w)(xs:List Nat)(hx:∀x∈xs,x<256)(hl:xs.length<=300000)(hn:X.length<=1000000):
  Calls prog 26 #[.pointer (some ⟨g,0,none⟩),.string (strOf xs)] w fun e w'=>e=.returned (.tuple #[])/\∃v',PS g w1 (X++iq xs) v' w'/\Turns w g v w' v':=by
 have hz:(strOf xs).data.toList.length=xs.length:=by rw[Array.length_toList];exact gX xs
 have c:=zN g g v X 0 w h.1 h.2.2 (strOf xs).data.toList om_ om_;rw[texts.CG,hz] at c;refine c.mono ?_;rintro e w' ⟨he,v',hp,ht⟩;have hb:nums (strOf xs).data.toList=xs:=iy hx;rw[hb] at hp;exact⟨he,v',h.step hp ht,ht⟩
def Part(w:World)(g:Nat)(v u:Value)(xs:List Nat):Prop:=(∃B,pI B w u xs)/\∀k,u.ownBlock=some k->k≠g/\v.ownBlock≠some k
theorem Part.turn{w w':World}{g:Nat}{v v' u:Value}{xs:List Nat}(h:Part w g v u xs)(ht:Turns w g v w' v'):Part w' g v' u xs:=by
 obtain⟨⟨B,hB⟩,hk⟩:=h;refine⟨⟨B,bM hB fun k hq=>ht.block k (World.ownsRow.lt hB k hq).2 (hk k hq).1 (fun e=>(hk k hq).2 e.symm)⟩,fun k hq=>⟨(hk k hq).1,fun e=> ?_⟩⟩;rcases ht.moved with m | ⟨g',m,hg⟩
 ·exact(hk k hq).2 (m.symm.trans e)
 ·have:=(World.ownsRow.lt hB k hq).2;have e2:g'=k:=Option.some.inj (m.symm.trans e);omega
end link
namespace link
open Go.RowKit pen
open field (Gives aI bytesOf iy gX)
open step (St Sp StL bV bP dZ nY dG)
open ak (Fm FmL forms dM PS pX)
theorem Np(a b c:Option Addr)(l m n i j k:Nat)(w:World):(Instr.index 58 (.agg #[.slice a l i,.slice b m j,.slice c n k]) (.int .i64 0)).run prog w=.ok (.slice a l i) w:=by kernel_rfl
theorem Nq(a b c:Option Addr)(l m n i j k:Nat)(w:World):(Instr.index 58 (.agg #[.slice a l i,.slice b m j,.slice c n k]) (.int .i64 1)).run prog w=.ok (.slice b m j) w:=by kernel_rfl
theorem Nr(a b c:Option Addr)(l m n i j k:Nat)(w:World):(Instr.index 58 (.agg #[.slice a l i,.slice b m j,.slice c n k]) (.int .i64 2)).run prog w=.ok (.slice c n k) w:=by kernel_rfl
set_option maxRecDepth 20000 in
set_option maxHeartbeats 3200000 in
theorem je(n v:Int)(fa:Option Addr)(fc:Nat)(F:List Fm)(oa:Option Addr)(oc:Nat)(O:List St)(ba:Option Addr)(bc:Nat)(B:List St)(w:World)(h:LkM w fa F oa O ba B)(hr:Right n v (forms F) (bV O) (bV B)):
  Calls prog 11 #[.agg #[.int .i64 n,.int .i64 v,.slice fa F.length fc,.slice oa O.length oc,.slice ba B.length bc]] w (pen.Gives (jk n v (forms F) (bV O) (bV B)) 0 w):=by
 obtain⟨W0,hW,bW,hsz,jU⟩:=fH w [(27,[.int .i64 n,.int .i64 v,.slice fa F.length fc,.slice oa O.length oc,.slice ba B.length bc])];simp only[boxes] at hW;have cR:=dB n v fa fc F oa oc O ba bc B W0 (h.below bW);rw[decide_eq_true hr] at cR;have cP:=fun w' (hb:Below w.heap.size w w')=>Dn n v fa fc F oa oc O ba bc B w' (h.below hb) hr.2.1 hr.2.2.2.1 hr.2.2.2.2
 have hn:=hr.1;have k1:=pX v (forms F);have k2:=nY (bV O);have k3:=nY (bV B);have l1:=mQ hr.2.1;have l2:=jC hr.2.2.2.1;have l3:=jC hr.2.2.2.2;unfold jk;generalize ak.dU v (forms F)=xs at *;generalize dZ (bV O)=ys at *;generalize dZ (bV B)=zs at *;have ln:=aT n.toNat om_;have jg:=hid bW;have oD:Hid (W0.heap.size=w.heap.size+1):=hid hsz.o;rw[<-hW.o] at cR;unfold field.Gives at cR;unfold Parts at cP;clear h hr bW;go_enter func11,ntmps11;go_wp2_with (first
  | (go_at_call 7;((with_reducible refine cR.mono ?_);clear cR;rintro e w1 ⟨rfl,bQ⟩;rw[hW.o] at bQ;obtain⟨⟨K1,_⟩,q1⟩:=jU.o _ bQ))
  | (go_at_call 23;((with_reducible refine(new_any w1).mono ?_);rintro e w2 ⟨rfl,nM,aQ⟩;have uq:PS w1.heap.size w1 [] (.slice none 0 0) w2:=⟨nM,aQ,aQ.size⟩;have x20:=(K1.later aQ).cell 0))
  | (go_at_call 24;((with_reducible refine(dG uq n om_ om_ si_).mono ?_);rintro e w3 ⟨rfl,v3,ny,_⟩;have K3:=K1.below ny.2.1 K1.lt;have x30:=K3.cell 0;have x31:=K3.cell 1;have x32:=K3.cell 2;have Vu:=K3.cell 3;have x34:=K3.cell 4;have q3:=q1.trans (ny.2.1.mono q1.size)))
  | (go_at_call 25;((with_reducible refine(cP _ q3).mono ?_);clear cP;rintro e w4 ⟨u1,u2,u3,rfl,o1,o2,o3,ku⟩)))
 obtain⟨a1,d1,rfl,_⟩:=aP o1;obtain⟨a2,d2,rfl,_⟩:=aP o2;obtain⟨a3,d3,rfl,_⟩:=aP o3;have hgl:=ny.1.1.lt;have hvl:=ny.1.lo;have TU:=hid (ny.later ku);have mk:∀(u:Value) (l:List Nat),pI w3.heap.size w4 u l->Part w4 w1.heap.size v3 u l:=fun u l o=>⟨⟨_,o⟩,fun k hk=>by
  have h1:=World.ownsRow.lt o k hk;exact⟨by omega,fun e=>by have:=(hvl k e).2;omega⟩⟩
 have HP2:=hid (mk _ _ o2);have FY:=hid (mk _ _ o3);have WG:=hid (q3.trans (ku.mono q3.size));have OC:=hid q1;have qQ:=hid ln;have L1:=hid l1;have L2:=hid l2;have L3:=hid l3;have hc1:=Reads.str (P:=prog) (Reads.own o1) 31 5 underlying31 underlying5 d1 9 underlying9;clear mk x20 x30 x31 x32 Vu x34 K1 K3 uq nM aQ ny ku bQ o2 o3 hgl hvl q3 q1 jU hW oD jg hsz ln l1 l2 l3;have i0:=Np a1 a2 a3 xs.length ys.length zs.length d1 d2 d3;have i1:=Nq a1 a2 a3 xs.length ys.length zs.length d1 d2 d3;have i2:=Nr a1 a2 a3 xs.length ys.length zs.length d1 d2 d3;refine wp_loop_rounds 4 ?_;rw[rounds_succ];go_wp2_with (go_at_call 26;((with_reducible refine(lT TU.o xs k1 (by have:=L1.o;omega) (by have:=qQ.o;simp;omega)).mono ?_);rintro e w5 ⟨rfl,v5,vT,Qr⟩));have OD:=hid vT;have Oy:=hid (HP2.o.turn Qr);have Oz:=hid (FY.o.turn Qr);clear hc1 vT Qr;obtain⟨⟨_,o2⟩,_⟩:=Oy.o;have hc2:=Reads.str (P:=prog) (Reads.own o2) 31 5 underlying31 underlying5 d2 9 underlying9;clear o2;rw[rounds_succ];go_wp2_with (go_at_call 26;((with_reducible refine(lT OD.o ys k2 (by have:=L2.o;omega) (by have:=qQ.o;have:=L1.o;have:=aT xs.length om_;simp[iq];omega)).mono ?_);rintro e w6 ⟨rfl,v6,nU,Tc⟩));have yw:=hid nU;have OA:=hid (Oz.o.turn Tc);clear hc2 nU Tc;obtain⟨⟨_,o3⟩,_⟩:=OA.o;have hc3:=Reads.str (P:=prog) (Reads.own o3) 31 5 underlying31 underlying5 d3 9 underlying9;clear o3;rw[rounds_succ];go_wp2_with (go_at_call 26;((with_reducible refine(lT yw.o zs k3 (by have:=L3.o;omega) (by have:=qQ.o;have:=L1.o;have:=L2.o;have:=aT xs.length om_;have:=aT ys.length om_;simp[iq];omega)).mono ?_);rintro e w7 ⟨rfl,v7,Ji,UE⟩));have LC:=hid Ji;clear hc3 Ji UE;have cD:=tX _ _ _ _ w7 LC.o.1 (by have:=qQ.o;have:=L1.o;have:=L2.o;have:=L3.o;have:=aT xs.length om_;have:=aT ys.length om_;have:=aT zs.length om_;simp[iq];omega);unfold pen.Gives at cD;rw[rounds_succ];go_wp2_with (go_at_call 27;((with_reducible refine cD.mono ?_);rintro e w8 ⟨u,rfl,ho,zU⟩));go_ret2;simp only[List.nil_append] at ho;have e7:=LC.o.2.2;exact⟨u,rfl,dM ho (Nat.le_trans OC.o.size e7),OC.o.trans ((LC.o.2.1.trans (zU.mono e7)).mono OC.o.size)⟩
set_option maxRecDepth 20000 in
theorem uP(n v:Int)(fa:Option Addr)(fc:Nat)(F:List Fm)(oa:Option Addr)(oc:Nat)(O:List St)(ba:Option Addr)(bc:Nat)(B:List St)(w:World)(h:LkM w fa F oa O ba B)(hr:¬Right n v (forms F) (bV O) (bV B)):
  Calls prog 11 #[.agg #[.int .i64 n,.int .i64 v,.slice fa F.length fc,.slice oa O.length oc,.slice ba B.length bc]] w fun e w'=>e=.returned (.tuple #[.slice none 0 0,.int .i64 2])/\Below w.heap.size w w':=by
 have hb:=aI w (.cells #[.int .i64 n,.int .i64 v,.slice fa F.length fc,.slice oa O.length oc,.slice ba B.length bc] 27);have cR:=dB n v fa fc F oa oc O ba bc B _ (h.below hb);rw[decide_eq_false hr] at cR;unfold field.Gives at cR;have HB:=hid hb;clear h hr hb;go_enter func11,ntmps11;go_wp2_with (go_at_call 7;((with_reducible refine cR.mono ?_);clear cR;rintro e w1 ⟨rfl,bQ⟩));go_ret2;exact⟨rfl,HB.o.trans (bQ.mono HB.o.size)⟩
end link
namespace link
open Go.RowKit pen
open field (aI)
theorem FH:Right 1 2 [] [] []:=by decide
theorem KC:¬Right 0 0 [] [] []:=by decide
theorem IU:jk 1 2 [] [] []=[1,2,2,0,1,0,1,0]:=by
 have e1:ak.dU 2 []=[2,0]:=by
  show vb 2++vb 0++[]=_
  rw[gV om_,gV om_];rfl
 have e2:step.dZ []=[0]:=by
  show vb 0++[]=_
  rw[gV om_];rfl
 unfold jk iq;rw[e1,e2];show vb 1++(vb 2++[2,0])++(vb 1++[0])++(vb 1++[0])=_
 rw[gV om_,gV om_];rfl
set_option maxRecDepth 20000 in
theorem wE(w:World):Calls prog 6 #[] w (Yes w):=by
 have b1:=aI w (.cells #[.int .i64 1,.int .i64 2,.slice none 0 0,.slice none 0 0,.slice none 0 0] 27);have hB:=Block.new w 27 [.int .i64 1,.int .i64 2,.slice none 0 0,.slice none 0 0,.slice none 0 0];have cP:=fun w'=>je 1 2 none 0 [] none 0 [] none 0 [] w' (.nil w') FH
 rw[show jk 1 2 (ak.forms []) (step.bV []) (step.bV [])=[1,2,2,0,1,0,1,0] from IU] at cP;have cR:=fun w'=>dB 1 2 none 0 [] none 0 [] none 0 [] w' (.nil w')
 rw[show decide (Right 1 2 (ak.forms []) (step.bV []) (step.bV []))=true from decide_eq_true FH] at cR;have cZ:=fun w'=>dB 0 0 none 0 [] none 0 [] none 0 [] w' (.nil w')
 rw[show decide (Right 0 0 (ak.forms []) (step.bV []) (step.bV []))=false from decide_eq_false KC] at cZ;simp only[List.length_nil] at cP cR cZ;have HS:Hid (strOf [1,2,2,0,1,0,1,0]=⟨#[1,2,2,0,1,0,1,0]⟩):=by show _=_;decide
 have HB1:=hid b1;have HK:=hid hB;unfold field.Gives at cR cZ;unfold pen.Gives at cP;clear b1 hB;go_enter func6,ntmps6;go_wp2_with (first
  | (go_at_call 11;((with_reducible refine(cP _).mono ?_);clear cP;rintro e w4 ⟨u,rfl,ho,ku⟩;obtain⟨a4,c4,rfl,_⟩:=aP ho;have K4:=HK.o.later ku;have y0:=K4.cell 0;have y1:=K4.cell 1;have y2:=K4.cell 2;have y3:=K4.cell 3;have y4:=K4.cell 4;have hcv:=Reads.str (P:=prog) (show Reads .u8 w4 a4 8 [1,2,2,0,1,0,1,0] from Reads.own ho) 31 5 underlying31 underlying5 c4 9 underlying9;rw[HS.o] at hcv;clear ho K4))
  | (go_at_call 7;((with_reducible refine(cR _).mono ?_);rintro e w5 ⟨rfl,jq⟩))
  | (go_at_call 7;((with_reducible refine(cZ _).mono ?_);rintro e w6 ⟨rfl,pU⟩)))
 go_ret;exact⟨rfl,HB1.o.trans ((ku.trans ((jq.trans (pU.mono jq.size)).mono ku.size)).mono HB1.o.size)⟩
end link
theorem t99{P:Prop}(h:P:=by
 go_enter func8,ntmps8;go_wp2;go_ret;exact⟨rfl,yu.o⟩):P:=h
theorem t25{P:Prop}(h:P:=by
 go_enter func8,ntmps8;go_wp2_with (first | (go_at_call 16;((with_reducible refine cS.mono ?_);clear cS;rintro e w2 ⟨rfl,aQ⟩;rw[hW.o] at aQ;obtain⟨⟨k2,_⟩,_⟩:=jU.o _ aQ;have z20:=k2.cell 0;have z21:=k2.cell 1;have z22:=k2.cell 2;have z23:=k2.cell 3;have z24:=k2.cell 4;clear k2)))
 exact t116):P:=h
namespace link
open Go.RowKit
open field (Gives aI)
open step (St Sp StL bV bP)
open ak (Fm FmL forms jH)
set_option maxRecDepth 20000 in
theorem fB(n v:Int)(fa:Option Addr)(fc:Nat)(F:List Fm)(oa:Option Addr)(oc:Nat)(O:List St)(ba:Option Addr)(bc:Nat)(B:List St)(w:World)(h:LkM w fa F oa O ba B):
  Calls prog 8 #[.agg #[.int .i64 n,.int .i64 v,.slice fa F.length fc,.slice oa O.length oc,.slice ba B.length bc]] w (Gives (.bool (decide (Right n v (forms F) (bV O) (bV B)))) w):=by
 obtain⟨W0,hW,bW,hsz,jU⟩:=fH w [(27,[.int .i64 n,.int .i64 v,.slice fa F.length fc,.slice oa O.length oc,.slice ba B.length bc])];simp only[boxes] at hW;have h0:=h.below bW;have cS:=ak.fB v fa fc F W0 h0.f h0.lf;have cO:=fun w' (hb:Below W0.heap.size W0 w')=>step.pz oa oc O w' (h0.o.below hb) h0.lo
 have cB:=fun w' (hb:Below W0.heap.size W0 w')=>step.pz ba bc B w' (h0.b.below hb) h0.lb
 obtain⟨r,hr⟩:∃r:Bool,Hid (decide (Right n v (forms F) (bV O) (bV B))=r):=⟨_,hid rfl⟩;have HR:Hid (r=(decide (1<=n) && decide (n<=65535) && decide (ak.Right v (forms F)) && (v != n) && decide (bP (bV O)=0) && decide (bP (bV B)=0))):=hid (by
  rw[<-hr.o,Bool.eq_iff_iff];simp only[decide_eq_true_eq,Bool.and_eq_true,bne_iff_ne,ne_eq];unfold Right;constructor
  ·exact t84
  ·rintro⟨⟨⟨⟨⟨a,b⟩,c⟩,d⟩,e⟩,f⟩;exact⟨⟨a,b⟩,c,d,e,f⟩)
 rw[hr.o];have jg:=hid bW;have yu:=hid bW;rw[<-hW.o] at cS yu;generalize decide (ak.Right v (forms F))=sr at *;generalize bP (bV O)=so at *;generalize bP (bV B)=sb at *;unfold Gives at cS cO cB ⊢;clear h h0 bW hr;by_cases h1:1<=n
 ·have d1:decide (n≥1)=true:=decide_eq_true h1;by_cases h2:n<=65535
  ·have d2:decide (n<=65535)=true:=decide_eq_true h2;cases sr with
   | true=>
    by_cases h3:v=n
    ·have d3:(v != n)=false:=by simp[h3]
     clear h3;obtain rfl:r=false:=by rw[HR.o,d3];simp
     exact t25
    ·have d3:(v != n)=true:=by simp[h3]
     by_cases h4:so=0
     ·have d4:((so:Int) == 0)=true:=by simp[h4]
      obtain rfl:r=((sb:Int) == 0):=by rw[HR.o,decide_eq_true h1,d2,d3,decide_eq_true h4];by_cases h5:sb=0 <;> simp[h5]
      clear h4 HR;go_enter func8,ntmps8;go_wp2_with (first | (go_at_call 16;((with_reducible refine cS.mono ?_);clear cS;rintro e w2 ⟨rfl,aQ⟩;rw[hW.o] at aQ;obtain⟨⟨k2,_⟩,_⟩:=jU.o _ aQ;have z20:=k2.cell 0;have z21:=k2.cell 1;have z22:=k2.cell 2;have z23:=k2.cell 3;have z24:=k2.cell 4;clear k2)) | (go_at_call 17;((with_reducible refine(cO _ aQ).mono ?_);clear cO;rintro e w3 ⟨rfl,fD⟩;have lF:=aQ.trans (fD.mono aQ.size);obtain⟨⟨k3,_⟩,_⟩:=jU.o _ lF;have z30:=k3.cell 0;have z31:=k3.cell 1;have z32:=k3.cell 2;have z33:=k3.cell 3;have z34:=k3.cell 4;clear k3)) | (go_at_call 17;((with_reducible refine(cB _ lF).mono ?_);clear cB;rintro e w4 ⟨rfl,ku⟩;have G6:=lF.trans (ku.mono lF.size))));go_ret
      exact t53
     ·have d4:((so:Int) == 0)=false:=by rw[beq_eq_false_iff_ne];omega
      obtain rfl:r=false:=by rw[HR.o,decide_eq_false h4];simp
      clear h4 HR;go_enter func8,ntmps8;go_wp2_with (first | (go_at_call 16;((with_reducible refine cS.mono ?_);clear cS;rintro e w2 ⟨rfl,aQ⟩;rw[hW.o] at aQ;obtain⟨⟨k2,_⟩,_⟩:=jU.o _ aQ;have z20:=k2.cell 0;have z21:=k2.cell 1;have z22:=k2.cell 2;have z23:=k2.cell 3;have z24:=k2.cell 4;clear k2)) | (go_at_call 17;((with_reducible refine(cO _ aQ).mono ?_);clear cO;rintro e w3 ⟨rfl,fD⟩;have lF:=aQ.trans (fD.mono aQ.size);obtain⟨⟨k3,_⟩,_⟩:=jU.o _ lF;have z30:=k3.cell 0;have z31:=k3.cell 1;have z32:=k3.cell 2;have z33:=k3.cell 3;have z34:=k3.cell 4;clear k3)));go_ret
      exact t54
   | false=>
    obtain rfl:r=false:=by rw[HR.o];simp
    exact t25
  ·have d2:decide (n<=65535)=false:=decide_eq_false h2;obtain rfl:r=false:=by rw[HR.o,d2];simp
   exact t99
 ·have d1:decide (n≥1)=false:=decide_eq_false h1;obtain rfl:r=false:=by rw[HR.o,decide_eq_false h1];simp
  exact t99
def Same(n v:Int)(F:List ak.Form)(O B:List Sp)(n' v':Int)(F':List ak.Form)(O' B':List Sp):Prop:=n=n'/\(v=v'/\F=F')/\O=O'/\B=B'
instance (n v:Int) (F:List ak.Form) (O B:List Sp) (n' v':Int) (F':List ak.Form) (O' B':List Sp):Decidable (Same n v F O B n' v' F' O' B'):=by unfold Same;infer_instance
set_option maxRecDepth 20000 in
theorem iG(n v:Int)(fa:Option Addr)(fc:Nat)(F:List Fm)(oa:Option Addr)(oc:Nat)(O:List St)(ba:Option Addr)(bc:Nat)(B:List St)(n' v':Int)(wL:Option Addr)(yK:Nat)(F':List Fm)(wS:Option Addr)(oc':Nat)(O':List St)(ba':Option Addr)(bc':Nat)(B':List St)(w:World)(h:LkM w fa F oa O ba B)(h':LkM w wL F' wS O' ba' B'):
  Calls prog 10 #[.agg #[.int .i64 n,.int .i64 v,.slice fa F.length fc,.slice oa O.length oc,.slice ba B.length bc],.agg #[.int .i64 n',.int .i64 v',.slice wL F'.length yK,.slice wS O'.length oc',.slice ba' B'.length bc']] w (Gives (.bool (decide (Same n v (forms F) (bV O) (bV B) n' v' (forms F') (bV O') (bV B')))) w):=by
 obtain⟨W0,hW,bW,hsz,jU⟩:=fH w [(27,[.int .i64 n,.int .i64 v,.slice fa F.length fc,.slice oa O.length oc,.slice ba B.length bc]),(27,[.int .i64 n',.int .i64 v',.slice wL F'.length yK,.slice wS O'.length oc',.slice ba' B'.length bc'])];simp only[boxes] at hW;have h0:=h.below bW;have yR:=h'.below bW;have cS:=ak.iG v fa fc F v' wL yK F' W0 h0.f yR.f h0.lf yR.lf;have cO:=fun w' (hb:Below W0.heap.size W0 w')=>step.nG oa oc O wS oc' O' w' (h0.o.below hb) (yR.o.below hb) h0.lo yR.lo
 have cB:=fun w' (hb:Below W0.heap.size W0 w')=>step.nG ba bc B ba' bc' B' w' (h0.b.below hb) (yR.b.below hb) h0.lb yR.lb
 obtain⟨r,hr⟩:∃r:Bool,Hid (decide (Same n v (forms F) (bV O) (bV B) n' v' (forms F') (bV O') (bV B'))=r):=⟨_,hid rfl⟩;have HR:Hid (r=((n == n') && decide (v=v'/\forms F=forms F') && decide (bV O=bV O') && decide (bV B=bV B'))):=hid (by
  rw[<-hr.o,Bool.eq_iff_iff];simp only[decide_eq_true_eq,Bool.and_eq_true,beq_iff_eq];unfold Same;constructor
  ·rintro⟨a,b,c,d⟩;exact⟨⟨⟨a,b⟩,c⟩,d⟩
  ·rintro⟨⟨⟨a,b⟩,c⟩,d⟩;exact⟨a,b,c,d⟩)
 rw[hr.o];have jg:=hid bW;have yu:=hid bW;rw[<-hW.o] at cS yu;generalize decide (v=v'/\forms F=forms F')=sr at *;generalize decide (bV O=bV O')=so at *;generalize decide (bV B=bV B')=sb at *;unfold Gives at cS cO cB ⊢;clear h h0 h' yR bW hr;by_cases h1:n=n'
 ·have d1:(n == n')=true:=by simp[h1]
  clear h1;cases sr with
  | true=>
   cases so with
   | true=>
    obtain rfl:r=sb:=by rw[HR.o,d1];simp
    go_enter func10,ntmps10;go_wp2_with (first | (go_at_call 21;((with_reducible refine cS.mono ?_);clear cS;rintro e w2 ⟨rfl,aQ⟩;rw[hW.o] at aQ;obtain⟨⟨k2,j2,_⟩,_⟩:=jU.o _ aQ;have z23:=k2.cell 3;have z24:=k2.cell 4;have y23:=j2.cell 3;have y24:=j2.cell 4;clear k2 j2)) | (go_at_call 22;((with_reducible refine(cO _ aQ).mono ?_);clear cO;rintro e w3 ⟨rfl,fD⟩;have lF:=aQ.trans (fD.mono aQ.size);obtain⟨⟨k3,j3,_⟩,_⟩:=jU.o _ lF;have z33:=k3.cell 3;have z34:=k3.cell 4;have NT:=j3.cell 3;have y34:=j3.cell 4;clear k3 j3)) | (go_at_call 22;((with_reducible refine(cB _ lF).mono ?_);clear cB;rintro e w4 ⟨rfl,ku⟩;have G6:=lF.trans (ku.mono lF.size))));go_ret
    exact t53
   | false=>
    obtain rfl:r=false:=by rw[HR.o];simp
    go_enter func10,ntmps10;go_wp2_with (first | (go_at_call 21;((with_reducible refine cS.mono ?_);clear cS;rintro e w2 ⟨rfl,aQ⟩;rw[hW.o] at aQ;obtain⟨⟨k2,j2,_⟩,_⟩:=jU.o _ aQ;have z23:=k2.cell 3;have z24:=k2.cell 4;have y23:=j2.cell 3;have y24:=j2.cell 4;clear k2 j2)) | (go_at_call 22;((with_reducible refine(cO _ aQ).mono ?_);clear cO;rintro e w3 ⟨rfl,fD⟩;have lF:=aQ.trans (fD.mono aQ.size);obtain⟨⟨k3,j3,_⟩,_⟩:=jU.o _ lF;have z33:=k3.cell 3;have z34:=k3.cell 4;have NT:=j3.cell 3;have y34:=j3.cell 4;clear k3 j3)));go_ret
    exact t54
  | false=>
   obtain rfl:r=false:=by rw[HR.o];simp
   go_enter func10,ntmps10;go_wp2_with (first | (go_at_call 21;((with_reducible refine cS.mono ?_);clear cS;rintro e w2 ⟨rfl,aQ⟩;rw[hW.o] at aQ;obtain⟨⟨k2,j2,_⟩,_⟩:=jU.o _ aQ;have z23:=k2.cell 3;have z24:=k2.cell 4;have y23:=j2.cell 3;have y24:=j2.cell 4;clear k2 j2)))
   exact t116
 ·have d1:(n == n')=false:=by simp[h1]
  clear h1;obtain rfl:r=false:=by rw[HR.o,d1];simp
  go_enter func10,ntmps10;go_wp2;go_ret;exact⟨rfl,yu.o⟩
set_option maxRecDepth 20000 in
theorem jY(n v:Int)(fa:Option Addr)(fc:Nat)(F:List Fm)(oa:Option Addr)(oc:Nat)(O:List St)(ba:Option Addr)(bc:Nat)(B:List St)(w:World)(h:LkM w fa F oa O ba B):
  Calls prog 5 #[.agg #[.int .i64 n,.int .i64 v,.slice fa F.length fc,.slice oa O.length oc,.slice ba B.length bc]] w fun e w'=>∃r:Bool,e=.returned (.bool r)/\Below w.heap.size w w':=by
 have hml:(F.length:Int)<=9223372036854775807:=by have:=h.lf;unfold maxLen at this;omega
 obtain⟨W0,hW,bW,hsz,jU⟩:=fH w [(27,[.int .i64 n,.int .i64 v,.slice fa F.length fc,.slice oa O.length oc,.slice ba B.length bc])];simp only[boxes] at hW;have h0:=h.below bW;have cO:=step.jY oa oc O W0 h0.o h0.lo;have cB:=fun w' (hb:Below W0.heap.size W0 w')=>step.jY ba bc B w' (h0.b.below hb) h0.lb
 generalize decide (step.nN (bV O))=go at *;generalize decide (step.nN (bV B))=gb at *;have HF:=hid h0.f;have jg:=hid bW;unfold Gives at cO cB;clear h h0 bW;go_enter func5,ntmps5;go_wp2;rw[hW.o];go_loopw [3] (fun n wr=>∃k:Nat,k<=F.length/\k<=41/\n=.int .i64 (k:Int)/\W0=wr) (fun n _=>41 - (intOf n).toNat);case atStart=>exact⟨0,Nat.zero_le _,Nat.zero_le _,rfl,rfl⟩
 case round=>
  obtain⟨k,hk,yT,rfl,rfl⟩:=hrel;obtain⟨⟨k0,_⟩,dP⟩:=jU.o _ (Below.refl _ _);have z2:=k0.cell 2;have z3:=k0.cell 3;have z4:=k0.cell 4;clear k0 dP;by_cases h1:k<F.length
  ·by_cases h2:k<41
   ·obtain⟨b,off,p,rfl,jV,hp,c0,c1,_,GL⟩:=jH HF.o (Below.refl _ _) h1;have i1:(k:Int)<F.length:=by omega
    have i2:(k:Int)<41:=by omega
    have X4:(p.fL.length:Int)<=9223372036854775807:=by unfold maxLen at GL;omega
    clear hp c0;by_cases h3:40<p.fL.length
    ·have hd:decide ((p.fL.length:Int)>40)=true:=decide_eq_true om_;go_wp2;go_ret;exact⟨_,rfl,jg.o⟩
    ·have hd:decide ((p.fL.length:Int)>40)=false:=decide_eq_false om_;clear h3;go_wp2;exact⟨⟨k+1,by omega,by omega,by go_num,trivial⟩,by simp[intOf];omega⟩
   ·obtain rfl:k=41:=by omega
    have hd:decide ((F.length:Int)>40)=true:=decide_eq_true om_;have i1:(41:Int)<F.length:=by omega
    go_wp2;go_ret;exact⟨_,rfl,jg.o⟩
  ·obtain rfl:k=F.length:=by omega
   by_cases h3:40<F.length
   ·have hd:decide ((F.length:Int)>40)=true:=decide_eq_true om_;go_wp2;go_ret;exact⟨_,rfl,jg.o⟩
   ·have hd:decide ((F.length:Int)>40)=false:=decide_eq_false om_;cases go with
    | true=>
     go_wp2_with (first
      | (go_at_call 13;((with_reducible refine cO.mono ?_);clear cO;rintro e w2 ⟨rfl,aQ⟩;obtain⟨⟨k1,_⟩,q2⟩:=jU.o _ aQ;have y4:=k1.cell 4)))
     go_ret;exact⟨_,rfl,q2⟩
    | false=>
     go_wp2_with (first
      | (go_at_call 13;((with_reducible refine cO.mono ?_);clear cO;rintro e w2 ⟨rfl,aQ⟩;obtain⟨⟨k1,_⟩,q2⟩:=jU.o _ aQ;have y4:=k1.cell 4))
      | (go_at_call 13;((with_reducible refine(cB _ aQ).mono ?_);clear cB;rintro e w3 ⟨rfl,fD⟩)))
     go_ret;exact⟨_,rfl,q2.trans (fD.mono q2.size)⟩
end link
end Go.Proofs.Ytogfefdlffmioaa
