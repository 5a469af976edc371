/- Contracts and lemmas that claims of this seat share: StepRight. Each says its own conditions. -/
import Derived.Test.YtogfefdlffmioaaCmWord
import Derived.Test.YtogfefdlffmioaaCmAH
import Derived.Test.YtogfefdlffmioaaCmAI
import Derived.Test.YtogfefdlffmioaaCmAM
set_option linter.unusedVariables false
namespace Go.Proofs.Ytogfefdlffmioaa
open Go.Proofs.Try
theorem t79{P:Prop}(h:P:=by
 go_ret;exact⟨rfl,KP.o.trans ((HB.o.trans (fD.mono HB.o.size)).mono KP.o.size)⟩):P:=h
namespace step
open Go.RowKit
open field (Gives aI ay)
open ak (aX aH)
def Sp.nO(s:Sp)(k:Nat):Sp:=((mem s.op).take k).foldl Sp.clear { s with op:=0}
theorem Aa{s:Sp}{k m:Nat}(h:(mem s.op)[k]?=some m):s.nO (k+1)=(s.nO k).clear m:=by
 unfold Sp.nO;rw[aH h,List.foldl_append];rfl
theorem CS(s:Sp):s.nO (mem s.op).length=(mem s.op).foldl Sp.clear { s with op:=0}:=by
 unfold Sp.nO;rw[List.take_of_length_le (Nat.le_refl _)]
theorem rq{w w':World}{a:Option Addr}{op:Int}(h:Ins w a (AP op))(hb:Below w.heap.size w w'){k:Nat}(hk:k<(mem op).length):
  ∃b off m,a=some ⟨b,off,none⟩/\b<w'.heap.size/\(mem op)[k]?=some m/\m<12/\w'.cell? ⟨b,off+k,none⟩=some (.int .i64 (m:Int)):=by
 obtain⟨b,off,p,h1,h2,h3,h4⟩:=mM h hb (k:=k) (by rw[Fb];exact hk);have hm:=List.getElem?_eq_getElem hk;have h5:=GY hm;rw[h3] at h5;obtain rfl:=Option.some.inj h5;exact⟨b,off,_,h1,h2,hm,uI op _ (List.mem_of_getElem? hm),h4⟩
set_option maxRecDepth 20000 in
set_option maxHeartbeats 3200000 in
theorem dB(s:Sp)(ta:Option Addr)(tc:Nat)(la:Option Addr)(lc:Nat)(w:World)(h:Lists w s ta la):Calls prog 36 #[zP s ta tc la lc] w (Gives (.bool (decide s.Right)) w):=by
 have HX:=hid (oQ s ta tc la lc w);have HL:=hid (h.below (aI w (.cells (zP s ta tc la lc) 52)));have cM:=og s.op (w.alloc (.cells (zP s ta tc la lc) 52));obtain⟨r,hr⟩:∃r:Bool,Hid (decide s.Right=r):=⟨_,rfl⟩;rw[hr.o];unfold Gives;unfold qj at cM;clear h;go_enter func36,ntmps36;go_wp2_with (go_at_call 61;((with_reducible refine cM.mono ?_);rintro e w1 ⟨aM,Sz,rfl,hI,bQ⟩;obtain⟨⟨z0,z1,z2,z3,z4,z5,z6,z7,z8,z9,z10,z11,z12,z13,lm,lU⟩,dP⟩:=HX.o _ bQ;have HB1:=hid bQ;have KP:=hid dP;have HI:=hid hI.ins;clear bQ dP hI));clear z0 z1 z2 z3 z4 z5 z6 z7 z8 z9 z10 z11 z12 z13 lm lU cM;have yE:=hid (HL.o.below HB1.o);have U0:=hid (fun w' (hb:Below w1.heap.size w1 w')=>HX.o w' (HB1.o.trans (hb.mono HB1.o.size)));have RP:Hid (BoxAt w1 w1.heap.size (s.nO 0) ta tc la lc (w1.alloc (.cells #[.int .i64 0,.int .i64 s.fm,.int .i64 s.fd,.int .i64 s.pl,.int .i64 s.tt,.int .i64 s.a,.int .i64 s.b,.int .i64 s.f.id,.int .i64 s.f.kind,.int .i64 s.f.lo,.int .i64 s.f.hi,.int .i64 s.f.most,.int .i64 s.v.n,.string s.v.s,.slice ta s.t.length tc,.slice la s.l.length lc] 52))):=
  hid ⟨Block.new w1 52 [.int .i64 0,.int .i64 s.fm,.int .i64 s.fd,.int .i64 s.pl,.int .i64 s.tt,.int .i64 s.a,.int .i64 s.b,.int .i64 s.f.id,.int .i64 s.f.kind,.int .i64 s.f.lo,.int .i64 s.f.hi,.int .i64 s.f.most,.int .i64 s.v.n,.string s.v.s,.slice ta s.t.length tc,.slice la s.l.length lc],⟨yE.o.t,yE.o.l,yE.o.mt,yE.o.ml⟩,Nat.le_refl _,aI _ _⟩
 generalize w1.alloc (.cells #[.int .i64 0,.int .i64 s.fm,.int .i64 s.fd,.int .i64 s.pl,.int .i64 s.tt,.int .i64 s.a,.int .i64 s.b,.int .i64 s.f.id,.int .i64 s.f.kind,.int .i64 s.f.lo,.int .i64 s.f.hi,.int .i64 s.f.most,.int .i64 s.v.n,.string s.v.s,.slice ta s.t.length tc,.slice la s.l.length lc] 52)=w2 at *;obtain⟨U,hU⟩:∃U:Nat,Hid (w1.heap.size=U):=⟨_,rfl⟩;rw[hU.o] at RP ⊢;obtain⟨N,hN⟩:∃N:Nat,Hid ((mem s.op).length=N):=⟨_,rfl⟩;have SG:N<=5:=by rw[<-hN.o];exact qH _
 rw[hN.o];go_loopw [14] (fun n wr=>∃k:Nat,k<=N/\n=.int .i64 (k:Int)/\Hid (∀m∈(mem s.op).take k,s.Fine m)/\Hid (∃ta' BG la' Di,BoxAt w1 U (s.nO k) ta' BG la' Di wr)) (fun n _=>N - (intOf n).toNat);case atStart=>exact⟨0,Nat.zero_le _,rfl,hid si_,hid ⟨_,_,_,_,RP.o⟩⟩
 case round=>
  obtain⟨k,hk,rfl,nK,jg⟩:=hrel;obtain⟨ta',BG,la',Di,GK⟩:=jg.o;have HB:=hid GK.below;obtain⟨⟨z0,z1,z2,z3,z4,z5,z6,z7,z8,z9,z10,z11,z12,z13,lm,lU⟩,dP⟩:=U0.o _ HB.o;have Le:=hid GK;by_cases bI:k<N
  ·obtain⟨b,off,m,rfl,jV,hm,D9,c0⟩:=rq HI.o HB.o (k:=k) (by rw[hN.o];exact bI);have i1:(k:Int)<N:=by omega
   have HM:=hid hm;have zX:=hid (aH hm);have iM:=hid (Aa hm);have Ov:=hid (List.mem_of_getElem? hm);have cF:=kJ s ta tc la lc m D9 _ (yE.o.below HB.o);have cC:=fun w' hb=>clear_any U (s.nO k) ta' BG la' Di m D9 w' (Le.o.later hb)
   clear hm GK dP;unfold Gives at cF;unfold Cleared at cC;by_cases hf:s.Fine m
   ·rw[decide_eq_true hf] at cF;have TB:=hid hf;clear hf;go_wp2_with (first
     | (go_at_call 62;((with_reducible refine cF.mono ?_);rintro e w3 ⟨rfl,fD⟩;have HB3:=hid fD))
     | (go_at_call 63;((with_reducible refine(cC _ fD).mono ?_);rintro e w4 ⟨rfl,PI⟩;have HB4:=hid PI)))
    refine⟨⟨k+1,by omega,by go_num,hid ?_,hid ?_⟩,by simp[intOf];omega⟩
    ·rw[zX.o];intro q hq;rcases List.mem_append.1 hq with h | h
     ·exact nK.o q h
     ·rw[List.mem_singleton.1 h];exact TB.o
    ·rw[iM.o];exact HB4.o
   ·rw[decide_eq_false hf] at cF;obtain rfl:false=r:=by rw[<-hr.o];exact(decide_eq_false (fun h=>hf (h.1 m Ov.o))).symm
    clear hf cC;go_wp2_with (go_at_call 62;((with_reducible refine cF.mono ?_);rintro e w3 ⟨rfl,fD⟩))
    exact t79
  ·obtain rfl:k=N:=by omega
   have Oj:Hid (∀m∈mem s.op,s.Fine m):=hid (by have:=nK.o;rw[<-hN.o,List.take_of_length_le (Nat.le_refl _)] at this;exact this);have CP:Hid (s.Right↔mem s.op≠[]/\s.nO k=Sp.zero):=hid (by rw[<-hN.o,CS];exact⟨fun h=>h.2,fun h=>⟨Oj.o,h⟩⟩);clear GK dP z0 z1 z2 z3 z4 z5 z6 z7 z8 z9 z10 z11 z12 z13 lm lU;by_cases hz:k=0
   ·have hme:mem s.op=[]:=List.eq_nil_of_length_eq_zero (by rw[hN.o];exact hz);obtain rfl:false=r:=by rw[<-hr.o];exact(decide_eq_false (fun h=>(CP.o.1 h).1 hme)).symm
    have hd:decide ((k:Int)>0)=false:=decide_eq_false om_;have j1:¬0<k:=by omega
    have j2:¬(0:Int)<(k:Int):=by omega
    clear hme bI;go_wp2;go_ret;exact⟨rfl,KP.o.trans (HB.o.mono KP.o.size)⟩
   ·have hme:mem s.op≠[]:=fun e=>hz (by rw[<-hN.o,e];rfl)
    have hd:decide ((k:Int)>0)=true:=decide_eq_true om_;have j1:0<k:=by omega
    have j2:(0:Int)<(k:Int):=by omega
    have Sj:Hid (decide (s.nO k=Sp.zero)=r):=hid (by rw[<-hr.o];exact decide_eq_decide.2 ⟨fun h=>CP.o.2 ⟨hme,h⟩,fun h=>(CP.o.1 h).2⟩);obtain⟨u,hu⟩:∃u,Hid (s.nO k=u):=⟨_,rfl⟩;have Om:=Le;rw[hu.o] at Om Sj;have hf:=Om.o.f;have y0:=hf.cell 0;have y1:=hf.cell 1;have y2:=hf.cell 2;have y3:=hf.cell 3;have y4:=hf.cell 4;have y5:=hf.cell 5;have y6:=hf.cell 6;have y7:=hf.cell 7;have y8:=hf.cell 8;have y9:=hf.cell 9;have Ir:=hf.cell 10;have NR:=hf.cell 11;have NS:=hf.cell 12;have y13:=hf.cell 13;have Hy:=hf.cell 14;have Oi:=hf.cell 15;have cS:=fun w' (hb:Below w1.heap.size w1 w')=>kQ u ta' BG la' Di Sp.zero none 0 none 0 w' ((Om.o.lists).below hb) ⟨.inl rfl,.inl rfl,Nat.zero_le _,Nat.zero_le _⟩
    rw[Sj.o] at cS;unfold Gives at cS;replace cS:∀w',Below w1.heap.size w1 w'->Calls prog 20 #[zP u ta' BG la' Di,zZ] w' fun e w2=>e=.returned (.bool r)/\Below w'.heap.size w' w2:=cS
    clear hf hme bI hz;go_wp2_with (go_at_call 20;((with_reducible refine(cS _ (by first | exact HB.o | exact below_drewN HB.o _)).mono ?_);rintro e w3 ⟨rfl,fD⟩))
    exact t79
end step
end Go.Proofs.Ytogfefdlffmioaa
