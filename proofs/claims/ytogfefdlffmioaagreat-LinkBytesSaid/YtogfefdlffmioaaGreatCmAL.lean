/- Contracts and lemmas that claims of this seat share: StepRight. Each says its own conditions. -/
import Derived.Test.YtogfefdlffmioaaGreatCmWord
import Derived.Test.YtogfefdlffmioaaGreatCmAF
import Derived.Test.YtogfefdlffmioaaGreatCmAG
import Derived.Test.YtogfefdlffmioaaGreatCmAK
set_option linter.unusedVariables false
namespace Go.Proofs.YtogfefdlffmioaaGreat
open Go.Proofs.Tryz
theorem t89{P:Prop}(h:P:=by
 go_ret;exact⟨rfl,HBO.o.trans ((HB.o.trans (aK.mono HB.o.size)).mono HBO.o.size)⟩):P:=h
namespace step
open Go.RowKit
open field (Gives newB gives_from)
open schema (below_out take_succ_at)
def Sp.bareK(s:Sp)(k:Nat):Sp:=((mem s.op).take k).foldl Sp.clear { s with op:=0}
theorem bareK_succ{s:Sp}{k m:Nat}(h:(mem s.op)[k]?=some m):s.bareK (k+1)=(s.bareK k).clear m:=by
 unfold Sp.bareK;rw[take_succ_at h,List.foldl_append];rfl
theorem bareK_all(s:Sp):s.bareK (mem s.op).length=(mem s.op).foldl Sp.clear { s with op:=0}:=by
 unfold Sp.bareK;rw[List.take_of_length_le (Nat.le_refl _)]
theorem memI_cell{w w':World}{a:Option Addr}{op:Int}(h:Ins w a (memI op))(hb:Below w.heap.size w w'){k:Nat}(hk:k<(mem op).length):
  ∃b off m,a=some ⟨b,off,none⟩/\b<w'.heap.size/\(mem op)[k]?=some m/\m<12/\w'.cell? ⟨b,off+k,none⟩=some (.int .i64 (m:Int)):=by
 obtain⟨b,off,p,h1,h2,h3,h4⟩:=int_at h hb (k:=k) (by rw[memI_len];exact hk);have hm:=List.getElem?_eq_getElem hk;have h5:=memI_at hm;rw[h3] at h5;obtain rfl:=Option.some.inj h5;exact⟨b,off,_,h1,h2,hm,mem_lt op _ (List.mem_of_getElem? hm),h4⟩
set_option maxRecDepth 20000 in
set_option maxHeartbeats 3200000 in
theorem right_any(s:Sp)(ta:Option Addr)(tc:Nat)(la:Option Addr)(lc:Nat)(w:World)(h:Lists w s ta la):Calls prog 65 #[zP s ta tc la lc] w (Gives (.bool (decide s.Right)) w):=by
 have HX:=hid (boxP s ta tc la lc w);have HL:=hid (h.below (newB w (.cells (zP s ta tc la lc) 84)));have cM:=members_any s.op (w.alloc (.cells (zP s ta tc la lc) 84));obtain⟨r,hr⟩:∃r:Bool,Hid (decide s.Right=r):=⟨_,rfl⟩;rw[hr.o];unfold Gives;unfold Members at cM;clear h;go_enter func65,ntmps65;go_wp2_with (go_at_call 67;((with_reducible refine cM.mono ?_);rintro e w1 ⟨aM,cMx,rfl,hI,ak⟩;obtain⟨⟨z0,z1,z2,z3,z4,z5,z6,z7,z8,z9,z10,z11,z12,z13,z14,z15⟩,aN⟩:=HX.o _ ak;have HB1:=hid ak;have HBO:=hid aN;have HI:=hid hI.ins;clear ak aN hI));clear z0 z1 z2 z3 z4 z5 z6 z7 z8 z9 z10 z11 z12 z13 z14 z15 cM;have HL1:=hid (HL.o.below HB1.o);have HX1:=hid (fun w' (hb:Below w1.heap.size w1 w')=>HX.o w' (HB1.o.trans (hb.mono HB1.o.size)));have HBX:Hid (BoxAt w1 w1.heap.size (s.bareK 0) ta tc la lc (w1.alloc (.cells #[.int .i64 0,.int .i64 s.fm,.int .i64 s.fd,.int .i64 s.pl,.int .i64 s.tt,.int .i64 s.a,.int .i64 s.b,.int .i64 s.f.id,.int .i64 s.f.kind,.int .i64 s.f.lo,.int .i64 s.f.hi,.int .i64 s.f.most,.int .i64 s.v.n,.string s.v.s,.slice ta s.t.length tc,.slice la s.l.length lc] 84))):=
  hid ⟨Block.new w1 84 [.int .i64 0,.int .i64 s.fm,.int .i64 s.fd,.int .i64 s.pl,.int .i64 s.tt,.int .i64 s.a,.int .i64 s.b,.int .i64 s.f.id,.int .i64 s.f.kind,.int .i64 s.f.lo,.int .i64 s.f.hi,.int .i64 s.f.most,.int .i64 s.v.n,.string s.v.s,.slice ta s.t.length tc,.slice la s.l.length lc],⟨HL1.o.t,HL1.o.l,HL1.o.mt,HL1.o.ml⟩,Nat.le_refl _,newB _ _⟩
 generalize w1.alloc (.cells #[.int .i64 0,.int .i64 s.fm,.int .i64 s.fd,.int .i64 s.pl,.int .i64 s.tt,.int .i64 s.a,.int .i64 s.b,.int .i64 s.f.id,.int .i64 s.f.kind,.int .i64 s.f.lo,.int .i64 s.f.hi,.int .i64 s.f.most,.int .i64 s.v.n,.string s.v.s,.slice ta s.t.length tc,.slice la s.l.length lc] 84)=w2 at *;obtain⟨U,hU⟩:∃U:Nat,Hid (w1.heap.size=U):=⟨_,rfl⟩;rw[hU.o] at HBX ⊢;obtain⟨N,hN⟩:∃N:Nat,Hid ((mem s.op).length=N):=⟨_,rfl⟩;have hN5:N<=5:=by rw[<-hN.o];exact mem_len _
 rw[hN.o];go_loopw [14] (fun n wr=>∃k:Nat,k<=N/\n=.int .i64 (k:Int)/\Hid (∀m∈(mem s.op).take k,s.Fine m)/\Hid (∃ta' tc' la' lc',BoxAt w1 U (s.bareK k) ta' tc' la' lc' wr)) (fun n _=>N - (intOf n).toNat);case atStart=>exact⟨0,Nat.zero_le _,rfl,hid si_,hid ⟨_,_,_,_,HBX.o⟩⟩
 case round=>
  obtain⟨k,hk,rfl,HOK,HBW⟩:=hrel;obtain⟨ta',tc',la',lc',ku⟩:=HBW.o;have HB:=hid ku.below;obtain⟨⟨z0,z1,z2,z3,z4,z5,z6,z7,z8,z9,z10,z11,z12,z13,z14,z15⟩,aN⟩:=HX1.o _ HB.o;have HBOX:=hid ku;by_cases au:k<N
  ·obtain⟨b,off,m,rfl,bQ,hm,hm12,c0⟩:=memI_cell HI.o HB.o (k:=k) (by rw[hN.o];exact au);have i1:(k:Int)<N:=by omega
   have HM:=hid hm;have HTK:=hid (take_succ_at hm);have HSUC:=hid (bareK_succ hm);have HMEM:=hid (List.mem_of_getElem? hm);have cF:=fine_any s ta tc la lc m hm12 _ (HL1.o.below HB.o);have cC:=fun w' hb=>clear_any U (s.bareK k) ta' tc' la' lc' m hm12 w' (HBOX.o.later hb)
   clear hm ku aN;unfold Gives at cF;unfold Cleared at cC;by_cases hf:s.Fine m
   ·rw[decide_eq_true hf] at cF;have HFM:=hid hf;clear hf;go_wp2_with (first
     | (go_at_call 91;((with_reducible refine cF.mono ?_);rintro e w3 ⟨rfl,aK⟩;have HB3:=hid aK))
     | (go_at_call 92;((with_reducible refine(cC _ aK).mono ?_);rintro e w4 ⟨rfl,oW⟩;have HB4:=hid oW)))
    refine⟨⟨k+1,by omega,by go_num,hid ?_,hid ?_⟩,by simp[intOf];omega⟩
    ·rw[HTK.o];intro q hq;rcases List.mem_append.1 hq with h | h
     ·exact HOK.o q h
     ·rw[List.mem_singleton.1 h];exact HFM.o
    ·rw[HSUC.o];exact HB4.o
   ·rw[decide_eq_false hf] at cF;obtain rfl:false=r:=by rw[<-hr.o];exact(decide_eq_false (fun h=>hf (h.1 m HMEM.o))).symm
    clear hf cC;go_wp2_with (go_at_call 91;((with_reducible refine cF.mono ?_);rintro e w3 ⟨rfl,aK⟩))
    exact t89
  ·obtain rfl:k=N:=by omega
   have HALL:Hid (∀m∈mem s.op,s.Fine m):=hid (by have:=HOK.o;rw[<-hN.o,List.take_of_length_le (Nat.le_refl _)] at this;exact this);have HRI:Hid (s.Right↔mem s.op≠[]/\s.bareK k=Sp.zero):=hid (by rw[<-hN.o,bareK_all];exact⟨fun h=>h.2,fun h=>⟨HALL.o,h⟩⟩);clear ku aN z0 z1 z2 z3 z4 z5 z6 z7 z8 z9 z10 z11 z12 z13 z14 z15;by_cases hz:k=0
   ·have hme:mem s.op=[]:=List.eq_nil_of_length_eq_zero (by rw[hN.o];exact hz);obtain rfl:false=r:=by rw[<-hr.o];exact(decide_eq_false (fun h=>(HRI.o.1 h).1 hme)).symm
    have hd:decide ((k:Int)>0)=false:=decide_eq_false om_;have j1:¬0<k:=by omega
    have j2:¬(0:Int)<(k:Int):=by omega
    clear hme au;go_wp2;go_ret;exact⟨rfl,HBO.o.trans (HB.o.mono HBO.o.size)⟩
   ·have hme:mem s.op≠[]:=fun e=>hz (by rw[<-hN.o,e];rfl)
    have hd:decide ((k:Int)>0)=true:=decide_eq_true om_;have j1:0<k:=by omega
    have j2:(0:Int)<(k:Int):=by omega
    have HRB:Hid (decide (s.bareK k=Sp.zero)=r):=hid (by rw[<-hr.o];exact decide_eq_decide.2 ⟨fun h=>HRI.o.2 ⟨hme,h⟩,fun h=>(HRI.o.1 h).2⟩);obtain⟨u,hu⟩:∃u,Hid (s.bareK k=u):=⟨_,rfl⟩;have HBU:=HBOX;rw[hu.o] at HBU HRB;have hf:=HBU.o.f;have y0:=hf.cell 0;have y1:=hf.cell 1;have y2:=hf.cell 2;have y3:=hf.cell 3;have y4:=hf.cell 4;have y5:=hf.cell 5;have y6:=hf.cell 6;have y7:=hf.cell 7;have y8:=hf.cell 8;have y9:=hf.cell 9;have y10:=hf.cell 10;have y11:=hf.cell 11;have y12:=hf.cell 12;have y13:=hf.cell 13;have y14:=hf.cell 14;have y15:=hf.cell 15;have cS:=fun w' (hb:Below w1.heap.size w1 w')=>same_any u ta' tc' la' lc' Sp.zero none 0 none 0 w' ((HBU.o.lists).below hb) ⟨.inl rfl,.inl rfl,Nat.zero_le _,Nat.zero_le _⟩
    rw[HRB.o] at cS;unfold Gives at cS;replace cS:∀w',Below w1.heap.size w1 w'->Calls prog 93 #[zP u ta' tc' la' lc',zZ] w' fun e w2=>e=.returned (.bool r)/\Below w'.heap.size w' w2:=cS
    clear hf hme au hz;go_wp2_with (go_at_call 93;((with_reducible refine(cS _ (by first | exact HB.o | exact below_drewN HB.o _)).mono ?_);rintro e w3 ⟨rfl,aK⟩))
    exact t89
end step
end Go.Proofs.YtogfefdlffmioaaGreat
