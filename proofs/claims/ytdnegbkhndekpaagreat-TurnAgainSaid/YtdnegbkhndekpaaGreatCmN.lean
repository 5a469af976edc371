/- Contracts and lemmas that claims of this seat share: TypingBegin. Each says its own conditions. -/
import Derived.Test.YtdnegbkhndekpaaGreatCmWord
import Derived.Deep.RegionHeld3
import Derived.Test.YtdnegbkhndekpaaGreatCmG
import Derived.Test.YtdnegbkhndekpaaGreatCmL
import Derived.Test.YtdnegbkhndekpaaGreatCmM
set_option linter.unusedVariables false
namespace Go.Proofs.YtdnegbkhndekpaaGreat
open Go.Proofs.Tryz
theorem t164{P:Prop}(h:P:=by
 rw [fZ _ _ si_] at this;rw [<-hw4.o];exact this):P:=h
namespace typing
open Go.RowKit schema
open field (Gives aC aj)
open step (Lists)
theorem qH:∀v∈([]:List Value),v.oneCell'=true:=by simp
theorem nM {x:Value} {l:List Value} (h:x.oneCell'=true) (k:∀v∈l,v.oneCell'=true):∀v∈x :: l,v.oneCell'=true:=by
 intro v hv;rcases List.mem_cons.1 hv with rfl | h2
 ·exact h
 ·exact k v h2
def KP (T B0:Nat) (w:World) (fa:Option Addr) (fc:Nat) (L:List field.Fd) (w':World):Prop:=w'.ownsRow T 26 5 (.slice fa L.length fc) L.length (fdV L)/\Below B0 w w'
theorem KP.cells {T B0 S o:Nat} {w w':World} {fa:Option Addr} {fc:Nat} {L:List field.Fd} {vs:List Value} (h:KP T B0 w fa fc L w') (h1:B0<=S) (h2:S<T):KP T B0 w fa fc L (w'.setCells S o vs):=
 ⟨fK h.1 (fun g hg=>by have:=World.ownsRow.lt h.1 g hg;exact fO S vs o w' g om_),below_setCells h.2 h1 o vs⟩
theorem KP.cell {T B0 S o:Nat} {w w':World} {fa:Option Addr} {fc:Nat} {L:List field.Fd} {v:Value} (h:KP T B0 w fa fc L w') (h1:B0<=S) (h2:S<T):KP T B0 w fa fc L (w'.setCell ⟨S,o,none⟩ v):=h.cells (vs:=[v]) h1 h2
theorem KP.later {T B0:Nat} {w w' w2:World} {fa:Option Addr} {fc:Nat} {L:List field.Fd} (h:KP T B0 w fa fc L w') (hb:Below w'.heap.size w' w2) (hT:B0<=w'.heap.size):KP T B0 w fa fc L w2:=⟨aK h.1 hb,h.2.trans (hb.mono hT)⟩
theorem oG:(prog.info? 32).map (·.size)=some 16:=by kernel_rfl
theorem Am (F:List Fm):ng F=(forms F).map (·.1):=iJ F
theorem uX (F:List schema.Form) (s:step.Sp):(aJ F s).s=s:=by unfold aJ;split <;> rfl
theorem iW (F:List schema.Form) (s:step.Sp):(aJ F s).at_=ai (ids (aJ F s).L) s.fd/\(aJ F s).old=bG (aJ F s).L (aJ F s).at_:=by
 unfold aJ;split
 ·exact ⟨rfl,rfl⟩
 ·refine ⟨(nP (by simp [ids])).symm, ?_⟩;unfold bG;rw [if_neg si_]
theorem jM {F:List Fm} {w:World} (hF:Small w F) (s:step.Sp):(aJ (forms F) s).L.length<=40:=by
 unfold aJ;split
 ·rename_i p hp;obtain ⟨q,hq,rfl⟩:=List.mem_map.1 (cZ hp).1;exact (hF.2 q hq).2
 ·simp
theorem lV (v:Int) (a:Option Addr) (cc:Nat) (F:List Fm) (s:step.Sp) (c:Ch) (hc:c=aJ (forms F) s) (w:World) (h:FmL w a F) (hF:Small w F):
  Calls prog 28 #[zS v a F.length cc,.int .i64 s.fm] w fun e w'=>∃fa fc,e=.returned (.tuple #[zS c.fi fa c.L.length fc,.bool c.kn])/\w'.ownsRow w.heap.size 26 5 (.slice fa c.L.length fc) c.L.length (fdV c.L)/\Below w.heap.size w w':=by
 have hl:F.length<=maxLen:=by have:=hF.1;unfold maxLen;omega
 cases hn:named (forms F) s.fm with
 | none=>
  have e:c=⟨s,0,[],false, -1,step.fd0⟩:=by rw [hc];unfold aJ;rw [hn]
  subst e;refine (Jg v a cc F s.fm w h hl (by rw [Am];exact lM hn)).mono ?_;rintro e w' ⟨rfl,hb⟩;exact ⟨none,0,rfl,World.ownsRow_nil _ _ _ _,hb⟩
 | some p=>
  have e:c=⟨s,s.fm,p.2,true,ai (ids p.2) s.fd,bG p.2 (ai (ids p.2) s.fd)⟩:=by rw [hc];unfold aJ;rw [hn]
  subst e;obtain ⟨i,hi,hpi⟩:=List.find?_eq_some_iff_getElem.1 hn |>.2
  have hi2:i<F.length:=by rwa [aF] at hi
  have hq:F[i]?=some F[i]:=List.getElem?_eq_getElem hi2;have hp:F[i].p=p:=by
   have:=dR hq;rw [List.getElem?_eq_getElem hi] at this;exact (Option.some.inj this).symm.trans hpi.1
  have hid:F[i].id=s.fm:=by
   have:=(cZ hn).2;rw [<-hp] at this;exact this
  refine (Ia v a cc F s.fm i F[i] w h hl hq hid ?_ (by have:=(hF.2 _ (List.getElem_mem hi2)).2;omega)).mono ?_
  ·rw [Am];intro hm;rw [<-List.map_take] at hm;obtain ⟨q,hq1,hq2⟩:=List.mem_map.1 hm;obtain ⟨j,hj,hjq⟩:=List.mem_take_iff_getElem.1 hq1;have:=hpi.2 j om_;rw [hjq] at this;simp [hq2] at this
  ·rintro e w' ⟨y,cap,rfl,h1,h2⟩;have hL:F[i].fL=p.2:=by rw [<-hp];rfl
   rw [hL] at h1 ⊢;exact ⟨y,cap,rfl,h1,h2⟩
set_option maxRecDepth 20000 in
set_option maxHeartbeats 3200000 in
theorem tV (v:Int) (a:Option Addr) (cc:Nat) (F:List Fm) (c:Ch) (hc:c=aJ (forms F) c.s) (ta:Option Addr) (tc:Nat) (la:Option Addr) (lc:Nat) (w:World) (h:FmL w a F) (hF:Small w F):
  Calls prog 44 #[zS v a F.length cc,zP c.s ta tc la lc] w (fun e w'=>∃fa fc,e=.returned (zH c ta tc la lc fa fc)/\field.Fds w' fa c.L/\Below w.heap.size w w'):=by
 have hat:c.at_=ai (ids c.L) c.s.fd:=by have:=(iW (forms F) c.s).1;rwa [<-hc] at this
 have hold:c.old=bG c.L c.at_:=by have:=(iW (forms F) c.s).2;rwa [<-hc] at this
 have hln:c.L.length<=40:=by have:=jM hF c.s;rwa [<-hc] at this
 obtain ⟨W,hW⟩:∃W,W=(((((w.alloc (.cells (zS v a F.length cc) 24))).alloc (.cells (zP c.s ta tc la lc) 32)).alloc (.cells zY 93)).alloc (.cells zY 93)):=⟨_,rfl⟩;have hbw:Below w.heap.size w W:=by rw [hW];exact ((((Below.refl _ _).alloc (Nat.le_refl _) _).alloc si_ _).alloc (by simp;omega) _).alloc (by simp;omega) _
 have hsz:W.heap.size=w.heap.size+4:=by rw [hW];simp
 have k0:Block W w.heap.size 24 (zS v a F.length cc):=by rw [hW];exact (((Block.new w _ _).alloc _).alloc _).alloc _
 have k1:Block W (w.heap.size+1) 32 (zP c.s ta tc la lc):=by rw [hW];have:=((Block.new ((w.alloc (.cells (zS v a F.length cc) 24))) 32 (zP c.s ta tc la lc)).alloc (.cells zY 93)).alloc (.cells zY 93);simpa using this
 have k2:Block W (w.heap.size+2) 93 zY:=by rw [hW];have:=(Block.new (((w.alloc (.cells (zS v a F.length cc) 24))).alloc (.cells (zP c.s ta tc la lc) 32)) 93 zY).alloc (.cells zY 93);simpa using this
 have k3:Block W (w.heap.size+3) 93 zY:=by rw [hW];have:=Block.new ((((w.alloc (.cells (zS v a F.length cc) 24))).alloc (.cells (zP c.s ta tc la lc) 32)).alloc (.cells zY 93)) 93 zY;simpa using this
 have HTH:Hid (W.there (w.heap.size+3) 0 ((zG c ta tc la lc):Array Value).size):=hid (k3.there 0 25 si_);have HRS:Hid (((((w.alloc (.cells (zS v a F.length cc) 24))).alloc (.cells (zP c.s ta tc la lc) 32)).alloc (.cells zY 93)).rangeAt (w.heap.size+1) 0 (zP c.s ta tc la lc)):=hid (by
  have:=((Block.new ((w.alloc (.cells (zS v a F.length cc) 24))) 32 (zP c.s ta tc la lc)).alloc (.cells zY 93));have h2:Block ((((w.alloc (.cells (zS v a F.length cc) 24))).alloc (.cells (zP c.s ta tc la lc) 32)).alloc (.cells zY 93)) (w.heap.size+1) 32 (zP c.s ta tc la lc):=by simpa using this
  exact h2.whole)
 have HIS:Hid ((prog.info? 32).map (·.size)=some ((zP c.s ta tc la lc):List Value).length):=hid oG;have HIC:Hid ((prog.info? 93).map (·.size)=some ((zG c ta tc la lc):Array Value).size):=hid fC;have HON:Hid (((zG c ta tc la lc):Array Value).all (·.oneCell')=true):=hid (all_oneCell_toArray (by repeat (first | exact qH | refine nM rfl ?_)));have HAT:=hid hat;have HOLD:=hid hold;have K0:=hid k0;have K1:=hid k1;have K2:=hid k2;have K3:=hid k3;have HBW:=hid hbw;have HSZ:=hid hsz;have cFm:=fun (w':World) (hb:Below w.heap.size w w')=>lV v a cc F c.s c hc w' (h.below hb) (hF.below hb)
 clear hat hold k0 k1 k2 k3 hbw hsz h hF hc;subst hW;go_enter func44,ntmps44;go_wp2_with (first
  | (with_reducible refine wpList_load_mid rfl 32 (.tmp 3) rfl (w.heap.size+1) 0 rfl (zP c.s ta tc la lc) _ HRS.o underlying32 rfl HIS.o ?_)
  | (with_reducible refine ax rfl 93 (.tmp 5) (.tmp 7) rfl (w.heap.size+3) 0 (zG c ta tc la lc) rfl rfl HTH.o HIC.o HON.o ?_))
 intro w1 hw1;have HX:Hid (∀w',Below w1.heap.size w1 w'->(Block w' w.heap.size 24 (zS v a F.length cc)/\Block w' (w.heap.size+1) 32 (zP c.s ta tc la lc)/\Block w' (w.heap.size+2) 93 zY/\Block w' (w.heap.size+3) 93 (zG c ta tc la lc))/\Below w.heap.size w w'):=hid (fun w' hb=>by
  have e3:Block w1 (w.heap.size+3) 93 (zG c ta tc la lc):=by
   have:=K3.o.setCells (vs:=(zG c ta tc la lc)) (o:=0);rw [fZ _ _ si_] at this;rw [<-hw1.o];exact this
  have e0:Block w1 w.heap.size 24 (zS v a F.length cc):=by rw [<-hw1.o];exact K0.o.kZ _ _ _ om_
  have e1:Block w1 (w.heap.size+1) 32 (zP c.s ta tc la lc):=by rw [<-hw1.o];exact K1.o.kZ _ _ _ om_
  have e2:Block w1 (w.heap.size+2) 93 zY:=by rw [<-hw1.o];exact K2.o.kZ _ _ _ om_
  refine ⟨⟨e0.later hb,e1.later hb,e2.later hb,e3.later hb⟩, ?_⟩;have hb1:Below w.heap.size w w1:=by rw [<-hw1.o];exact below_setCells HBW.o om_ _ _
  exact hb1.trans (hb.mono hb1.size))
 clear HRS HIS HTH HIC HON K0 K1 K2 K3 HBW HSZ hw1;have hmx:c.L.length<=maxLen:=by unfold maxLen;omega
 obtain ⟨B3,hB3⟩:∃B3,w.heap.size+1+1+1=B3:=⟨_,rfl⟩;rw [hB3];obtain ⟨B2,hB2⟩:∃B2,w.heap.size+1+1=B2:=⟨_,rfl⟩;rw [hB2];obtain ⟨B1,hB1⟩:∃B1,w.heap.size+1=B1:=⟨_,rfl⟩;rw [hB1];obtain ⟨B0,hB0⟩:∃B0,Hid (w.heap.size=B0):=⟨_,rfl⟩;rw [hB0.o] at hB1 hB2 hB3 HX cFm ⊢;rw [show B0+1=B1 by omega,show B0+2=B2 by omega,show B0+3=B3 by omega] at HX;have n1:B3≠B2:=by omega
 have n2:B2≠B3:=by omega
 have n3:B3≠B1:=by omega
 have n4:B1≠B3:=by omega
 have n5:B3≠B0:=by omega
 have n6:B0≠B3:=by omega
 have HLB:Hid (B0<=B2/\B0<=B3):=hid ⟨by omega,by omega⟩;clear hB1 hB2 hB3;have hHX:=HX.o w1 (Below.refl _ _);have HW1:=hid hHX.2;have z0:=hHX.1.1.cell 0;have z1:=hHX.1.1.cell 1;have z2:=hHX.1.2.1.cell 1;have HS3:Hid (B3<w1.heap.size):=hid hHX.1.2.2.2.lt;have HS2:Hid (B2<w1.heap.size):=hid hHX.1.2.2.1.lt;have HS0:Hid (B0<=w1.heap.size):=hid (Nat.le_of_lt hHX.1.1.lt);clear hHX;have HIF:Hid (∀(fa:Option Addr) (fc:Nat),(prog.info? 93).map (·.size)=some ([.int .i64 c.s.op,.int .i64 c.s.fm,.int .i64 c.s.fd,.int .i64 c.s.pl,.int .i64 c.s.tt,.int .i64 c.s.a,.int .i64 c.s.b,.int .i64 c.s.f.id,.int .i64 c.s.f.kind,.int .i64 c.s.f.lo,.int .i64 c.s.f.hi,.int .i64 c.s.f.most,.int .i64 c.s.v.n,.string c.s.v.s,.slice ta c.s.t.length tc,.slice la c.s.l.length lc,.int .i64 c.fi,.slice fa c.L.length fc,.bool c.kn,.int .i64 c.at_,.int .i64 0,.int .i64 0,.int .i64 0,.int .i64 0,.int .i64 0]:List Value).length):=hid (fun _ _=>fC);have HIF2:Hid (∀(fa:Option Addr) (fc:Nat),(prog.info? 93).map (·.size)=some ((zH c ta tc la lc fa fc):List Value).length):=hid (fun _ _=>fC);have HIG2:Hid (∀(fa:Option Addr) (fc:Nat),(prog.info? 93).map (·.size)=some ((zH c ta tc la lc fa fc):Array Value).size):=hid (fun _ _=>fC);have HON2:Hid (∀(fa:Option Addr) (fc:Nat),((zH c ta tc la lc fa fc):Array Value).all (·.oneCell')=true):=hid (fun fa fc=>all_oneCell_toArray (by repeat (first | exact qH | refine nM rfl ?_)));have HIG:Hid (∀(fa:Option Addr) (fc:Nat),(prog.info? 93).map (·.size)=some (#[.int .i64 c.s.op,.int .i64 c.s.fm,.int .i64 c.s.fd,.int .i64 c.s.pl,.int .i64 c.s.tt,.int .i64 c.s.a,.int .i64 c.s.b,.int .i64 c.s.f.id,.int .i64 c.s.f.kind,.int .i64 c.s.f.lo,.int .i64 c.s.f.hi,.int .i64 c.s.f.most,.int .i64 c.s.v.n,.string c.s.v.s,.slice ta c.s.t.length tc,.slice la c.s.l.length lc,.int .i64 c.fi,.slice fa c.L.length fc,.bool c.kn,.int .i64 c.at_,.int .i64 0,.int .i64 0,.int .i64 0,.int .i64 0,.int .i64 0]:Array Value).size):=hid (fun _ _=>fC);have HON:Hid (∀(fa:Option Addr) (fc:Nat),(#[.int .i64 c.s.op,.int .i64 c.s.fm,.int .i64 c.s.fd,.int .i64 c.s.pl,.int .i64 c.s.tt,.int .i64 c.s.a,.int .i64 c.s.b,.int .i64 c.s.f.id,.int .i64 c.s.f.kind,.int .i64 c.s.f.lo,.int .i64 c.s.f.hi,.int .i64 c.s.f.most,.int .i64 c.s.v.n,.string c.s.v.s,.slice ta c.s.t.length tc,.slice la c.s.l.length lc,.int .i64 c.fi,.slice fa c.L.length fc,.bool c.kn,.int .i64 c.at_,.int .i64 0,.int .i64 0,.int .i64 0,.int .i64 0,.int .i64 0]:Array Value).all (·.oneCell')=true):=hid (fun fa fc=>all_oneCell_toArray (by repeat (first | exact qH | refine nM rfl ?_)));by_cases h0:0<=c.at_
 ·have d0:decide (c.at_≥0)=true:=decide_eq_true h0;have h1:c.at_<c.L.length:=by have:=HAT.o;rw [this] at h0 ⊢;have:=(lF h0).1;rw [jI] at this;omega
  have HEQ:Hid (∀p,c.L[c.at_.toNat]?=some p->p=c.old):=hid (fun p hp=>by rw [HOLD.o];unfold bG;rw [if_pos h0,List.getD_eq_getElem?_getD,hp];rfl);go_wp2_with (first
   | (go_at_call 28;((with_reducible refine (cFm _ HW1.o).mono ?_);rintro e w2 ⟨fa,fc,rfl,ho2,hb2⟩;obtain ⟨⟨b0,b1,b2,b3⟩,hbo⟩:=HX.o w2 hb2;have y2:=b1.cell 2;have y16:=b3.cell 16;have y17:=b3.cell 17;have y18:=b3.cell 18;have f16:=b3.frozen 16;have f17:=b3.frozen 17;have f18:=b3.frozen 18;have HKP:=hid (((show KP w1.heap.size B0 w fa fc c.L w2 from ⟨ho2,hbo⟩).cell (o:=16) (v:=.int .i64 c.fi) HLB.o.2 HS3.o).cell (o:=17) (v:=.slice fa c.L.length fc) HLB.o.2 HS3.o |>.cell (o:=18) (v:=.bool c.kn) HLB.o.2 HS3.o);have HK3:=hid (((b3.setCell 16 (.int .i64 c.fi)).setCell 17 (.slice fa c.L.length fc)).setCell 18 (.bool c.kn));have HK2:=hid (((b2.apart B3 16 (.int .i64 c.fi) n2).apart B3 17 (.slice fa c.L.length fc) n2).apart B3 18 (.bool c.kn) n2);have cA:=rF c.fi fa fc c.L c.s.fd _ (gQ HKP.o.1).1 hmx;rw [<-HAT.o] at cA;have HSZ:=hid (Nat.le_trans HS0.o (Nat.le_trans hb2.size (by simp:w2.heap.size<=(((w2.setCell ⟨B3,16,none⟩ (.int .i64 c.fi)).setCell ⟨B3,17,none⟩ (.slice fa c.L.length fc)).setCell ⟨B3,18,none⟩ (.bool c.kn)).heap.size)));clear ho2 hb2 b0 b1 b2 b3 hbo))
   | (go_at_call 50;((with_reducible refine cA.mono ?_);rintro e w3 ⟨rfl,hb3⟩;have hk3:Block w3 B3 93 [.int .i64 c.s.op,.int .i64 c.s.fm,.int .i64 c.s.fd,.int .i64 c.s.pl,.int .i64 c.s.tt,.int .i64 c.s.a,.int .i64 c.s.b,.int .i64 c.s.f.id,.int .i64 c.s.f.kind,.int .i64 c.s.f.lo,.int .i64 c.s.f.hi,.int .i64 c.s.f.most,.int .i64 c.s.v.n,.string c.s.v.s,.slice ta c.s.t.length tc,.slice la c.s.l.length lc,.int .i64 c.fi,.slice fa c.L.length fc,.bool c.kn,.int .i64 0,.int .i64 0,.int .i64 0,.int .i64 0,.int .i64 0,.int .i64 0]:=HK3.o.later hb3;have hk2:=HK2.o.later hb3;have x17:=hk3.cell 17;have x19:=hk3.cell 19;have g19:=hk3.frozen 19;have hkp3:=HKP.o.later hb3 HSZ.o;obtain ⟨gb,go_,p,rfl,hgl,hp,p0,p1,p2,p3,p4⟩:=(gQ hkp3.1).1.at (i:=c.at_.toNat) om_;have hgb:=(World.ownsRow.lt hkp3.1 gb rfl).1;have hs3:=HS3.o;have n7:gb≠B3:=om_;have n8:B3≠gb:=om_;obtain rfl:p=c.old:=HEQ.o p hp;have HKQ:=hid (hkp3.cell (S:=B3) (o:=19) (v:=.int .i64 c.at_) HLB.o.2 HS3.o);have hm2:=hk2.apart B3 19 (.int .i64 c.at_) n2;have hm3:Block (w3.setCell ⟨B3,19,none⟩ (.int .i64 c.at_)) B3 93 [.int .i64 c.s.op,.int .i64 c.s.fm,.int .i64 c.s.fd,.int .i64 c.s.pl,.int .i64 c.s.tt,.int .i64 c.s.a,.int .i64 c.s.b,.int .i64 c.s.f.id,.int .i64 c.s.f.kind,.int .i64 c.s.f.lo,.int .i64 c.s.f.hi,.int .i64 c.s.f.most,.int .i64 c.s.v.n,.string c.s.v.s,.slice ta c.s.t.length tc,.slice la c.s.l.length lc,.int .i64 c.fi,.slice (some ⟨gb,go_,none⟩) c.L.length fc,.bool c.kn,.int .i64 c.at_,.int .i64 0,.int .i64 0,.int .i64 0,.int .i64 0,.int .i64 0]:=hk3.setCell 19 (.int .i64 c.at_);have x20:=hk3.cell 20;have x21:=hk3.cell 21;have x22:=hk3.cell 22;have x23:=hk3.cell 23;have x24:=hk3.cell 24;have g20:=hk3.frozen 20;have g21:=hk3.frozen 21;have g22:=hk3.frozen 22;have g23:=hk3.frozen 23;have g24:=hk3.frozen 24;clear hkp3 hgb hs3;have hq2:=(((((hm2.apart B3 20 (.int .i64 c.old.id) n2).apart B3 21 (.int .i64 c.old.kind) n2).apart B3 22 (.int .i64 c.old.lo) n2).apart B3 23 (.int .i64 c.old.hi) n2).apart B3 24 (.int .i64 c.old.most) n2);have hq3:Block ((((((w3.setCell ⟨B3,19,none⟩ (.int .i64 c.at_)).setCell ⟨B3,20,none⟩ (.int .i64 c.old.id)).setCell ⟨B3,21,none⟩ (.int .i64 c.old.kind)).setCell ⟨B3,22,none⟩ (.int .i64 c.old.lo)).setCell ⟨B3,23,none⟩ (.int .i64 c.old.hi)).setCell ⟨B3,24,none⟩ (.int .i64 c.old.most)) B3 93 (zH c ta tc la lc (some ⟨gb,go_,none⟩) fc):=(((((hm3.setCell 20 (.int .i64 c.old.id)).setCell 21 (.int .i64 c.old.kind)).setCell 22 (.int .i64 c.old.lo)).setCell 23 (.int .i64 c.old.hi)).setCell 24 (.int .i64 c.old.most));have HKR:=hid (((((HKQ.o.cell (S:=B3) (o:=20) (v:=.int .i64 c.old.id) HLB.o.2 HS3.o).cell (S:=B3) (o:=21) (v:=.int .i64 c.old.kind) HLB.o.2 HS3.o).cell (S:=B3) (o:=22) (v:=.int .i64 c.old.lo) HLB.o.2 HS3.o).cell (S:=B3) (o:=23) (v:=.int .i64 c.old.hi) HLB.o.2 HS3.o).cell (S:=B3) (o:=24) (v:=.int .i64 c.old.most) HLB.o.2 HS3.o);have HTH:=hid (hq2.there 0 ((zH c ta tc la lc (some ⟨gb,go_,none⟩) fc):Array Value).size si_);have HRG:=hid hq3.whole;have HM2:=hid hq2;clear hb3 hk3 hk2 hm2 hm3 hq2 hq3 hp))
   | (with_reducible refine wpList_load_mid rfl 93 (.tmp 5) rfl B3 0 rfl (zH c ta tc la lc (some ⟨gb,go_,none⟩) fc) _ HRG.o underlying93 rfl (HIF2.o _ _) ?_)
   | (with_reducible refine ax rfl 93 (.tmp 4) (.tmp 34) rfl B2 0 (zH c ta tc la lc (some ⟨gb,go_,none⟩) fc) rfl rfl HTH.o (HIG2.o _ _) (HON2.o _ _) ?_))
  intro w4 hw4;go_wp2;have hB4:Block w4 B2 93 (zH c ta tc la lc (some ⟨gb,go_,none⟩) fc):=by
   have:=HM2.o.setCells (vs:=(zH c ta tc la lc (some ⟨gb,go_,none⟩) fc)) (o:=0)
   exact t164
  have hkp:=HKR.o.cells (S:=B2) (o:=0) (vs:=(zH c ta tc la lc (some ⟨gb,go_,none⟩) fc)) HLB.o.1 HS2.o;have hw5:=hw4.o;rw [hw5] at hkp;refine bodyPost_ret (aO (b:=B2) (o:=0) rfl rfl hB4.whole underlying93 rfl fC) rfl ?_;exact ⟨_,_,rfl,(gQ hkp.1).1,by rw [hB0.o];exact hkp.2⟩
 ·have d0:decide (c.at_≥0)=false:=decide_eq_false h0;have HOE:Hid (c.old=step.fd0):=hid (by have:=HOLD.o;unfold bG at this;rwa [if_neg h0] at this);clear h0;go_wp2_with (first
   | (go_at_call 28;((with_reducible refine (cFm _ HW1.o).mono ?_);rintro e w2 ⟨fa,fc,rfl,ho2,hb2⟩;obtain ⟨⟨b0,b1,b2,b3⟩,hbo⟩:=HX.o w2 hb2;have y2:=b1.cell 2;have y16:=b3.cell 16;have y17:=b3.cell 17;have y18:=b3.cell 18;have f16:=b3.frozen 16;have f17:=b3.frozen 17;have f18:=b3.frozen 18;have HKP:=hid (((show KP w1.heap.size B0 w fa fc c.L w2 from ⟨ho2,hbo⟩).cell (o:=16) (v:=.int .i64 c.fi) HLB.o.2 HS3.o).cell (o:=17) (v:=.slice fa c.L.length fc) HLB.o.2 HS3.o |>.cell (o:=18) (v:=.bool c.kn) HLB.o.2 HS3.o);have HK3:=hid (((b3.setCell 16 (.int .i64 c.fi)).setCell 17 (.slice fa c.L.length fc)).setCell 18 (.bool c.kn));have HK2:=hid (((b2.apart B3 16 (.int .i64 c.fi) n2).apart B3 17 (.slice fa c.L.length fc) n2).apart B3 18 (.bool c.kn) n2);have cA:=rF c.fi fa fc c.L c.s.fd _ (gQ HKP.o.1).1 hmx;rw [<-HAT.o] at cA;have HSZ:=hid (Nat.le_trans HS0.o (Nat.le_trans hb2.size (by simp:w2.heap.size<=(((w2.setCell ⟨B3,16,none⟩ (.int .i64 c.fi)).setCell ⟨B3,17,none⟩ (.slice fa c.L.length fc)).setCell ⟨B3,18,none⟩ (.bool c.kn)).heap.size)));clear ho2 hb2 b0 b1 b2 b3 hbo))
   | (go_at_call 50;((with_reducible refine cA.mono ?_);rintro e w3 ⟨rfl,hb3⟩;have hk3:Block w3 B3 93 [.int .i64 c.s.op,.int .i64 c.s.fm,.int .i64 c.s.fd,.int .i64 c.s.pl,.int .i64 c.s.tt,.int .i64 c.s.a,.int .i64 c.s.b,.int .i64 c.s.f.id,.int .i64 c.s.f.kind,.int .i64 c.s.f.lo,.int .i64 c.s.f.hi,.int .i64 c.s.f.most,.int .i64 c.s.v.n,.string c.s.v.s,.slice ta c.s.t.length tc,.slice la c.s.l.length lc,.int .i64 c.fi,.slice fa c.L.length fc,.bool c.kn,.int .i64 0,.int .i64 0,.int .i64 0,.int .i64 0,.int .i64 0,.int .i64 0]:=HK3.o.later hb3;have hk2:=HK2.o.later hb3;have x17:=hk3.cell 17;have x19:=hk3.cell 19;have g19:=hk3.frozen 19;have HKQ:=hid ((HKP.o.later hb3 HSZ.o).cell (S:=B3) (o:=19) (v:=.int .i64 c.at_) HLB.o.2 HS3.o);have hm2:=hk2.apart B3 19 (.int .i64 c.at_) n2;have hm3:Block (w3.setCell ⟨B3,19,none⟩ (.int .i64 c.at_)) B3 93 [.int .i64 c.s.op,.int .i64 c.s.fm,.int .i64 c.s.fd,.int .i64 c.s.pl,.int .i64 c.s.tt,.int .i64 c.s.a,.int .i64 c.s.b,.int .i64 c.s.f.id,.int .i64 c.s.f.kind,.int .i64 c.s.f.lo,.int .i64 c.s.f.hi,.int .i64 c.s.f.most,.int .i64 c.s.v.n,.string c.s.v.s,.slice ta c.s.t.length tc,.slice la c.s.l.length lc,.int .i64 c.fi,.slice fa c.L.length fc,.bool c.kn,.int .i64 c.at_,.int .i64 0,.int .i64 0,.int .i64 0,.int .i64 0,.int .i64 0]:=hk3.setCell 19 (.int .i64 c.at_);have HTH:=hid (hm2.there 0 (#[.int .i64 c.s.op,.int .i64 c.s.fm,.int .i64 c.s.fd,.int .i64 c.s.pl,.int .i64 c.s.tt,.int .i64 c.s.a,.int .i64 c.s.b,.int .i64 c.s.f.id,.int .i64 c.s.f.kind,.int .i64 c.s.f.lo,.int .i64 c.s.f.hi,.int .i64 c.s.f.most,.int .i64 c.s.v.n,.string c.s.v.s,.slice ta c.s.t.length tc,.slice la c.s.l.length lc,.int .i64 c.fi,.slice fa c.L.length fc,.bool c.kn,.int .i64 c.at_,.int .i64 0,.int .i64 0,.int .i64 0,.int .i64 0,.int .i64 0]:Array Value).size si_);have HRG:=hid hm3.whole;have HM2:=hid hm2;clear hb3 hk3 hk2 hm2 hm3))
   | (with_reducible refine wpList_load_mid rfl 93 (.tmp 5) rfl B3 0 rfl [.int .i64 c.s.op,.int .i64 c.s.fm,.int .i64 c.s.fd,.int .i64 c.s.pl,.int .i64 c.s.tt,.int .i64 c.s.a,.int .i64 c.s.b,.int .i64 c.s.f.id,.int .i64 c.s.f.kind,.int .i64 c.s.f.lo,.int .i64 c.s.f.hi,.int .i64 c.s.f.most,.int .i64 c.s.v.n,.string c.s.v.s,.slice ta c.s.t.length tc,.slice la c.s.l.length lc,.int .i64 c.fi,.slice fa c.L.length fc,.bool c.kn,.int .i64 c.at_,.int .i64 0,.int .i64 0,.int .i64 0,.int .i64 0,.int .i64 0] _ HRG.o underlying93 rfl (HIF.o _ _) ?_)
   | (with_reducible refine ax rfl 93 (.tmp 4) (.tmp 34) rfl B2 0 #[.int .i64 c.s.op,.int .i64 c.s.fm,.int .i64 c.s.fd,.int .i64 c.s.pl,.int .i64 c.s.tt,.int .i64 c.s.a,.int .i64 c.s.b,.int .i64 c.s.f.id,.int .i64 c.s.f.kind,.int .i64 c.s.f.lo,.int .i64 c.s.f.hi,.int .i64 c.s.f.most,.int .i64 c.s.v.n,.string c.s.v.s,.slice ta c.s.t.length tc,.slice la c.s.l.length lc,.int .i64 c.fi,.slice fa c.L.length fc,.bool c.kn,.int .i64 c.at_,.int .i64 0,.int .i64 0,.int .i64 0,.int .i64 0,.int .i64 0] rfl rfl HTH.o (HIG.o _ _) (HON.o _ _) ?_))
  intro w4 hw4;go_wp2;have hB4:Block w4 B2 93 [.int .i64 c.s.op,.int .i64 c.s.fm,.int .i64 c.s.fd,.int .i64 c.s.pl,.int .i64 c.s.tt,.int .i64 c.s.a,.int .i64 c.s.b,.int .i64 c.s.f.id,.int .i64 c.s.f.kind,.int .i64 c.s.f.lo,.int .i64 c.s.f.hi,.int .i64 c.s.f.most,.int .i64 c.s.v.n,.string c.s.v.s,.slice ta c.s.t.length tc,.slice la c.s.l.length lc,.int .i64 c.fi,.slice fa c.L.length fc,.bool c.kn,.int .i64 c.at_,.int .i64 0,.int .i64 0,.int .i64 0,.int .i64 0,.int .i64 0]:=by
   have:=HM2.o.setCells (vs:=[.int .i64 c.s.op,.int .i64 c.s.fm,.int .i64 c.s.fd,.int .i64 c.s.pl,.int .i64 c.s.tt,.int .i64 c.s.a,.int .i64 c.s.b,.int .i64 c.s.f.id,.int .i64 c.s.f.kind,.int .i64 c.s.f.lo,.int .i64 c.s.f.hi,.int .i64 c.s.f.most,.int .i64 c.s.v.n,.string c.s.v.s,.slice ta c.s.t.length tc,.slice la c.s.l.length lc,.int .i64 c.fi,.slice fa c.L.length fc,.bool c.kn,.int .i64 c.at_,.int .i64 0,.int .i64 0,.int .i64 0,.int .i64 0,.int .i64 0]) (o:=0)
   exact t164
  have hkp:=HKQ.o.cells (S:=B2) (o:=0) (vs:=[.int .i64 c.s.op,.int .i64 c.s.fm,.int .i64 c.s.fd,.int .i64 c.s.pl,.int .i64 c.s.tt,.int .i64 c.s.a,.int .i64 c.s.b,.int .i64 c.s.f.id,.int .i64 c.s.f.kind,.int .i64 c.s.f.lo,.int .i64 c.s.f.hi,.int .i64 c.s.f.most,.int .i64 c.s.v.n,.string c.s.v.s,.slice ta c.s.t.length tc,.slice la c.s.l.length lc,.int .i64 c.fi,.slice fa c.L.length fc,.bool c.kn,.int .i64 c.at_,.int .i64 0,.int .i64 0,.int .i64 0,.int .i64 0,.int .i64 0]) HLB.o.1 HS2.o;have hw5:=hw4.o;rw [hw5] at hkp;refine bodyPost_ret (aO (b:=B2) (o:=0) rfl rfl hB4.whole underlying93 rfl fC) rfl ?_;exact ⟨_,_,by rw [HOE.o],(gQ hkp.1).1,by rw [hB0.o];exact hkp.2⟩
end typing
end Go.Proofs.YtdnegbkhndekpaaGreat
