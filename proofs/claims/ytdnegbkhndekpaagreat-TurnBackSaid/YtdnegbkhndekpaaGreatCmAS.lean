/- Contracts and lemmas that claims of this seat share: TypingRefOnX. Each says its own conditions. -/
import Derived.Test.YtdnegbkhndekpaaGreatCmWord
import Derived.Test.YtdnegbkhndekpaaGreatCmU
import Derived.Test.YtdnegbkhndekpaaGreatCmAJ
import Derived.Test.YtdnegbkhndekpaaGreatCmAK
import Derived.Test.YtdnegbkhndekpaaGreatCmAL
set_option linter.unusedSimpArgs false
set_option linter.unusedVariables false
namespace Go.Proofs.YtdnegbkhndekpaaGreat
open Go.Proofs.Tryz
namespace typing
open Go.RowKit schema
open field (Gives aC aj)
open step (Lists lH)
set_option maxRecDepth 20000 in
set_option maxHeartbeats 3200000 in
theorem Jc (v:Int) (a:Option Addr) (cap:Nat) (F:List Fm) (s:step.Sp) (ta:Option Addr) (tc:Nat) (la:Option Addr) (lc:Nat) (w:World) (h:FmL w a F) (hF:Small w F) (hl:Lists w s ta la) (hL:s.l.length<=40) (hf:Fit v (forms F) s) (h0:names (forms F) s=0) (h9:¬s.op=9) (h1:¬s.op=1) (h10:¬s.op=10) (p9:schema.Form) (hn9:named (forms F) s.fm=some p9) (ML:List field.Fd) (hT:types (bG p9.2 (ai (ids p9.2) s.fd)) s=(ML,true)) (FIN:List field.Fd) (hFIN:puts (fD p9.2 (ai (ids p9.2) s.fd).toNat) (if s.op=7 then s.pl.toNat else (ai (ids p9.2) s.fd).toNat) ML=FIN) (h7:¬s.op=7) (r:Int×List schema.Form×Nat) (hrE:FIN=[]->r=(0,[],7)) (hrY:FIN≠[]->Right v (bK (forms F) s.fm FIN)->r=(v,bK (forms F) s.fm FIN,0)) (hrM:FIN≠[]->¬Right v (bK (forms F) s.fm FIN)->r=(0,[],7)):
  Calls prog 13 #[zS v a F.length cap,zP s ta tc la lc] w (OnR r w):=by
 obtain ⟨W3,HW3,hbw,hsz3,HX⟩:=kW v a cap F s ta tc la lc w;have hmx:F.length<=maxLen:=by have:=hF.1;unfold maxLen;omega
 have cR:=aP v a cap F W3 (h.below hbw) hmx;unfold Gives at cR;rw [<-HW3.o] at cR;have n1:w.heap.size≠w.heap.size+1+1:=by omega
 have n2:w.heap.size+1≠w.heap.size+1+1:=by omega
 have cS:=fun (w':World) (hb:Below W3.heap.size W3 w')=>step.aP s ta tc la lc w' ((hl.below hbw).below hb)
 unfold Gives at cS;have cN:=fun (w':World) (hb:Below w.heap.size w w')=>gI v a cap F s ta tc la lc w' (h.below hb) hmx
 unfold Gives at cN;have HSZ:Hid (W3.heap.size=w.heap.size+3):=hid hsz3;clear hsz3;rw [decide_eq_true hf.1] at cR;have hf1:=hf.2.1;have hf2:=hf.2.2;simp only [decide_eq_true hf1] at cS;have d10:decide (s.op>10)=false:=decide_eq_false om_;have h0':=h0;rw [h0] at cN;obtain ⟨p0,hn,hp1,hp7,hpf⟩:=lQ hf h0 h9;have HF40:=hid hF.1;have HFM:Hid (∀w',Below W3.heap.size W3 w'->FmL w' a F):=hid (fun w' hb=>(h.below hbw).below hb);rcases nG (forms F) s.fm with ⟨hn',hx⟩ | ⟨p1,j,hn',hx,hj⟩
 ·rw [hn] at hn';cases hn'
 rw [hn] at hn';cases hn'
 have hjl:j<F.length:=by have:=(List.getElem?_eq_some_iff.1 hj).1;rwa [aF] at this
 obtain ⟨b,off,p,ha,hbl,hp,_,_,_,hpl⟩:=dQ (h.below hbw) (Below.refl _ _) hjl;obtain rfl:p0=p.p:=by have:=dR hp;rw [hj] at this;exact Option.some.inj this
 have cFi:=fun (w':World) (hb:Below w.heap.size w w')=>dU v a cap F s.fm w' (h.below hb) hmx
 rw [iJ,hx] at cFi;unfold Gives at cFi;have hp40:p.fL.length<=40:=(hF.2 p (List.mem_of_getElem? hp)).2;have hpc:p.fL.length<=p.fCap:=(h.2 p (List.mem_of_getElem? hp)).cf;have HP40:=hid hp40;have HPC:=hid hpc;have HJ:=hid hjl;have HC0:Hid (∀w',Below W3.heap.size W3 w'->w'.cell? ⟨b,off+j*2,none⟩=some (.int .i64 p.id)/\w'.cell? ⟨b,off+j*2+1,none⟩=some (.slice p.f p.fL.length p.fCap)/\field.Fds w' p.f p.fL):=hid (fun w' hb=>by
  obtain ⟨b2,off2,p2,he,_,hp2,e0,e1,e2,_⟩:=dQ (h.below hbw) hb hjl;cases ha.symm.trans he
  rw [hp] at hp2;cases hp2
  exact ⟨e0,e1,e2⟩)
 subst ha;obtain rfl:p9=p.p:=by rw [hn] at hn9;exact (Option.some.inj hn9).symm
 have hk0:=hpf (by unfold nf;simp [h1,h9,h10]);obtain ⟨hi,hor⟩:=nK hf.1 hn hk0;obtain ⟨i,hi0⟩:∃i:Nat,ai (ids p.p.2) s.fd=(i:Int):=⟨(ai (ids p.p.2) s.fd).toNat,by omega⟩;rw [hi0] at hi hor hT hFIN;simp only [Int.toNat_natCast] at hi hFIN;change i<p.fL.length at hi;obtain ⟨f,hof⟩:∃f,bG p.p.2 (i:Int)=f:=⟨_,rfl⟩;have hfi:p.fL[i]?=some f:=by
  rw [<-hof];unfold bG;rw [if_pos om_,Int.toNat_natCast];change p.fL[i]?=some (p.fL.getD i step.fd0);rw [List.getD_eq_getElem?_getD,List.getElem?_eq_getElem hi];rfl
 rw [hof] at hT hor;have hbq:=vV hf hor;have HBQ:=hid hbq;have HI:=hid hi;have hml2:ML.length<=2:=by have:=um f s;rw [hT] at this;exact this
 obtain ⟨bf,of,f2,hpf2,_,hg2,_⟩:=di (HC0.o _ (Below.refl _ _)).2.2 (Below.refl _ _) hi;have HPF:=hid hpf2;have HOF0:Hid (∀w',Below W3.heap.size W3 w'->w'.rangeAt bf (of+i*5) (zF f)):=hid (fun w' hb=>by
  obtain ⟨b5,o5,f5,e5,_,g5,c0,c1,c2,c3,c4⟩:=di (HC0.o _ hb).2.2 (Below.refl _ _) hi;rw [hpf2] at e5;cases e5
  rw [hfi] at g5;cases g5
  exact nX c0 c1 c2 c3 c4)
 have HTY:=hid hT;have HML:=hid hml2;have HI0:=hid hi0;have HPL:=hid hpl;have HOFX:=HOF0;rw [if_neg h7] at hFIN;obtain ⟨j0,hj0⟩:∃k:Nat,k=i:=⟨_,rfl⟩;replace hFIN:puts (fD p.p.2 i) j0 ML=FIN:=by rw [hj0];exact hFIN
 have HJ0:Hid ((i:Int)=(j0:Int)):=hid (by rw [hj0]);have hj1:j0<p.fL.length:=by omega
 have d7:(s.op == 7)=false:=by simpa using h7
 have HJ1:=hid hj1;replace hFIN:puts (fD p.fL i) j0 ML=FIN:=hFIN;have HFIN:=hid hFIN;have HRE:=hid hrE;have HRY0:=hid hrY;have HRM0:=hid hrM;have HCL:Hid ((fD p.fL i).length+1=p.fL.length):=hid (by unfold fD;simp;omega);have d9:(s.op == 9)=false:=by simpa using h9
 have d1:(s.op == 1)=false:=by simpa using h1
 have d10':(s.op == 10)=false:=by simpa using h10
 unfold OnR;clear h hF hl hL hmx hbw hf h0 h0' hf1 hf2 hx hj hn hp hpl hbl hjl hp40 hpc hpf hp1 hp7 h1 h9 h10 hn9 hk0 hor hi0 hof hfi hT hbq hi hml2 hpf2 hg2 hFIN h7 hj0 hj1 hrE hrY hrM;go_enter func13,ntmps13;go_wp2_with (first
  | (go_at_call 30;((with_reducible refine cR.mono ?_);rintro e w1 ⟨rfl,hb1⟩;rw [HW3.o] at hb1;obtain ⟨k0,k1,k2,kb⟩:=HX.o _ hb1;have z0:=k0.cell 0;have z1:=k0.cell 1;have y0:=k1.cell 0;have y1:=k1.cell 1;have y2:=k1.cell 2;have y3:=k1.cell 3;have y4:=k1.cell 4;have y5:=k1.cell 5;have y6:=k1.cell 6;have y7:=k1.cell 7;have y8:=k1.cell 8;have y9:=k1.cell 9;have y10:=k1.cell 10;have y11:=k1.cell 11;have y12:=k1.cell 12;have y13:=k1.cell 13;have y14:=k1.cell 14;have y15:=k1.cell 15;have x0:=k2.cell 0;have x1:=k2.cell 1;have f0:=k2.frozen 0;have f1:=k2.frozen 1;have K2:=hid k2;have KB:=hid kb;clear k0 k1 k2 kb))
  | (go_at_call 31;((with_reducible refine (cS _ hb1).mono ?_);rintro e w2 ⟨rfl,hb2⟩;have hb1:=hb1.trans (hb2.mono hb1.size);obtain ⟨k0,k1,k2,kb⟩:=HX.o _ hb1;have z0:=k0.cell 0;have z1:=k0.cell 1;have y0:=k1.cell 0;have y1:=k1.cell 1;have y2:=k1.cell 2;have y3:=k1.cell 3;have y4:=k1.cell 4;have y5:=k1.cell 5;have y6:=k1.cell 6;have y7:=k1.cell 7;have y8:=k1.cell 8;have y9:=k1.cell 9;have y10:=k1.cell 10;have y11:=k1.cell 11;have y12:=k1.cell 12;have y13:=k1.cell 13;have y14:=k1.cell 14;have y15:=k1.cell 15;have x0:=k2.cell 0;have x1:=k2.cell 1;have f0:=k2.frozen 0;have f1:=k2.frozen 1;have K2:=hid k2;have KB:=hid kb;clear k0 k1 k2 kb))
  | (go_at_call 32;((with_reducible refine (cN _ KB.o).mono ?_);rintro e w3 ⟨rfl,hb3⟩;have hb1:=hb1.trans (hb3.mono hb1.size);obtain ⟨k0,k1,k2,kb⟩:=HX.o _ hb1;have z1w:=k1.cell 1;have HB3:=hid hb1;have hN:=aC w3 (.cells (zS s.fm none 0 0) 57);have hb4:=hb1.trans (hN.mono hb1.size);have HS3:=hid hb1.size;clear k0 k1 k2 kb;obtain ⟨k0,k1,k2,kb⟩:=HX.o _ hb4;have HFB:=hid (Fb.new s.fm w3);have z0:=k0.cell 0;have z1:=k0.cell 1;have y0:=k1.cell 0;have y1:=k1.cell 1;have y2:=k1.cell 2;have y3:=k1.cell 3;have y4:=k1.cell 4;have y5:=k1.cell 5;have y6:=k1.cell 6;have y7:=k1.cell 7;have y8:=k1.cell 8;have y9:=k1.cell 9;have y10:=k1.cell 10;have y11:=k1.cell 11;have y12:=k1.cell 12;have y13:=k1.cell 13;have y14:=k1.cell 14;have y15:=k1.cell 15;have x0:=k2.cell 0;have x1:=k2.cell 1;have f0:=k2.frozen 0;have f1:=k2.frozen 1;have K2:=hid k2;have KB:=hid kb;clear k0 k1 k2 kb;have HN4:=hid hN;have HB4:=hid hb4;clear hN hb4)))
 obtain ⟨W4,hW4⟩:∃x,Hid (w3.alloc (.cells (zS s.fm none 0 0) 57)=x):=⟨_,hid rfl⟩;rw [hW4.o] at HN4 HB4 HFB ⊢;obtain ⟨fb,hfb⟩:∃x,Hid (w3.heap.size=x):=⟨_,hid rfl⟩;have HNF:Hid (w.heap.size+3<=fb):=hid (by have:=HS3.o;have:=HSZ.o;have:=hfb.o;omega);have HB3':=HB3;have HC:Hid (∀w',Below fb w3 w'->(Block w' w.heap.size 24 (zS v (some ⟨b,off,none⟩) F.length cap)/\Block w' (w.heap.size+1) 32 (zP s ta tc la lc)/\Block w' (w.heap.size+1+1) 24 [.int .i64 0,.slice none 0 0]/\Below w.heap.size w w')/\w'.cell? ⟨b,off+j*2+1,none⟩=some (.slice p.f p.fL.length p.fCap)/\field.Fds w' p.f p.fL/\FmL w' (some ⟨b,off,none⟩) F):=hid (fun w' hb=>by
  rw [<-hfb.o] at hb;have h3:=HB3'.o.trans (hb.mono HB3'.o.size);exact ⟨HX.o _ h3,(HC0.o _ h3).2.1,(HC0.o _ h3).2.2,HFM.o _ h3⟩)
 have HB3f:Hid (∀w',Below fb w3 w'->Below W3.heap.size W3 w'):=hid (fun w' hb=>by rw [<-hfb.o] at hb;exact HB3'.o.trans (hb.mono HB3'.o.size));rw [hfb.o] at HFB;rw [hfb.o];have HOF:Hid (∀w',Below fb w3 w'->w'.rangeAt bf (of+i*5) (zF f)):=hid (fun w' hb=>HOFX.o _ (HB3f.o _ hb));clear z0 z1 z1w y0 y1 y2 y3 y4 y5 y6 y7 y8 y9 y10 y11 y12 y13 y14 y15 x0 x1 f0 f1 K2 KB cN cR cS HB3 HB3' hW4 hb1 hb3 HN4 HB4;have hS:Below fb w3 W4.drew:=below_drewN HFB.o.below 1;have hT:Below W4.heap.size W4 W4.drew:=below_drewN (Below.refl _ _) 1;have HLT:=HFB.o.box.lt;refine plan.bD (S:=fun w'=>Below fb w3 w') ?_;generalize W4.drew=wd at *;refine plan.af 0 _ (.pointer (some ⟨w.heap.size,1,none⟩)) rfl (fun w' hS'=>kr_) hS ?_;refine plan.af 1 _ (.slice (some ⟨b,off,none⟩) F.length cap) rfl (fun w' hS'=>ay (ad:=⟨w.heap.size,1,none⟩) rfl ((HC.o _ hS').1.1.cell 1) isAgg22) hS ?_;refine plan.af 2 _ (zS v (some ⟨b,off,none⟩) F.length cap) rfl (fun w' hS'=>ak (b:=w.heap.size) (off:=0) rfl (HC.o _ hS').1.1.whole underlying24 rfl uZ.o) hS ?_;refine plan.af 3 _ (.pointer (some ⟨w.heap.size+1,1,none⟩)) rfl (fun w' hS'=>kr_) hS ?_;refine plan.af 4 _ (.int .i64 s.fm) rfl (fun w' hS'=>ah (ad:=⟨w.heap.size+1,1,none⟩) rfl kr_ ((HC.o _ hS').1.2.1.cell 1) isAgg3) hS ?_;refine plan.fJ 5 _ 14 #[zS v (some ⟨b,off,none⟩) F.length cap,.int .i64 s.fm] rfl ((cFi _ (HC.o _ hS).1.2.2.2).mono ?_);rintro e w5 ⟨rfl,hb5⟩;have hS5:Below fb w3 w5:=hS.trans (hb5.mono (by have:=hT.size;omega));have hT5:Below W4.heap.size W4 w5:=hT.trans (hb5.mono hT.size);refine ⟨_,rfl,hS5, ?_⟩;clear hS hT hb5;refine plan.af 6 _ (.pointer (some ⟨b,off+j*2,none⟩)) rfl (fun w' hS'=>dn (b:=b) (off:=off) (len:=F.length) (cap:=cap) (i:=j) rfl HJ.o) hS5 ?_;refine plan.af 7 _ (.pointer (some ⟨b,off+j*2+1,none⟩)) rfl (fun w' hS'=>kr_) hS5 ?_;refine plan.af 8 _ (.slice p.f p.fL.length p.fCap) rfl (fun w' hS'=>ay (ad:=⟨b,off+j*2+1,none⟩) rfl ((HC.o _ hS').2.1) isAgg30) hS5 ?_;refine plan.bI (w1:=w5) 9 _ (.slice p.f p.fL.length p.fCap) rfl rfl hS5 ?_;refine plan.gm ?_;have K5:=HC.o _ hS5;have y2:=K5.1.2.1.cell 2;have cA:Calls prog 23 #[.agg #[.int .i64 0,.slice p.f p.fL.length p.fCap],.int .i64 s.fd] w5 (Gives (.int .i64 (i:Int)) w5):=by
  have:=lD 0 p.f p.fCap p.fL s.fd w5 K5.2.2.1 HPL.o;rw [show ai (ids p.fL) s.fd=(i:Int) from HI0.o] at this;exact this
 unfold Gives at cA;clear K5;walk_nrm;go_wp2_with (go_at_call 23;((with_reducible refine cA.mono ?_);rintro e w6 ⟨rfl,hb6⟩));have hS6:Below fb w3 w6.drew:=below_drewN (hS5.trans (hb6.mono (by have:=hT5.size;omega))) 1;have hT6:Below W4.heap.size W4 w6.drew:=below_drewN (hT5.trans (hb6.mono hT5.size)) 1;clear cA y2 hb6 hS5 hT5 cFi;refine plan.bD (S:=fun w'=>Below fb w3 w') ?_;generalize w6.drew=wd at *;refine plan.af 0 _ (.slice p.f p.fL.length p.fCap) rfl (fun w' hS'=>kr_) hS6 ?_;refine plan.af 1 _ (.int .i64 (i:Int)) rfl (fun w' hS'=>kr_) hS6 ?_;refine plan.af 2 _ (.pointer (some ⟨bf,of+i*5,none⟩)) rfl (fun w' hS'=>fB (b:=bf) (off:=of) (len:=p.fL.length) (cap:=p.fCap) (i:=i) rfl (hx:=(Eq.trans (b:=.slice p.f p.fL.length p.fCap) kr_ (by rw [HPF.o]))) HI.o) hS6 ?_;refine plan.af 3 _ (zF f) rfl (fun w' hS'=>ak (b:=bf) (off:=of+i*5) rfl (HOF.o _ hS') underlying26 rfl aX.o) hS6 ?_;refine plan.af 4 _ (zP s ta tc la lc) rfl (fun w' hS'=>ak (b:=w.heap.size+1) (off:=0) rfl (HC.o _ hS').1.2.1.whole underlying32 rfl oG) hS6 ?_;have cTy:=oH f s ta tc la lc wd HBQ.o.1 HBQ.o.2;rw [HTY.o] at cTy;unfold iy at cTy;refine plan.fJ 5 _ 34 #[zF f,zP s ta tc la lc] rfl (cTy.mono ?_);rintro e w7 ⟨hb7,g,rfl,hg7⟩;have hS8:Below fb w3 w7:=hS6.trans (hb7.mono (by have:=hT6.size;omega));have hT8:Below W4.heap.size W4 w7:=hT6.trans (hb7.mono hT6.size);refine ⟨_,rfl,hS8, ?_⟩;have HGG:Hid (ML≠[]->∃bg,fb<bg/\g=some ⟨bg,0,none⟩/\Block w7 bg 26 (fdV ML)):=hid (fun hne=>by
  rcases hg7 with ⟨h,_⟩ | ⟨bg,h2,h3,h4⟩
  ·exact absurd h hne
  ·exact ⟨bg,by have:=hT6.size;omega,h3,h4⟩)
 clear hg7 hb7 hS6 hT6 cTy;refine plan.af 6 _ (.tuple #[.slice g ML.length ML.length,.bool true]) rfl (fun w' hS'=>kr_) hS8 ?_;refine plan.af 7 _ (.slice g ML.length ML.length) rfl (fun w' hS'=>kr_) hS8 ?_;refine plan.af 8 _ (.bool true) rfl (fun w' hS'=>kr_) hS8 ?_;refine plan.bI (w1:=w7) 9 _ (.slice g ML.length ML.length) rfl rfl hS8 ?_;refine plan.bI (w1:=w7) 10 _ (.bool true) rfl rfl hS8 ?_;refine plan.gm ?_;walk_nrm;obtain ⟨⟨k0,k1,k2,kb⟩,_,kf7,_⟩:=HC.o _ hS8;have cC:=ku p.f p.fCap p.fL i w7 kf7 HI.o HPC.o (by have:=HP40.o;omega);unfold jk at cC;have hF7:=HFB.o.later hT8;have n5:w.heap.size+1≠fb:=by have:=HNF.o;omega
 clear k0 k1 k2 kb kf7 HFB;go_wp2_with (go_at_call 35;((with_reducible refine cC.mono ?_);rintro e w8 ⟨q,rfl,ho8,hb8⟩;obtain ⟨ua,uc,rfl,_⟩:=aB ho8;have hk8:=hF7.box.later hb8;have c1:=hk8.cell 1;have g1:=hk8.frozen 1;have k1:=(HC.o _ (hS8.trans (hb8.mono (by have:=hT8.size;omega)))).1.2.1;have y0:=k1.cell 0;have y3:=k1.cell 3;clear k1 hk8));have HFB:=hid (hF7.put ho8 hb8);have HGB:Hid (ML≠[]->∃bg,fb<bg/\g=some ⟨bg,0,none⟩/\Block (w8.setCell ⟨fb,1,none⟩ (.slice ua (fD p.fL i).length uc)) bg 26 (fdV ML)):=hid (fun hne=>by
  obtain ⟨bg,h1,h2,h3⟩:=HGG.o hne;exact ⟨bg,h1,h2,(h3.later hb8).apart _ _ _ om_⟩)
 clear hF7 ho8 hb8 hS8 hT8 HGG cC c1 g1 y0 y3;generalize w8.setCell ⟨fb,1,none⟩ (.slice ua (fD p.fL i).length uc)=wl at *;go_loopw [12] (fun n wr=>∃(k:Nat) (za:Option Addr) (zc:Nat) (cur:List field.Fd),k<=ML.length/\n=.int .i64 (k:Int)/\Hid (Fb fb s.fm (.slice za cur.length zc) cur w3 wr)/\Hid (cur.length+1=p.fL.length+k)/\Hid (puts cur (j0+k) (ML.drop k)=FIN)/\Hid (ML≠[]->∃bg,fb<bg/\g=some ⟨bg,0,none⟩/\Block wr bg 26 (fdV ML))) (fun n _=>ML.length - (intOf n).toNat);case atStart=>exact ⟨0,ua,uc,fD p.fL i,Nat.zero_le _,rfl,HFB,hid (by have:=HCL.o;omega),hid (by simpa using HFIN.o),HGB⟩
 case round=>
  obtain ⟨k,za,zc,cur,hk,rfl,HFB,HCU,HQ,HGB⟩:=hrel;have HML2:=HML.o;have hp40:=HP40.o;by_cases hlt:k<ML.length
  ·obtain ⟨bg,hbg,rfl,hBG⟩:=HGB.o (by intro e;rw [e] at hlt;cases hlt);have i1:(k:Int)<ML.length:=by omega
   obtain ⟨m,hm⟩:∃m,ML[k]?=some m:=⟨_,List.getElem?_eq_getElem hlt⟩;have hq:=HQ.o;rw [show ML.drop k=m :: ML.drop (k+1) by rw [List.drop_eq_getElem_cons hlt];congr 1;rw [List.getElem?_eq_getElem hlt] at hm;exact Option.some.inj hm] at hq;unfold puts at hq;have HQ2:=hid hq;have HKL:=hid hlt;have HMM:=hid hm;clear hq hm HQ HGB;go_wp2;have hF1:=HFB.o.later (w':=wr.drew) (below_drewN (Below.refl _ _) 1);have hB1:=hBG.later (w':=wr.drew) (below_drewN (Below.refl _ _) 1);clear HFB hBG;refine plan.bD (S:=fun w'=>Below fb w3 w'/\Block w' bg 26 (fdV ML)) ?_;generalize wr.drew=wd at *;have hS:Below fb w3 wd/\Block wd bg 26 (fdV ML):=⟨hF1.below,hB1⟩;refine plan.af 0 _ (.pointer (some ⟨fb,1,none⟩)) rfl (fun w' hS'=>kr_) hS ?_;refine plan.af 2 _ (.int .i64 (i:Int)) rfl (fun w' hS'=>kr_) hS ?_;refine plan.af 3 _ (.int .i64 (k:Int)) rfl (fun w' hS'=>kr_) hS ?_;refine plan.af 4 _ (.int .i64 ((i:Int)+(k:Int))) rfl (fun w' hS'=>yQ rfl (by have:=HJ0.o;have:=HJ1.o;have:=HP40.o;have:=HKL.o;have:=HML.o;omega)) hS ?_;refine plan.af 5 _ (.slice (some ⟨bg,0,none⟩) ML.length ML.length) rfl (fun w' hS'=>kr_) hS ?_;refine plan.af 6 _ (.int .i64 (k:Int)) rfl (fun w' hS'=>kr_) hS ?_;refine plan.af 7 _ (.pointer (some ⟨bg,0+k*5,none⟩)) rfl (fun w' hS'=>fB (b:=bg) (off:=0) (len:=ML.length) (cap:=ML.length) (i:=k) rfl HKL.o) hS ?_;refine plan.af 8 _ (zF m) rfl (fun w' hS'=>ak (b:=bg) (off:=0+k*5) rfl (uH hS'.2 HMM.o) underlying26 rfl aX.o) hS ?_;refine plan.bI (w1:=wd) 1 _ (.slice za cur.length zc) rfl rfl (hv:=(ay (ad:=⟨fb,1,none⟩) rfl (hF1.box.cell 1) isAgg30)) hS ?_;have cP:Calls prog 33 #[.slice za cur.length zc,.int .i64 ((i:Int)+(k:Int)),zF m] wd (jk (dK cur (j0+k) m) wd):=by
    rw [HJ0.o,show ((j0:Int)+(k:Int))=((j0+k:Nat):Int) by push_cast;rfl];exact iR za zc cur (j0+k) m wd (hF1.fds rfl).1 (by have:=HCU.o;have:=HJ1.o;omega) (hF1.fds rfl).2 (by have:=HCU.o;have:=HP40.o;have:=HML.o;omega)
   refine plan.fJ 9 _ 33 #[.slice za cur.length zc,.int .i64 ((i:Int)+(k:Int)),zF m] rfl (cP.mono ?_);rintro e w9 ⟨q,rfl,ho9,hb9⟩;obtain ⟨xa,xc,rfl,_⟩:=aB ho9;have hS9:Below fb w3 w9/\Block w9 bg 26 (fdV ML):=⟨hS.1.trans (hb9.mono (by have:=hF1.box.lt;omega)),hS.2.later hb9⟩;have hk:=hF1.box.later hb9;refine ⟨_,rfl,hS9, ?_⟩;have hF9:=hF1.put (l2:=dK cur (j0+k) m) ho9 hb9;have hS10:Below fb w3 (w9.setCell ⟨fb,1,none⟩ (.slice xa (dK cur (j0+k) m).length xc))/\Block (w9.setCell ⟨fb,1,none⟩ (.slice xa (dK cur (j0+k) m).length xc)) bg 26 (fdV ML):=⟨below_setCells hS9.1 (Nat.le_refl _) 1 [_],hS9.2.apart _ _ _ om_⟩;refine plan.bI (w1:=w9) 10 _ (.pointer (some ⟨fb,1,none⟩)) rfl rfl hS9 ?_;refine plan.iQ (w1:=w9.setCell ⟨fb,1,none⟩ (.slice xa (dK cur (j0+k) m).length xc)) 11 _ rfl rfl rfl (mF rfl (hk.cell 1) (hk.frozen 1)) hS10 ?_;generalize w9.setCell ⟨fb,1,none⟩ (.slice xa (dK cur (j0+k) m).length xc)=w10 at *;have hcu:=HCU.o;have hjj:=HJ1.o;have hpll:(dK cur (j0+k) m).length=cur.length+1:=by unfold dK;simp;omega
   have HCU2:Hid ((dK cur (j0+k) m).length+1=p.fL.length+(k+1)):=hid (by rw [hpll];omega);have HQ3:Hid (puts (dK cur (j0+k) m) (j0+(k+1)) (ML.drop (k+1))=FIN):=hid (by have:=HQ2.o;rwa [show j0+k+1=j0+(k+1) by omega] at this);have HF9:=hid hF9;have HG9:Hid (ML≠[]->∃b2,fb<b2/\some (⟨bg,0,none⟩:Addr)=some ⟨b2,0,none⟩/\Block w10 b2 26 (fdV ML)):=hid (fun _=>⟨bg,hbg,rfl,hS10.2⟩);clear hcu hjj hpll hF9 hS10 hS9 hS hk ho9 hb9 hF1 hB1 cP HQ2 HCU HMM HKL;walk_nrm;go_wp2;exact ⟨⟨k+1,xa,xc,dK cur (j0+k) m,by omega,by go_num,HF9,HCU2,HQ3,HG9⟩,by simp [intOf];omega⟩
  ·obtain rfl:k=ML.length:=by omega
   have hq:=HQ.o;rw [List.drop_of_length_le (Nat.le_refl _)] at hq;unfold puts at hq;obtain rfl:FIN=cur:=hq.symm;clear HQ HGB;by_cases hE:FIN=[]
   ·have he:(((FIN.length:Nat):Int) == 0)=true:=by rw [hE];rfl
    obtain rfl:=HRE.o hE;have c1:=HFB.o.box.cell 1;obtain ⟨⟨k0,k1,k2,kb⟩,_⟩:=HC.o _ HFB.o.below;have z0:=k0.cell 0;have z1:=k0.cell 1;have x0:=k2.cell 0;have x1:=k2.cell 1;have f0:=k2.frozen 0;have f1:=k2.frozen 1;have K2:=hid k2;have KB:=hid kb;clear k0 k1 k2 kb;clear hE;go_wp2;have hB:=(K2.o.setCell 0 (.int .i64 0)).setCell 1 (.slice none 0 0);refine bodyPost_ret (au (b:=w.heap.size+1+1) (o:=0) rfl rfl hB.whole underlying24 rfl (bT _ _)) rfl ?_;exact ⟨none,0,[],rfl,⟨.inl rfl,by simp⟩,rfl,(fun z hz=>by cases hz),below_setCells (below_setCells KB.o om_ 0 [_]) om_ 1 [_]⟩
   ·have he:(((FIN.length:Nat):Int) == 0)=false:=by
     cases hh:FIN with
     | nil=>exact absurd hh hE
     | cons x r=>simp;omega
    have HRY:=hid (HRY0.o hE)
    have HRM:=hid (HRM0.o hE)
    have HBW:=hid (HB3f.o _ HFB.o.below)
    obtain ⟨fa,hfa⟩:∃fa,fa=za:=⟨_,rfl⟩
    obtain ⟨fc,hfc⟩:∃fc,fc=zc:=⟨_,rfl⟩
    rw [<-hfa,<-hfc] at HFB
    clear hk HCU hE
    obtain ⟨k0,k1,k2,kb⟩:=HX.o _ HBW.o
    have z0:=k0.cell 0
    have z1:=k0.cell 1
    have x0:=k2.cell 0
    have x1:=k2.cell 1
    have f0:=k2.frozen 0
    have f1:=k2.frozen 1
    have K2:=hid k2
    have KB:=hid kb
    clear k0 k1 k2 kb
    have HW:Hid (w.heap.size+3<=wr.heap.size):=hid (by have:=HBW.o.size;have:=HSZ.o;omega)
    have cT:Calls prog 36 #[zS v (some ⟨b,off,none⟩) F.length cap,.agg #[.int .i64 s.fm,.slice fa (FIN).length fc]] wr _:=jY v (some ⟨b,off,none⟩) cap F s.fm fa fc (FIN) wr (HFM.o _ HBW.o) HF40.o (Fb.ok HFB.o)
    unfold oI at cT
    have c0:=HFB.o.box.cell 0
    have c1:=HFB.o.box.cell 1
    rw [hfa,hfc] at c1 cT
    clear hfa hfc
    go_wp2_with ((go_at_call 36;((with_reducible refine cT.mono ?_);rintro e w7 ⟨y,yc,G,rfl,hG,hfo,hfar,hb7⟩;have hN7:=aC w7 (.cells (zS v y G.length yc) 24);have hB7:=HBW.o.trans ((hb7.trans (hN7.mono hb7.size)).mono HBW.o.size);obtain ⟨k0,k1,k2,kb⟩:=HX.o _ hB7;have KX:=hid (Block.new w7 24 (zS v y G.length yc));have q0:=KX.o.cell 0;have q1:=KX.o.cell 1;have HG:=hid (hG.below hN7);have HFO:=hid hfo;have HFAR:=hid hfar;have HGL:Hid (G.length<=maxLen):=hid (by have h8:=lW (forms F) s.fm FIN;rw [<-hfo,aF,aF] at h8;have:=HF40.o;unfold maxLen;omega);have x0:=k2.cell 0;have x1:=k2.cell 1;have f0:=k2.frozen 0;have f1:=k2.frozen 1;have K2:=hid k2;have KB:=hid kb;clear k0 k1 k2 kb hG hfo hfar)))
    by_cases hR:Right v (bK (forms F) s.fm FIN)
    ·have HR:=hid hR
     obtain rfl:=HRY.o hR
     clear hR
     go_wp2_with ((go_at_call 30;((with_reducible refine (aP v y yc G _ HG.o HGL.o).mono ?_);unfold Gives;rw [decide_eq_true (show Right v (forms G) by rw [HFO.o];exact HR.o)];rintro e w8 ⟨rfl,hb8⟩;have hB8:=hB7.trans (hb8.mono hB7.size);obtain ⟨k0,k1,k2,kb⟩:=HX.o _ hB8;have kx8:=KX.o.later hb8;have q0:=kx8.cell 0;have q1:=kx8.cell 1;have x0:=k2.cell 0;have x1:=k2.cell 1;have f0:=k2.frozen 0;have f1:=k2.frozen 1;have K2:=hid k2;have KB:=hid kb;clear k0 k1 k2 kb kx8)))
     have hB:=(K2.o.setCell 0 (.int .i64 v)).setCell 1 (.slice y G.length yc)
     refine bodyPost_ret (au (b:=w.heap.size+1+1) (o:=0) rfl rfl hB.whole underlying24 rfl (bT _ _)) rfl ?_
     have hne:G≠[]->∀z,y=some z->z.block≠w.heap.size+1+1:=fun _ z hz=>by have:=HFAR.o z hz;have:=HW.o;omega
     exact ⟨y,yc,G,rfl,jq (jq (HG.o.below hb8) hne K2.o si_) hne (K2.o.setCell 0 (.int .i64 v)) si_,HFO.o,(fun z hz=>by have:=HFAR.o z hz;have:=HW.o;omega),below_setCells (below_setCells KB.o om_ 0 [_]) om_ 1 [_]⟩
    ·have HR:=hid hR
     obtain rfl:=HRM.o hR
     clear hR
     go_wp2_with ((go_at_call 30;((with_reducible refine (aP v y yc G _ HG.o HGL.o).mono ?_);unfold Gives;rw [decide_eq_false (show ¬Right v (forms G) by rw [HFO.o];exact HR.o)];rintro e w8 ⟨rfl,hb8⟩;have hB8:=hB7.trans (hb8.mono hB7.size);obtain ⟨k0,k1,k2,kb⟩:=HX.o _ hB8;have kx8:=KX.o.later hb8;have q0:=kx8.cell 0;have q1:=kx8.cell 1;have x0:=k2.cell 0;have x1:=k2.cell 1;have f0:=k2.frozen 0;have f1:=k2.frozen 1;have K2:=hid k2;have KB:=hid kb;clear k0 k1 k2 kb kx8)))
     have hB:=(K2.o.setCell 0 (.int .i64 0)).setCell 1 (.slice none 0 0)
     refine bodyPost_ret (au (b:=w.heap.size+1+1) (o:=0) rfl rfl hB.whole underlying24 rfl (bT _ _)) rfl ?_
     exact ⟨none,0,[],rfl,⟨.inl rfl,by simp⟩,rfl,(fun z hz=>by cases hz),below_setCells (below_setCells KB.o om_ 0 [_]) om_ 1 [_]⟩
end typing
end Go.Proofs.YtdnegbkhndekpaaGreat
