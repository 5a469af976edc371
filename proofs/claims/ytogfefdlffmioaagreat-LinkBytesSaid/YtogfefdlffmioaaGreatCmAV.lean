/- Contracts and lemmas that claims of this seat share: Boxes, StepRange, StepRefSameL, PenRefSight, StepRefTake. Each says its own conditions. -/
import Derived.Test.YtogfefdlffmioaaGreatCmWord
import Derived.WalkMore
import Derived.Test.YtogfefdlffmioaaGreatCmD
import Derived.Test.YtogfefdlffmioaaGreatCmAI
import Derived.Test.YtogfefdlffmioaaGreatCmAS
import Derived.Test.YtogfefdlffmioaaGreatCmAB
import Derived.Test.YtogfefdlffmioaaGreatCmAR
import Derived.Test.YtogfefdlffmioaaGreatCmK
import Derived.Test.YtogfefdlffmioaaGreatCmAA
import Derived.Test.YtogfefdlffmioaaGreatCmAU
set_option linter.unusedVariables false
namespace Go.Proofs.YtogfefdlffmioaaGreat
open Go.Proofs.Tryz
section
open Go Go.RowKit
def boxes:World->List (TypeId×List Value)->World
 | w,[]=>w
 | w,(t,cs) :: r=>boxes (w.alloc (.cells cs.toArray t)) r
def Boxed(w:World):Nat->List (TypeId×List Value)->Prop
 | _,[]=>True
 | b,(t,cs) :: r=>Block w b t cs/\Boxed w (b+1) r
theorem Boxed.later{w w':World}(hb:Below w.heap.size w w'):∀ {b:Nat} {l:List (TypeId×List Value)},Boxed w b l->Boxed w' b l
 | _,[],_=>trivial
 | _,(_,_) :: _,⟨h,k⟩=>⟨h.later hb,Boxed.later hb k⟩
theorem boxes_all:∀(l:List (TypeId×List Value)) (w:World),Below w.heap.size w (boxes w l)/\(boxes w l).heap.size=w.heap.size+l.length/\Boxed (boxes w l) w.heap.size l
 | [],w=>⟨Below.refl _ _,rfl,trivial⟩
 | (t,cs) :: r,w=>by
  obtain⟨h1,h2,h3⟩:=boxes_all r (w.alloc (.cells cs.toArray t));have hn:Below w.heap.size w (w.alloc (.cells cs.toArray t)):=(Below.refl _ _).alloc (Nat.le_refl _) _;have hs:(w.alloc (.cells cs.toArray t)).heap.size=w.heap.size+1:=by simp
  unfold boxes;refine⟨hn.trans (h1.mono hn.size),by rw[h2,hs,List.length_cons];omega,(Block.new w t cs).later h1, ?_⟩;rw[<-hs];exact h3
theorem boxes_name(w:World)(l:List (TypeId×List Value)):∃W,Hid (boxes w l=W)/\Below w.heap.size w W/\Hid (W.heap.size=w.heap.size+l.length)/\Hid (∀w',Below W.heap.size W w'->Boxed w' w.heap.size l/\Below w.heap.size w w'):=
 ⟨_,hid rfl,(boxes_all l w).1,hid (boxes_all l w).2.1,hid fun w' hb=>⟨(boxes_all l w).2.2.later hb,(boxes_all l w).1.trans (hb.mono (boxes_all l w).1.size)⟩⟩
end
namespace step
open Go.RowKit
theorem exec_indexP{o:Oper}{a:Act}{w:World}{x y:Operand}{b off len cap i:Nat}(ho:o.op=.indexAddr 25 x y)(hi:i<len)(hx:a.eval x=.slice (some ⟨b,off,none⟩) len cap:=by kernel_rfl)(hy:a.eval y=.int .i64 (i:Int):=by kernel_rfl):
  (execOp a.eval o).run prog w=.ok (.value (.pointer (some ⟨b,off+i*16,none⟩))) w:=by
 exact t85
theorem step_range{w w':World}{a:Option Addr}{L:List St}(h:StL w a L)(hb:Below w.heap.size w w'){k:Nat}(hk:k<L.length):
  ∃b off p,a=some ⟨b,off,none⟩/\b<w'.heap.size/\L[k]?=some p/\Lists w' p.s p.ta p.la/\w'.rangeAt b (off+k*16) p.C:=by
 have h':=h.below hb;rcases h'.row with rfl | ⟨b,off,ha,au,hc⟩
 ·simp at hk
 ·have hp:=List.getElem?_eq_getElem hk;exact⟨b,off,_,ha,au,hp,h'.each _ (List.mem_of_getElem? hp),fun j v hj=>hc k _ hp j v hj⟩
end step
namespace step
open Go.RowKit
open field (Gives newB gives_from)
open schema (below_out below_drew exec_load_at range_later take_succ_at)
theorem eq_succ{L M:List Sp}{k:Nat}{p q:Sp}(hp:L[k]?=some p)(hq:M[k]?=some q):L.take (k+1)=M.take (k+1)↔L.take k=M.take k/\p=q:=by
 rw[take_succ_at hp,take_succ_at hq];constructor
 ·exact t94
 ·rintro⟨h1,h2⟩;rw[h1,h2]
set_option maxRecDepth 20000 in
set_option maxHeartbeats 1600000 in
theorem refSameList_any(a:Option Addr)(c:Nat)(L:List St)(b:Option Addr)(d:Nat)(M:List St)(w:World)(h:StL w a L)(h':StL w b M)(hL:L.length<=maxLen)(hM:M.length<=maxLen):
  Calls prog 35 #[.slice a L.length c,.slice b M.length d] w (Gives (.bool (decide (sps L=sps M))) w):=by
 have hml:(L.length:Int)<=9223372036854775807:=by unfold maxLen at hL;omega
 have hmm:(M.length:Int)<=9223372036854775807:=by unfold maxLen at hM;omega
 have HF:=hid h;have HG:=hid h';have HLN:=hid (sps_length L);have HMN:=hid (sps_length M);obtain⟨r,hr⟩:∃r:Bool,Hid (decide (sps L=sps M)=r):=⟨_,rfl⟩;rw[hr.o];unfold Gives;clear h h' hL hM;by_cases hlen:L.length=M.length
 ·have HLEN:=hid hlen;rw[<-hlen];clear hlen hmm;go_enter func35,ntmps35;go_wp2;go_loopw [5] (fun n wr=>∃k:Nat,k<=L.length/\n=.int .i64 (k:Int)/\Hid ((sps L).take k=(sps M).take k)/\Hid (Below w.heap.size w wr)) (fun n _=>L.length - (intOf n).toNat);case atStart=>exact⟨0,Nat.zero_le _,rfl,hid rfl,hid (Below.refl _ _)⟩
  case round=>
   obtain⟨k,hk,rfl,HEQ,HB⟩:=hrel;by_cases au:k<L.length
   ·obtain⟨g,off,p,rfl,bQ,hp,lV,c0⟩:=step_range HF.o (below_drew HB.o) au;obtain⟨g',off',q,rfl,fC,hq,lW,d0⟩:=step_range HG.o (below_drew HB.o) (k:=k) (by rw[<-HLEN.o];exact au);have i1:(k:Int)<L.length:=by omega
    have HS:=hid (eq_succ (sps_at hp) (sps_at hq));have HNE:=hid (fun(aS:¬p.s=q.s)=>show ¬sps L=sps M from fun e=>by have h1:=sps_at hp;rw[e] at h1;exact aS (Option.some.inj (h1.symm.trans (sps_at hq))));obtain⟨s,ta,tc,la,lc⟩:=p;obtain⟨u,ua,uc,va,vc⟩:=q;simp only at HS HNE c0 d0 lV lW;have cS:=refSame_any s ta tc la lc u ua uc va vc wr.drew lV lW;unfold Gives at cS;have HP1:Hid (wr.drew.rangeAt g (off+k*16) (zP s ta tc la lc)):=hid c0;have HP2:Hid (wr.drew.rangeAt g' (off'+k*16) (zP u ua uc va vc)):=hid d0;have HL1:=hid bQ;have HL2:=hid fC;clear hp hq lV lW c0 d0;by_cases aS:s=u
    ·rw[decide_eq_true aS] at cS;have HPQ:=hid aS;clear aS;go_wp2;refine plan.regionS (S:=fun w'=>Below wr.drew.heap.size wr.drew w') ?_;have hS:=Below.refl wr.drew.heap.size wr.drew;refine plan.firstS 0 _ (.slice (some ⟨g,off,none⟩) L.length c) rfl (fun w' aJ=>kr_) hS ?_;refine plan.firstS 1 _ (.int .i64 (k:Int)) rfl (fun w' aJ=>kr_) hS ?_;refine plan.firstS 2 _ (.pointer (some ⟨g,off+k*16,none⟩)) rfl (fun w' aJ=>exec_indexP (cap:=c) rfl au) hS ?_;refine plan.firstS 3 _ (zP s ta tc la lc) rfl (fun w' aJ=>exec_load_at (b:=g) (off:=off+k*16) rfl (range_later HP1.o aJ HL1.o) underlying84 rfl info_st.o) hS ?_;refine plan.firstS 4 _ (.slice (some ⟨g',off',none⟩) L.length d) rfl (fun w' aJ=>kr_) hS ?_;refine plan.firstS 5 _ (.int .i64 (k:Int)) rfl (fun w' aJ=>kr_) hS ?_;refine plan.firstS 6 _ (.pointer (some ⟨g',off'+k*16,none⟩)) rfl (fun w' aJ=>exec_indexP (cap:=d) rfl au) hS ?_;refine plan.firstS 7 _ (zP u ua uc va vc) rfl (fun w' aJ=>exec_load_at (b:=g') (off:=off'+k*16) rfl (range_later HP2.o aJ HL2.o) underlying84 rfl info_st.o) hS ?_;refine plan.callS 8 _ 60 #[zP s ta tc la lc,zP u ua uc va vc] rfl (cS.mono ?_);rintro e w3 ⟨rfl,aK⟩;refine⟨_,rfl,aK, ?_⟩;refine plan.firstS 9 _ (.bool false) rfl (fun w' aJ=>kr_) aK ?_;refine plan.doneS ?_;have HB3:=hid ((below_drew HB.o).trans (aK.mono (below_drew HB.o).size));clear aK hS cS;walk_nrm;go_wp2;exact⟨⟨k+1,by omega,by go_num,hid (HS.o.2 ⟨HEQ.o,HPQ.o⟩),HB3⟩,by simp[intOf];omega⟩
    ·rw[decide_eq_false aS] at cS;obtain rfl:false=r:=by rw[<-hr.o];exact(decide_eq_false (HNE.o aS)).symm
     clear aS;go_wp2;refine plan.regionS (S:=fun w'=>Below wr.drew.heap.size wr.drew w') ?_;have hS:=Below.refl wr.drew.heap.size wr.drew;refine plan.firstS 0 _ (.slice (some ⟨g,off,none⟩) L.length c) rfl (fun w' aJ=>kr_) hS ?_;refine plan.firstS 1 _ (.int .i64 (k:Int)) rfl (fun w' aJ=>kr_) hS ?_;refine plan.firstS 2 _ (.pointer (some ⟨g,off+k*16,none⟩)) rfl (fun w' aJ=>exec_indexP (cap:=c) rfl au) hS ?_;refine plan.firstS 3 _ (zP s ta tc la lc) rfl (fun w' aJ=>exec_load_at (b:=g) (off:=off+k*16) rfl (range_later HP1.o aJ HL1.o) underlying84 rfl info_st.o) hS ?_;refine plan.firstS 4 _ (.slice (some ⟨g',off',none⟩) L.length d) rfl (fun w' aJ=>kr_) hS ?_;refine plan.firstS 5 _ (.int .i64 (k:Int)) rfl (fun w' aJ=>kr_) hS ?_;refine plan.firstS 6 _ (.pointer (some ⟨g',off'+k*16,none⟩)) rfl (fun w' aJ=>exec_indexP (cap:=d) rfl au) hS ?_;refine plan.firstS 7 _ (zP u ua uc va vc) rfl (fun w' aJ=>exec_load_at (b:=g') (off:=off'+k*16) rfl (range_later HP2.o aJ HL2.o) underlying84 rfl info_st.o) hS ?_;refine plan.callS 8 _ 60 #[zP s ta tc la lc,zP u ua uc va vc] rfl (cS.mono ?_);rintro e w3 ⟨rfl,aK⟩;refine⟨_,rfl,aK, ?_⟩;refine plan.firstS 9 _ (.bool true) rfl (fun w' aJ=>kr_) aK ?_;refine plan.doneS ?_;have HB3:=hid ((below_drew HB.o).trans (aK.mono (below_drew HB.o).size));clear aK hS cS;walk_nrm;go_wp2;go_ret;exact⟨rfl,HB3.o⟩
   ·obtain rfl:k=L.length:=by omega
    obtain rfl:true=r:=by
     rw[<-hr.o];have:=HEQ.o;rw[List.take_of_length_le (by rw[HLN.o];exact Nat.le_refl _),List.take_of_length_le (by rw[HMN.o,HLEN.o];exact Nat.le_refl _)] at this;exact(decide_eq_true this).symm
    go_wp2;go_ret;exact⟨rfl,HB.o⟩
 ·obtain rfl:false=r:=by rw[<-hr.o];exact(decide_eq_false (fun e=>hlen (by rw[<-HLN.o,e,HMN.o]))).symm
  have hd:((L.length:Int) != (M.length:Int))=true:=by simp;omega
  have hd2:((L.length:Int) == (M.length:Int))=false:=by rw[beq_eq_false_iff_ne];omega
  clear hlen;go_enter func35,ntmps35
  exact t13
end step
namespace pen
open Go.RowKit texts
set_option maxRecDepth 8000 in
theorem eX(b:Nat)(s:Sight)(w:World)(h:EyeAt 68 b s w)(most:Int)(h1: -9223372036854775808<=most)(h2:most<=9223372036854775807):
  Calls prog 30 #[.pointer (some ⟨b,0,none⟩),.int .i64 most] w (Saw 68 b (.string (strOf (eText most s).1)) (eText most s).2 w):=by
 have c0:=ax b s w h most h1 h2;have iU:=(eVar_le 9223372036854775807 (max most 0).toNat s).1;have gZ:(eCount most s).1<=9223372036854775807:=iU;obtain⟨r,z⟩:=s;obtain⟨a,c,st⟩:=h.stand;unfold eText;obtain⟨x,hx⟩:∃x,Hid ((eCount most (r,z)).1=x):=⟨_,rfl⟩;obtain⟨s1,hs1⟩:∃s',Hid ((eCount most (r,z)).2=s'):=⟨_,rfl⟩;simp only[hx.o,hs1.o] at c0 gZ ⊢;have c1:Hid (∀w1,EyeAt 68 b s1 w1->Calls prog 56 #[.pointer (some ⟨b,0,none⟩),.int .i64 (x:Int)] w1 (Took 68 b (eNext x s1).1 (eNext x s1).2 w1)):=fun w1 hE=>take_any b s1 w1 hE x gZ
 obtain⟨t,ht⟩:∃t,Hid ((eNext x s1).1=t):=⟨_,rfl⟩;obtain⟨⟨r2,z2⟩,hs2⟩:∃s',Hid ((eNext x s1).2=s'):=⟨_,rfl⟩;simp only[ht.o,hs2.o] at c1 ⊢;obtain⟨T,hT⟩:∃T,Hid (strOf t=T):=⟨_,rfl⟩;rw[hT.o];have d0:=st.rest;have ST:=hid st;clear h st hx hs1 ht hs2 iU gZ;by_cases hz:z2=0
 ·rw[if_neg (by simpa using hz)];subst hz;go_enter func30,ntmps30;go_wp2_with (first
   | (go_at_call 29;(with_reducible refine c0.mono ?_);clear c0;rintro e w1 ⟨rfl,hE1,bJ⟩)
   | (go_at_call 56;(with_reducible refine(c1.o _ hE1).mono ?_);clear c1 hE1;rintro e w2 ⟨a',c',rfl,_,gy,hE2,bZ⟩;have hcv:=Reads.str (P:=prog) gy 28 5 underlying28 underlying5 c' 9 underlying9;rw[hT.o] at hcv;obtain⟨a2,k2,st2⟩:=hE2.stand;have e2:=st2.err;clear st2;have HRD:=hid gy;have HE2:=hid hE2;have HB:=hid (And.intro bJ bZ);clear gy hE2 bJ bZ))
  go_ret
  exact t107
 ·rw[if_pos hz];have q:((z2:Int) != 0)=true:=by rw[bne_iff_ne];omega
  clear hz;go_enter func30,ntmps30;go_wp2_with (first
   | (go_at_call 29;(with_reducible refine c0.mono ?_);clear c0;rintro e w1 ⟨rfl,hE1,bJ⟩)
   | (go_at_call 56;(with_reducible refine(c1.o _ hE1).mono ?_);clear c1 hE1;rintro e w2 ⟨a',c',rfl,_,gy,hE2,bZ⟩;have hcv:=Reads.str (P:=prog) gy 28 5 underlying28 underlying5 c' 9 underlying9;rw[hT.o] at hcv;obtain⟨a2,k2,st2⟩:=hE2.stand;have e2:=st2.err;have e3:=st2.rest;have e4:=st2.block.frozen 0;have ST2:=hid st2;clear st2;have HRD:=hid gy;have HE2:=hid hE2;have HB:=hid (And.intro bJ bZ);clear gy hE2 bJ bZ))
  go_ret
  exact t40
end pen
theorem t101{P:Prop}(h:P:=by
 rintro en w4 ⟨rfl,hE4,hu4⟩;exact⟨_,rfl,rfl,hS.call hE4 hu4⟩):P:=h
theorem t52{P:Prop}(h:P:=by
 obtain rfl:j=M:=by omega
 have HSE:=hid jY;clear jY HS;go_wp2;exact⟨⟨k+1,by omega,by go_num,hid ⟨_,_,_,_,by rw[HSUC.o,HT.o];exact HSE.o⟩⟩,by simp[intOf];omega⟩):P:=h
theorem t46{P:Prop}(h:P:=by
 have HS6:=hid bF;clear bF hF5 ho5 hg5 bP bD hS;walk_nrm;go_wp2;exact⟨⟨j+1,by omega,by go_num,hid ⟨_,_,_,_,by rw[HT1.o,HT2.o,<-List.append_assoc,hZ.o];exact HS6.o⟩⟩,by simp[intOf];omega⟩):P:=h
namespace step
open Go.RowKit pen
open field (newB)
open schema (eCount_le blk_but but_store eye_past fdV fdC exec_push_fd exec_put_fd exec_cell_slice' take_succ_at)
def dQ(op:Int)(e:Sight)(k:Nat):Sp×Sight:=run ((uses op).take k) (startS op,e)
theorem ja{op:Int}{e:Sight}{k:Nat}{q:UInt8}(h:(uses op)[k]?=some q):dQ op e (k+1)=takeL q (dQ op e k).1 (dQ op e k).2:=by
 unfold dQ;rw[take_succ_at h,run_app];rfl
theorem jE(op:Int)(e:Sight):dQ op e (uses op).length=run (uses op) (startS op,e):=by
 unfold dQ;rw[List.take_of_length_le (Nat.le_refl _)]
theorem iZ(op:Int)(e:Sight)(k:Nat):(dQ op e k).1.t.length<=900/\(dQ op e k).1.l.length<=900:=by
 have h1:=run_long ((uses op).take k) (startS op) e (fun c hc=>uses_letter op c (List.mem_of_mem_take hc));have h2:((uses op).take k).length<=5:=by have:=uses_len op;simp;omega
 have h4:(startS op).t.length=0:=rfl;have h5:(startS op).l.length=0:=rfl;unfold dQ;omega
set_option maxRecDepth 20000 in
set_option maxHeartbeats 6400000 in
theorem gG(b:Nat)(e:Sight)(w:World)(h:EyeAt 68 b e w):Calls prog 58 #[.pointer (some ⟨b,0,none⟩)] w (TakesS b e 68 w):=by
 obtain⟨A,e1,hA⟩:∃A q,eCount 30 e=(A,q):=⟨_,_,rfl⟩;have hT:takeS e=dQ (A:Int) e1 (uses (A:Int)).length:=by rw[jE];unfold takeS;rw[hA]
 have au:=h.lt;have bT:=newB w (.cells zZ 84);have c1:=ax b e _ (h.later bT) 30 om_ om_;rw[hA] at c1;have HR0:=hid (Block.new w 84 Z16);have HB0:=hid bT;have aH:w.heap.size≠b:=by omega
 have cU:=fun w'=>uses_any (A:Int) w'
 have hix:=fun(k:Nat) (q:UInt8) (h:(uses (A:Int))[k]?=some q) W=>usesS_at h W
 have hsz:=usesS_size (A:Int);obtain⟨S,hS⟩:∃S,Hid (usesS (A:Int)=S):=⟨_,hid rfl⟩;rw[hS.o] at hsz hix;simp only[hS.o] at cU;have HIX:=hid hix;obtain⟨N,hN⟩:∃N:Nat,Hid ((uses (A:Int)).length=N):=⟨_,hid rfl⟩;have hN5:N<=5:=by rw[<-hN.o];exact uses_len _
 rw[hN.o] at hsz hT;have HTT:=hid hT;unfold TakesS;clear hT hA h bT hix;unfold Saw at c1;unfold field.Gives at cU;go_enter func58,ntmps58;go_wp2_with (first
  | (go_at_call 29;((with_reducible refine c1.mono ?_);clear c1;rintro en w1 ⟨rfl,hE1,hu1⟩;have HR1:=hid (blk_but HR0.o hu1 aH);have oK:=TS.start hE1 (A:Int);have x0:_=some (Value.int .i64 (A:Int)):=oK.f.cell 0;have HTS:=hid oK;have HU1:=hid hu1;clear hE1 hu1 oK))
  | (go_at_call 72;((with_reducible refine(cU _).mono ?_);rintro en w2 ⟨rfl,aj⟩;have HTS2:=hid (HTS.o.later aj);clear aj)))
 clear cU x0;have HB1:=hid ((Below.but HB0.o).trans (HU1.o.mono HB0.o.size));have HSZ:=hid (show w.heap.size<w1.heap.size from HR1.o.lt);obtain⟨T,hTe⟩:∃T,Hid (w1.heap.size=T):=⟨_,hid rfl⟩;rw[hTe.o] at HTS2 HSZ ⊢;go_loopw [5] (fun m wr=>∃k:Nat,k<=N/\m=.int .i64 (k:Int)/\Hid (∃ta tc la lc,TS 68 b T w1 (dQ (A:Int) e1 k).1 (dQ (A:Int) e1 k).2 ta tc la lc wr)) (fun m _=>N - (intOf m).toNat);case atStart=>exact⟨0,Nat.zero_le _,rfl,hid ⟨_,_,_,_,HTS2.o⟩⟩
 case round=>
  obtain⟨k,hk,rfl,HS⟩:=hrel;obtain⟨ta,tc,la,lc,jS⟩:=HS.o;by_cases hltk:k<N
  ·have hq0:=List.getElem?_eq_getElem (show k<(uses (A:Int)).length by rw[hN.o];exact hltk);have i1:(k:Int)<S.size:=by rw[hsz];omega
   have i2:(k:Int)<N:=by omega
   generalize (uses (A:Int))[k]'(show k<(uses (A:Int)).length by rw[hN.o];exact hltk)=q at hq0;have lQ:=uses_letter _ q (List.mem_of_getElem? hq0);have HSUC:=hid (ja (e:=e1) hq0);have jJ:=iZ (A:Int) e1 k;obtain⟨s,e0,hse⟩:∃s e0,dQ (A:Int) e1 k=(s,e0):=⟨_,_,rfl⟩;rw[hse] at jS jJ HSUC;simp only at jS jJ HSUC;have HQ:=hid hq0;have H0:=hid jS;clear hq0 hse HS jS HTS2;rcases lQ with rfl | rfl | rfl | rfl | rfl | rfl | rfl | rfl | rfl | rfl
   ·have hx:∀W,(Instr.index 9 (.string S) (.int .i64 (k:Int))).run prog W=.ok (.int .u8 102) W:=fun W=>HIX.o k _ HQ.o W
    obtain⟨X,e2,hX⟩:∃X q,eCount 200 e0=(X,q):=⟨_,_,rfl⟩;have HT:Hid (takeL 102 s e0=({ s with fm:=(X:Int)},e2)):=hid (by
     show(({ s with fm:=((eCount 200 e0).1:Int)}:Sp),(eCount 200 e0).2)=_
     rw[hX])
    have c1:=ax b e0 wr H0.o.eye 200 om_ om_;rw[hX] at c1;unfold Saw at c1;clear hX;go_wp2_with (go_at_call 29;((with_reducible refine c1.mono ?_);clear c1;rintro en w3 ⟨rfl,hE3,hu3⟩;have hT3:=H0.o.call hE3 hu3;have bK:=hT3.f;have x1:=bK.cell 1;have p1:=bK.frozen 1;have HT3:=hid hT3;clear hT3 bK hE3 hu3));exact⟨⟨k+1,by omega,by go_num,hid ⟨_,_,_,_,by rw[HSUC.o,HT.o];exact HT3.o.put 1 (.int .i64 (X:Int)) _ rfl rfl rfl⟩⟩,by simp[intOf];omega⟩
   ·have hx:∀W,(Instr.index 9 (.string S) (.int .i64 (k:Int))).run prog W=.ok (.int .u8 100) W:=fun W=>HIX.o k _ HQ.o W
    obtain⟨X,e2,hX⟩:∃X q,eCount 255 e0=(X,q):=⟨_,_,rfl⟩;have HT:Hid (takeL 100 s e0=({ s with fd:=(X:Int)},e2)):=hid (by
     show(({ s with fd:=((eCount 255 e0).1:Int)}:Sp),(eCount 255 e0).2)=_
     rw[hX])
    have c1:=ax b e0 wr H0.o.eye 255 om_ om_;rw[hX] at c1;unfold Saw at c1;clear hX;go_wp2_with (go_at_call 29;((with_reducible refine c1.mono ?_);clear c1;rintro en w3 ⟨rfl,hE3,hu3⟩;have hT3:=H0.o.call hE3 hu3;have bK:=hT3.f;have x2:=bK.cell 2;have p2:=bK.frozen 2;have HT3:=hid hT3;clear hT3 bK hE3 hu3));exact⟨⟨k+1,by omega,by go_num,hid ⟨_,_,_,_,by rw[HSUC.o,HT.o];exact HT3.o.put 2 (.int .i64 (X:Int)) _ rfl rfl rfl⟩⟩,by simp[intOf];omega⟩
   ·have hx:∀W,(Instr.index 9 (.string S) (.int .i64 (k:Int))).run prog W=.ok (.int .u8 112) W:=fun W=>HIX.o k _ HQ.o W
    obtain⟨X,e2,hX⟩:∃X q,eCount 8 e0=(X,q):=⟨_,_,rfl⟩;have HT:Hid (takeL 112 s e0=({ s with pl:=(X:Int)},e2)):=hid (by
     show(({ s with pl:=((eCount 8 e0).1:Int)}:Sp),(eCount 8 e0).2)=_
     rw[hX])
    have c1:=ax b e0 wr H0.o.eye 8 om_ om_;rw[hX] at c1;unfold Saw at c1;clear hX;go_wp2_with (go_at_call 29;((with_reducible refine c1.mono ?_);clear c1;rintro en w3 ⟨rfl,hE3,hu3⟩;have hT3:=H0.o.call hE3 hu3;have bK:=hT3.f;have x3:=bK.cell 3;have p3:=bK.frozen 3;have HT3:=hid hT3;clear hT3 bK hE3 hu3));exact⟨⟨k+1,by omega,by go_num,hid ⟨_,_,_,_,by rw[HSUC.o,HT.o];exact HT3.o.put 3 (.int .i64 (X:Int)) _ rfl rfl rfl⟩⟩,by simp[intOf];omega⟩
   ·have hx:∀W,(Instr.index 9 (.string S) (.int .i64 (k:Int))).run prog W=.ok (.int .u8 116) W:=fun W=>HIX.o k _ HQ.o W
    obtain⟨X,e2,hX⟩:∃X q,eCount 255 e0=(X,q):=⟨_,_,rfl⟩;have HT:Hid (takeL 116 s e0=({ s with tt:=(X:Int)},e2)):=hid (by
     show(({ s with tt:=((eCount 255 e0).1:Int)}:Sp),(eCount 255 e0).2)=_
     rw[hX])
    have c1:=ax b e0 wr H0.o.eye 255 om_ om_;rw[hX] at c1;unfold Saw at c1;clear hX;go_wp2_with (go_at_call 29;((with_reducible refine c1.mono ?_);clear c1;rintro en w3 ⟨rfl,hE3,hu3⟩;have hT3:=H0.o.call hE3 hu3;have bK:=hT3.f;have x4:=bK.cell 4;have p4:=bK.frozen 4;have HT3:=hid hT3;clear hT3 bK hE3 hu3));exact⟨⟨k+1,by omega,by go_num,hid ⟨_,_,_,_,by rw[HSUC.o,HT.o];exact HT3.o.put 4 (.int .i64 (X:Int)) _ rfl rfl rfl⟩⟩,by simp[intOf];omega⟩
   ·have hx:∀W,(Instr.index 9 (.string S) (.int .i64 (k:Int))).run prog W=.ok (.int .u8 97) W:=fun W=>HIX.o k _ HQ.o W
    obtain⟨X,e2,hX⟩:∃X q,eCount 1048576 e0=(X,q):=⟨_,_,rfl⟩;have HT:Hid (takeL 97 s e0=({ s with a:=(X:Int)},e2)):=hid (by
     show(({ s with a:=((eCount 1048576 e0).1:Int)}:Sp),(eCount 1048576 e0).2)=_
     rw[hX])
    have c1:=ax b e0 wr H0.o.eye 1048576 om_ om_;rw[hX] at c1;unfold Saw at c1;clear hX;go_wp2_with (go_at_call 29;((with_reducible refine c1.mono ?_);clear c1;rintro en w3 ⟨rfl,hE3,hu3⟩;have hT3:=H0.o.call hE3 hu3;have bK:=hT3.f;have x5:=bK.cell 5;have p5:=bK.frozen 5;have HT3:=hid hT3;clear hT3 bK hE3 hu3));exact⟨⟨k+1,by omega,by go_num,hid ⟨_,_,_,_,by rw[HSUC.o,HT.o];exact HT3.o.put 5 (.int .i64 (X:Int)) _ rfl rfl rfl⟩⟩,by simp[intOf];omega⟩
   ·have hx:∀W,(Instr.index 9 (.string S) (.int .i64 (k:Int))).run prog W=.ok (.int .u8 98) W:=fun W=>HIX.o k _ HQ.o W
    obtain⟨X,e2,hX⟩:∃X q,eInt e0=(X,q):=⟨_,_,rfl⟩;obtain⟨Y,e3,hY⟩:∃X q,eInt e2=(X,q):=⟨_,_,rfl⟩;have HT:Hid (takeL 98 s e0=({ s with a:=X,b:=Y},e3)):=hid (by
     show(({ s with a:=(eInt e0).1,b:=(eInt (eInt e0).2).1}:Sp),(eInt (eInt e0).2).2)=_
     rw[hX];simp only;rw[hY])
    have c1:=aX b e0 wr H0.o.eye;have c2:=fun w' hE=>aX b e2 w' hE
    rw[hX] at c1;rw[hY] at c2;unfold Saw at c1 c2;clear hX hY;go_wp2_with (first
     | (go_at_call 86;((with_reducible refine c1.mono ?_);clear c1;rintro en w3 ⟨rfl,hE3,hu3⟩;have hT3:=H0.o.call hE3 hu3;have bK:=hT3.f;have x5:=bK.cell 5;have p5:=bK.frozen 5;have HT3:=hid (hT3.put 5 (.int .i64 X) { s with a:=X} rfl rfl rfl);clear hT3 bK hE3 hu3))
     | (go_at_call 86;((with_reducible refine(c2 _ HT3.o.eye).mono ?_);clear c2;rintro en w4 ⟨rfl,hE4,hu4⟩;have kZ:=HT3.o.call hE4 hu4;have iT:=kZ.f;have x6:=iT.cell 6;have p6:=iT.frozen 6;have HT4:=hid kZ;clear kZ iT hE4 hu4)))
    exact⟨⟨k+1,by omega,by go_num,hid ⟨_,_,_,_,by rw[HSUC.o,HT.o];exact HT4.o.put 6 (.int .i64 Y) _ rfl rfl rfl⟩⟩,by simp[intOf];omega⟩
   ·have hx:∀W,(Instr.index 9 (.string S) (.int .i64 (k:Int))).run prog W=.ok (.int .u8 70) W:=fun W=>HIX.o k _ HQ.o W
    obtain⟨p,e2,hX⟩:∃X q,takeA e0=(X,q):=⟨_,_,rfl⟩;have HT:Hid (takeL 70 s e0=({ s with f:=p},e2)):=hid (by
     show(({ s with f:=(takeA e0).1}:Sp),(takeA e0).2)=_
     rw[hX])
    have c1:=dh b e0 wr H0.o.eye;rw[hX] at c1;unfold Saw at c1;simp only[field.Fd.val] at c1;clear hX;go_wp2_with (go_at_call 87;((with_reducible refine c1.mono ?_);clear c1;rintro en w3 ⟨rfl,hE3,hu3⟩;have hT3:=H0.o.call hE3 hu3;have bK:=hT3.f;have x7:=bK.cell 7;have p7:=bK.frozen 7;have x8:=bK.cell 8;have p8:=bK.frozen 8;have x9:=bK.cell 9;have p9:=bK.frozen 9;have x10:=bK.cell 10;have p10:=bK.frozen 10;have x11:=bK.cell 11;have p11:=bK.frozen 11;have HT3:=hid hT3;clear hT3 bK hE3 hu3));exact⟨⟨k+1,by omega,by go_num,hid ⟨_,_,_,_,by rw[HSUC.o,HT.o];exact(HT3.o.putF p).1⟩⟩,by simp[intOf];omega⟩
   ·have hx:∀W,(Instr.index 9 (.string S) (.int .i64 (k:Int))).run prog W=.ok (.int .u8 86) W:=fun W=>HIX.o k _ HQ.o W
    obtain⟨n,e2,hX⟩:∃X q,eInt e0=(X,q):=⟨_,_,rfl⟩;obtain⟨t,e3,hY⟩:∃X q,eText 32 e2=(X,q):=⟨_,_,rfl⟩;have HT:Hid (takeL 86 s e0=({ s with v:=⟨n,strOf t⟩},e3)):=hid (by
     show(({ s with v:=⟨(eInt e0).1,strOf (eText 32 (eInt e0).2).1⟩}:Sp),(eText 32 (eInt e0).2).2)=_
     rw[hX];simp only;rw[hY])
    have c1:=aX b e0 wr H0.o.eye;have c2:=fun w' hE=>eX b e2 w' hE 32 om_ om_
    rw[hX] at c1;rw[hY] at c2;unfold Saw at c1 c2;clear hX hY;go_wp2_with (first
     | (go_at_call 86;((with_reducible refine c1.mono ?_);clear c1;rintro en w3 ⟨rfl,hE3,hu3⟩;have hT3:=H0.o.call hE3 hu3;have bK:=hT3.f;have x12:=bK.cell 12;have p12:=bK.frozen 12;have HT3:=hid (hT3.put 12 (.int .i64 n) { s with v:={ s.v with n:=n}} rfl rfl rfl);clear hT3 bK hE3 hu3))
     | (go_at_call 30;((with_reducible refine(c2 _ HT3.o.eye).mono ?_);clear c2;rintro en w4 ⟨rfl,hE4,hu4⟩;have kZ:=HT3.o.call hE4 hu4;have iT:=kZ.f;have x13:=iT.cell 13;have p13:=iT.frozen 13;have HT4:=hid kZ;clear kZ iT hE4 hu4)))
    exact⟨⟨k+1,by omega,by go_num,hid ⟨_,_,_,_,by rw[HSUC.o,HT.o];exact HT4.o.put 13 (.string (strOf t)) _ rfl rfl rfl⟩⟩,by simp[intOf];omega⟩
   ·have hx:∀W,(Instr.index 9 (.string S) (.int .i64 (k:Int))).run prog W=.ok (.int .u8 84) W:=fun W=>HIX.o k _ HQ.o W
    obtain⟨M,e2,hX⟩:∃X q,eCount 64 e0=(X,q):=⟨_,_,rfl⟩;have hM:M<=64:=by have:=eCount_le 64 e0;rw[show((64:Nat):Int)=64 from rfl,hX] at this;exact this
    have HT:Hid (takeL 84 s e0=({ s with t:=s.t++(takeNs M e2).1},(takeNs M e2).2)):=hid (by
     show(({ s with t:=s.t++(takeNs (eCount 64 e0).1 (eCount 64 e0).2).1}:Sp),(takeNs (eCount 64 e0).1 (eCount 64 e0).2).2)=_
     rw[hX])
    have c1:=ax b e0 wr H0.o.eye 64 om_ om_;rw[hX] at c1;unfold Saw at c1;have HLL:=hid jJ.1;clear hX jJ;go_wp2_with (go_at_call 29;((with_reducible refine c1.mono ?_);clear c1;rintro en w3 ⟨rfl,hE3,hu3⟩;have HT3:=hid (H0.o.call hE3 hu3);clear hE3 hu3));go_loopw [7] (fun m wq=>∃j:Nat,j<=M/\m=.int .i64 (j:Int)/\Hid (∃ta tc la lc,TS 68 b T w1 { s with t:=s.t++(takeNs j e2).1} (takeNs j e2).2 ta tc la lc wq)) (fun m _=>M - (intOf m).toNat);case atStart=>exact⟨0,Nat.zero_le _,rfl,hid ⟨_,_,_,_,by simpa[takeNs] using HT3.o⟩⟩
    case round=>
     obtain⟨j,hj,rfl,HS⟩:=hrel;obtain⟨ta',tc',la',lc',jY⟩:=HS.o;by_cases hltj:j<M
     ·have i3:(j:Int)<M:=by omega
      obtain⟨p,e9,hp⟩:∃p q,eCount 1000 (takeNs j e2).2=(p,q):=⟨_,_,rfl⟩;have HT1:Hid ((takeNs (j+1) e2).1=(takeNs j e2).1++[(p:Int)]):=hid (by rw[takeNs,hp]);have HT2:Hid ((takeNs (j+1) e2).2=e9):=hid (by rw[takeNs,hp]);have hxl:(takeNs j e2).1.length=j:=takeNs_len j e2;have cP:=fun w' hE=>ax b (takeNs j e2).2 w' hE 1000 om_ om_
      rw[hp] at cP;skip;unfold Saw at cP;clear hp HS HT3;have hlen:(s.t++(takeNs j e2).1).length<=1000:=by have:=HLL.o;rw[List.length_append,hxl];omega
      generalize (takeNs j e2).1=X at *;generalize (takeNs j e2).2=sk at *;have mZ:=hid (jY.later (w':=wr.drew) (below_drewN (Below.refl _ _) 1));have HLEN:=hid hlen;clear jY hlen hxl;obtain⟨Z,hZ⟩:∃Z,Hid (s.t++X=Z):=⟨_,hid rfl⟩;rw[hZ.o] at mZ HLEN;go_wp2;refine plan.regionT ?_;have hS:=mZ.o;refine plan.free 0 _ (.pointer (some ⟨T,14,none⟩)) rfl kr_ kr_ kr_ kr_ (fun w'=>kr_) ?_;refine plan.free 2 _ (.pointer (some ⟨b,0,none⟩)) rfl kr_ kr_ kr_ kr_ (fun w'=>kr_) ?_;refine plan.toL 3 (fun x y z=> #[true,x,true,y,z,false,false,false]) rfl ?_;refine plan.late 1 3 4 83 85 86 de_ de_ _ _ _ (fun x y z=> #[true,x,true,y,z,false,false,false]) rfl rfl rfl rfl rfl rfl rfl rfl rfl (by intro y z;cases y <;> cases z <;> rfl) (by intro x;cases x <;> rfl) (by intro x;cases x <;> rfl)
       kr_ kr_ kr_ kr_ kr_ (.slice ta' Z.length tc') 29 #[.pointer (some ⟨b,0,none⟩),.int .i64 1000]
       (fun v w'=>v=(.int .i64 (p:Int))/\TS 68 b T w1 { s with t:=Z} e9 ta' tc' la' lc' w') (fun v w'=>.slice (some ⟨w'.heap.size,0,none⟩) 1 1) (fun v w'=>w'.alloc (.cells #[.int .i64 (p:Int)] 3))
       (exec_cell_slice' (ad:=⟨T,14,none⟩) rfl (hS.f.cell 14) isAgg82)
       (fun v w' hM=>exec_cell_slice' (ad:=⟨T,14,none⟩) rfl (hM.2.f.cell 14) isAgg82)
       (fun v w' hM=>exec_cell_slice' (ad:=⟨T,14,none⟩) rfl ((hM.2.f.alloc _).cell 14) isAgg82)
       kr_ kr_ ((cP _ hS.eye).mono ?_) (fun v w' hM=>by obtain⟨rfl,_⟩:=hM;kernel_rfl) (fun v w' hM=>by obtain⟨rfl,_⟩:=hM;kernel_rfl) ?_
      ·exact t101
      ·rintro v w4 ⟨rfl,bD⟩;have bP:=bD.later (newB w4 (.cells #[.int .i64 (p:Int)] 3));refine plan.oneE 5 _ (fun q w5=>w5.ownsRow (T+1) 3 1 q (Z.length+1) (intV (Z++[(p:Int)]))/\(w4.alloc (.cells #[.int .i64 (p:Int)] 3)).grownBy w5 (Value.slice ta' Z.length tc').ownBlock) rfl rfl
        (exec_push_int (g:=w4.heap.size) rfl bP.rt (Block.new w4 3 [.int .i64 (p:Int)]) HLEN.o bP.f.lt) ?_
       rintro q w5 ⟨ho5,hg5⟩;have hF5:=bP.held (B:=0) bP.rt hg5;obtain⟨qa,qc,rfl,_⟩:=ownsRow_slice ho5;have bF:=bP.pushT hg5 ho5;refine plan.oneT (w1:=w5) 6 _ (.pointer (some ⟨T,14,none⟩)) rfl rfl ?_;refine plan.lastT (w1:=w5.setCell ⟨T,14,none⟩ (.slice qa (Z.length+1) qc)) 7 _ rfl rfl rfl (exec_put_int (ad:=⟨T,14,none⟩) rfl (hF5.cell 14) (hF5.frozen 14)) ?_
       exact t46
     ·exact t52
   ·have hx:∀W,(Instr.index 9 (.string S) (.int .i64 (k:Int))).run prog W=.ok (.int .u8 76) W:=fun W=>HIX.o k _ HQ.o W
    obtain⟨M,e2,hX⟩:∃X q,eCount 8 e0=(X,q):=⟨_,_,rfl⟩;have hM:M<=8:=by have:=eCount_le 8 e0;rw[show((8:Nat):Int)=8 from rfl,hX] at this;exact this
    have HT:Hid (takeL 76 s e0=({ s with l:=s.l++(takeAs M e2).1},(takeAs M e2).2)):=hid (by
     show(({ s with l:=s.l++(takeAs (eCount 8 e0).1 (eCount 8 e0).2).1}:Sp),(takeAs (eCount 8 e0).1 (eCount 8 e0).2).2)=_
     rw[hX])
    have c1:=ax b e0 wr H0.o.eye 8 om_ om_;rw[hX] at c1;unfold Saw at c1;have HLL:=hid jJ.2;clear hX jJ;go_wp2_with (go_at_call 29;((with_reducible refine c1.mono ?_);clear c1;rintro en w3 ⟨rfl,hE3,hu3⟩;have HT3:=hid (H0.o.call hE3 hu3);clear hE3 hu3));go_loopw [9] (fun m wq=>∃j:Nat,j<=M/\m=.int .i64 (j:Int)/\Hid (∃ta tc la lc,TS 68 b T w1 { s with l:=s.l++(takeAs j e2).1} (takeAs j e2).2 ta tc la lc wq)) (fun m _=>M - (intOf m).toNat);case atStart=>exact⟨0,Nat.zero_le _,rfl,hid ⟨_,_,_,_,by simpa[takeAs] using HT3.o⟩⟩
    case round=>
     obtain⟨j,hj,rfl,HS⟩:=hrel;obtain⟨ta',tc',la',lc',jY⟩:=HS.o;by_cases hltj:j<M
     ·have i3:(j:Int)<M:=by omega
      obtain⟨p,e9,hp⟩:∃p q,takeA (takeAs j e2).2=(p,q):=⟨_,_,rfl⟩;have HT1:Hid ((takeAs (j+1) e2).1=(takeAs j e2).1++[p]):=hid (by rw[takeAs,hp]);have HT2:Hid ((takeAs (j+1) e2).2=e9):=hid (by rw[takeAs,hp]);have hxl:(takeAs j e2).1.length=j:=takeAs_len j e2;have cP:=fun w' hE=>dh b (takeAs j e2).2 w' hE
      rw[hp] at cP;simp only[field.Fd.val] at cP;unfold Saw at cP;clear hp HS HT3;have hlen:(s.l++(takeAs j e2).1).length<=1000:=by have:=HLL.o;rw[List.length_append,hxl];omega
      generalize (takeAs j e2).1=X at *;generalize (takeAs j e2).2=sk at *;have mZ:=hid (jY.later (w':=wr.drew) (below_drewN (Below.refl _ _) 1));have HLEN:=hid hlen;clear jY hlen hxl;obtain⟨Z,hZ⟩:∃Z,Hid (s.l++X=Z):=⟨_,hid rfl⟩;rw[hZ.o] at mZ HLEN;go_wp2;refine plan.regionT ?_;have hS:=mZ.o;refine plan.free 0 _ (.pointer (some ⟨T,15,none⟩)) rfl kr_ kr_ kr_ kr_ (fun w'=>kr_) ?_;refine plan.free 2 _ (.pointer (some ⟨b,0,none⟩)) rfl kr_ kr_ kr_ kr_ (fun w'=>kr_) ?_;refine plan.toL 3 (fun x y z=> #[true,x,true,y,z,false,false,false]) rfl ?_;refine plan.late 1 3 4 99 101 102 de_ de_ _ _ _ (fun x y z=> #[true,x,true,y,z,false,false,false]) rfl rfl rfl rfl rfl rfl rfl rfl rfl (by intro y z;cases y <;> cases z <;> rfl) (by intro x;cases x <;> rfl) (by intro x;cases x <;> rfl)
       kr_ kr_ kr_ kr_ kr_ (.slice la' Z.length lc') 87 #[.pointer (some ⟨b,0,none⟩)]
       (fun v w'=>v=(zF p)/\TS 68 b T w1 { s with l:=Z} e9 ta' tc' la' lc' w') (fun v w'=>.slice (some ⟨w'.heap.size,0,none⟩) 1 1) (fun v w'=>w'.alloc (.cells (zF p) 79))
       (exec_cell_slice' (ad:=⟨T,15,none⟩) rfl (hS.f.cell 15) isAgg41)
       (fun v w' hM=>exec_cell_slice' (ad:=⟨T,15,none⟩) rfl (hM.2.f.cell 15) isAgg41)
       (fun v w' hM=>exec_cell_slice' (ad:=⟨T,15,none⟩) rfl ((hM.2.f.alloc _).cell 15) isAgg41)
       kr_ kr_ ((cP _ hS.eye).mono ?_) (fun v w' hM=>by obtain⟨rfl,_⟩:=hM;kernel_rfl) (fun v w' hM=>by obtain⟨rfl,_⟩:=hM;kernel_rfl) ?_
      ·exact t101
      ·rintro v w4 ⟨rfl,bD⟩;have bP:=bD.later (newB w4 (.cells (zF p) 79));refine plan.oneE 5 _ (fun q w5=>w5.ownsRow (T+1) 79 5 q (Z.length+1) (fdV (Z++[p]))/\(w4.alloc (.cells (zF p) 79)).grownBy w5 (Value.slice la' Z.length lc').ownBlock) rfl rfl
        (exec_push_fd (g:=w4.heap.size) rfl bP.rl (Block.new w4 79 (fdC p)) HLEN.o bP.f.lt) ?_
       rintro q w5 ⟨ho5,hg5⟩;have hF5:=bP.held (B:=0) bP.rl hg5;obtain⟨qa,qc,rfl,_⟩:=ownsRow_slice ho5;have bF:=bP.pushL hg5 ho5;refine plan.oneT (w1:=w5) 6 _ (.pointer (some ⟨T,15,none⟩)) rfl rfl ?_;refine plan.lastT (w1:=w5.setCell ⟨T,15,none⟩ (.slice qa (Z.length+1) qc)) 7 _ rfl rfl rfl (exec_put_fd (ad:=⟨T,15,none⟩) rfl (hF5.cell 15) (hF5.frozen 15)) ?_
       exact t46
     ·exact t52
  ·obtain rfl:k=N:=by omega
   have HR2:=hid (HR1.o.but jS.but HSZ.o aH);have i1:¬(k:Int)<S.size:=by rw[hsz];omega
   obtain⟨s,hs⟩:∃s,Hid ((dQ (A:Int) e1 k).1=s):=⟨_,hid rfl⟩;rw[hs.o] at jS;have HS2:=hid jS;have hR2:=HR2.o;have hf:=jS.f;have x0:=hR2.cell 0;have p0:=hR2.frozen 0;have y0:=hf.cell 0;have x1:=hR2.cell 1;have p1:=hR2.frozen 1;have y1:=hf.cell 1;have x2:=hR2.cell 2;have p2:=hR2.frozen 2;have y2:=hf.cell 2;have x3:=hR2.cell 3;have p3:=hR2.frozen 3;have y3:=hf.cell 3;have x4:=hR2.cell 4;have p4:=hR2.frozen 4;have y4:=hf.cell 4;have x5:=hR2.cell 5;have p5:=hR2.frozen 5;have y5:=hf.cell 5;have x6:=hR2.cell 6;have p6:=hR2.frozen 6;have y6:=hf.cell 6;have x7:=hR2.cell 7;have p7:=hR2.frozen 7;have y7:=hf.cell 7;have x8:=hR2.cell 8;have p8:=hR2.frozen 8;have y8:=hf.cell 8;have x9:=hR2.cell 9;have p9:=hR2.frozen 9;have y9:=hf.cell 9;have x10:=hR2.cell 10;have p10:=hR2.frozen 10;have y10:=hf.cell 10;have x11:=hR2.cell 11;have p11:=hR2.frozen 11;have y11:=hf.cell 11;have x12:=hR2.cell 12;have p12:=hR2.frozen 12;have y12:=hf.cell 12;have x13:=hR2.cell 13;have p13:=hR2.frozen 13;have y13:=hf.cell 13;have x14:=hR2.cell 14;have p14:=hR2.frozen 14;have y14:=hf.cell 14;have x15:=hR2.cell 15;have p15:=hR2.frozen 15;have y15:=hf.cell 15;clear jS HS hR2 hf
   exact t33
end step
end Go.Proofs.YtogfefdlffmioaaGreat
