/- Contracts and lemmas that claims of this seat share: TypingFields. Each says its own conditions. -/
import Derived.Test.YtogkgbnpodojjaaGreatCmWord
import Derived.Conc.WalkWords
import Derived.Test.YtogkgbnpodojjaaGreatCmE
import Derived.Test.YtogkgbnpodojjaaGreatCmT
import Derived.Test.YtogkgbnpodojjaaGreatCmS
set_option linter.unusedVariables false
namespace Go.Proofs.YtogkgbnpodojjaaGreat
open Go.Proofs.Tryz
theorem t36{P:Prop}(h:P:=by
 rintro e w4 ⟨v4,rfl,ho4,hg4⟩;have hS4:=hSi.grown hg4 hSi.size hv3;refine ⟨v4,rfl,hS4, ?_⟩;refine plan.dZ (w1:=w4) 14 _ v4 rfl rfl hS4 ?_;refine plan.gI ?_;have HFIN:Hid (mO (jf (jo c.L k) i c.old) w (.returned v4) w4):=hid (finish (HX.o _ hSi).2 HSZ.o hv3 ho4 hg4 (hput _ rfl) hpl);clear ho4 hg4 hS4;walk_nrm;go_wp2;go_ret;exact HFIN.o):P:=h
namespace typing
open Go.RowKit schema rows
open field (Gives ak aj)
def Places (c:Ch):Prop:=(c.s.op=1->0<=c.s.pl/\c.s.pl<=c.L.length)/\(c.s.op=7->0<=c.s.pl/\c.s.pl<=(c.L.length:Int) - 1)/\(c.s.op≠1->0<=c.at_/\c.at_<c.L.length)
theorem EG {w:World} {b o:Nat} {cs ds:List Value} (h:w.rangeAt b 0 cs) (hd:∀j v,ds[j]?=some v->cs[o+j]?=some v):w.rangeAt b o ds:=fun j v hj=>by
 have:=h (o+j) v (hd j v hj);rwa [Nat.zero_add] at this
theorem uj {P:Program} {md:Region.Mode} {Q:Exit->Act->World->Prop} {l:List Oper} {S:World->Prop} {f:Nat} {listed:Array Bool} {a:Act} {w:World} (i j:Nat)
  (hi:∃o,l[i]?=some o/\o.guard=none/\((∃v w1,(execOp a.eval o).run P w=.ok (.value v) w1/\S w1/\wpAnyH P md l.toArray (NoPanic Q) S f (listed.setIfInBounds i true) (a.put o.dst v) w1)\/
    (∃F args,(execOp a.eval o).run P w=.ok (.enter F args) w/\Calls P F args w fun e w'=>∃v,e=.returned v/\S w'/\wpAnyH P md l.toArray (NoPanic Q) S f (listed.setIfInBounds i true) (a.put o.dst v) w')))
  (hj:∃o,l[j]?=some o/\o.guard=none/\((∃v w1,(execOp a.eval o).run P w=.ok (.value v) w1/\S w1/\wpAnyH P md l.toArray (NoPanic Q) S f (listed.setIfInBounds j true) (a.put o.dst v) w1)\/
    (∃F args,(execOp a.eval o).run P w=.ok (.enter F args) w/\Calls P F args w fun e w'=>∃v,e=.returned v/\S w'/\wpAnyH P md l.toArray (NoPanic Q) S f (listed.setIfInBounds j true) (a.put o.dst v) w'))) (hr:Region.ready md l.toArray listed=[i,j]:=by kernel_rfl):
  wpAnyH P md l.toArray (NoPanic Q) S (f+1) listed a w:=by
 refine plan.every (by rw [hr];simp) fun k hk=> ?_
 rw [hr] at hk;simp only [List.mem_cons,List.not_mem_nil,or_false] at hk;rcases hk with rfl | rfl
 ·exact hi
 ·exact hj
theorem mW {o:Oper} {a:Act} {w:World} {x y:Operand} {t:TypeId} {n:Int} (ho:o.op=.binOp .add 3 x y t) (h0:0<=n) (hn:n<=1000) (hx:a.eval x=.int .i64 n:=by kernel_rfl) (hy:a.eval y=.int .i64 1:=by kernel_rfl):
  (execOp a.eval o).run prog w=.ok (.value (.int .i64 (n+1))) w:=by
 unfold execOp;rw [ho];simp only [hx,hy];go_simp;exact IntWalk.i64_in _ om_
set_option maxRecDepth 20000 in
set_option maxHeartbeats 3200000 in
theorem BH (c:Ch) (ta:Option Addr) (tc:Nat) (la:Option Addr) (lc:Nat) (fa:Option Addr) (fc:Nat) (w:World) (h:field.Fds w fa c.L) (hL:c.L.length<=40) (hp:Places c) (hb4:c.s.op=4->Bd c) (hb6:c.s.op=6->Bq c):
  Calls prog 152 #[zH c ta tc la lc fa fc] w (mO (fields c) w):=by
 have hN:=ak w (.cells (zH c ta tc la lc fa fc) 147);have cC:=lK fa fc c.L ((w.alloc (.cells (zH c ta tc la lc fa fc) 147))) (h.below hN) om_;have HX:Hid (∀w',Below ((w.alloc (.cells (zH c ta tc la lc fa fc) 147))).heap.size ((w.alloc (.cells (zH c ta tc la lc fa fc) 147))) w'->Block w' w.heap.size 147 (zH c ta tc la lc fa fc)/\Below w.heap.size w w'):=hid (fun w' hb=>⟨(Block.new w _ _).later hb,aP hb⟩);have HI:Hid ((prog.info? 147).map (·.size)=some ((zH c ta tc la lc fa fc):List Value).length):=hid dH;have HSZ:Hid (w.heap.size<=((w.alloc (.cells (zH c ta tc la lc fa fc) 147))).heap.size):=hid hN.size;have hv1:∀u∈fdV c.L,u.oneCell'=true:=lM c.L
 have HV1:=hid hv1;unfold mO at cC;clear h hN hv1;obtain ⟨T,hT⟩:∃T,Hid (((w.alloc (.cells (zH c ta tc la lc fa fc) 147))).heap.size=T):=⟨_,rfl⟩;by_cases h1:c.s.op=1
 ·have d1:=bt h1;obtain ⟨p0,p1⟩:=hp.1 h1;obtain ⟨i,hi⟩:∃i,c.s.pl.toNat=i:=⟨_,rfl⟩;have hii:((i:Nat):Int)=c.s.pl:=by omega
  have hsp:fields c=jf c.L i c.s.f:=by unfold fields;rw [if_pos h1,hi]
  rw [hsp];clear hsp hp hb4 hb6 h1 hi;have cI:=fun (n cap:Nat) (x:Option Addr) (w1:World) (hown:w1.ownsRow ((w.alloc (.cells (zH c ta tc la lc fa fc) 147))).heap.size 52 5 (.slice x n cap) n (fdV c.L)) (hnl:n=c.L.length) (hb:((w.alloc (.cells (zH c ta tc la lc fa fc) 147))).heap.size<=w1.heap.size)=>
   ng ((w.alloc (.cells (zH c ta tc la lc fa fc) 147))).heap.size n i w1.heap.size 0 1 (fdC c.s.f) 52 (.slice x n cap) (fdV c.L) (fdC c.s.f) (w1.alloc (.cells (zF c.s.f) 52)) (hown.alloc _) (by simp at hb ⊢;omega) om_ rfl (Block.new w1 _ _) (by simp [fdC]) (fun e=>by have:=World.ownsRow.lt hown _ e;omega) (fun j u hj=>by rw [Nat.zero_add];exact hj) (by have:=lM [c.s.f];rwa [pO] at this) HV1.o om_
  rw [hii] at cI;unfold mM at cI;go_enter func152,ntmps152;go_wp2_with (first
   | (go_at_call 97;((with_reducible refine cC.mono ?_);rintro e w1 ⟨v,rfl,ho1,hb1⟩;obtain ⟨x,xc,rfl,hxc⟩:=aA ho1;obtain ⟨b0,hbo⟩:=HX.o w1 hb1;have y0:=b0.cell 0;have y3:=b0.cell 3;have y7:=b0.cell 7;have y8:=b0.cell 8;have y9:=b0.cell 9;have y10:=b0.cell 10;have y11:=b0.cell 11;have HO1:=hid ho1;have HB1:=hid hb1;have HBO:=hid hbo;clear ho1 hb1 b0 hbo))
   | (go_at_call 198;((with_reducible refine (cI _ _ _ _ HO1.o rfl HB1.o.size).mono ?_);rintro e w3 ⟨v3,rfl,ho3,hg3⟩;have HO3:=hid ho3;have HG3:=hid hg3;clear ho3 hg3)))
  go_ret;refine finish (HBO.o.alloc HBO.o.size _) HSZ.o (fun k hk=>(World.ownsRow.lt HO1.o k hk).1) HO3.o HG3.o ?_ ?_
  ·unfold jf;rw [fC,fC,pO,pR,pM]
  ·unfold jf;simp only [List.length_append,List.length_take,List.length_drop,List.length_cons,List.length_nil];omega
 ·have d1:=bf h1;obtain ⟨a0,a1⟩:=hp.2.2 h1;obtain ⟨k,hk⟩:∃k,c.at_.toNat=k:=⟨_,rfl⟩;have hkk:((k:Nat):Int)=c.at_:=by omega
  obtain ⟨N,hN⟩:∃N,Hid (c.L.length=N+1):=⟨c.L.length - 1,hid om_⟩;by_cases h7:c.s.op=7
  ·have d7:=bt h7;obtain ⟨p0,p1⟩:=hp.2.1 h7;obtain ⟨i,hi⟩:∃i,c.s.pl.toNat=i:=⟨_,rfl⟩;have hii:((i:Nat):Int)=c.s.pl:=by omega
   have hsp:fields c=jf (jo c.L k) i c.old:=by unfold fields;rw [if_neg h1,if_pos h7,hk,hi]
   rw [hsp];have hcut:fdV (jo c.L k)=(fdV c.L).take (k*5)++(fdV c.L).drop ((k+1)*5):=by unfold jo;rw [fC,pR,pM]
   have hcl:(jo c.L k).length=N:=by unfold jo;have:=hN.o;simp only [List.length_append,List.length_take,List.length_drop];omega
   have hput:∀ys,ys=(fdV (jo c.L k)).take (i*5)++(fdC c.old++(fdV (jo c.L k)).drop (i*5))->ys=fdV (jf (jo c.L k) i c.old):=fun ys hy=>by
    rw [hy];unfold jf;rw [fC,fC,pO,pR,pM]
   have hpl:N+1=(jf (jo c.L k) i c.old).length:=by
    unfold jf;simp only [List.length_append,List.length_take,List.length_drop,List.length_cons,List.length_nil,hcl];have:=hN.o;omega
   have h1c:∀u∈fdC c.old,u.oneCell'=true:=by have:=lM [c.old];rwa [pO] at this
   have h1x:∀u∈fdV (jo c.L k),u.oneCell'=true:=lM _
   have hN40:N<=40:=by have:=hN.o;omega
   have hiN:i<=N:=by have:=hN.o;omega
   have hkN:k<=N:=by have:=hN.o;omega
   clear hsp hp hb4 hb6 h1 hk h7 hi;go_enter func152,ntmps152;go_wp2_with (go_at_call 97;((with_reducible refine cC.mono ?_);rintro e w1 ⟨v,rfl,ho1,hb1⟩;obtain ⟨x,xc,rfl,hxc⟩:=aA ho1;obtain ⟨b0,hbo⟩:=HX.o w1 hb1;have y0:=b0.cell 0;have HO1:=hid ho1;have HB1:=hid hb1;have HBO:=hid hbo;clear ho1 hb1 b0 hbo));have hvl:∀j,(Value.slice x c.L.length xc).ownBlock=some j->((w.alloc (.cells (zH c ta tc la lc fa fc) 147))).heap.size<=j:=fun j hj=>(World.ownsRow.lt HO1.o j hj).1
   have hvg:∀j,(Value.slice x c.L.length xc).ownBlock=some j->j<w1.heap.size:=fun j hj=>(World.ownsRow.lt HO1.o j hj).2
   have ho1:w1.drew.ownsRow ((w.alloc (.cells (zH c ta tc la lc fa fc) 147))).heap.size 52 5 (.slice x c.L.length xc) (N+1) (fdV c.L):=by rw [<-hN.o];exact HO1.o
   have hS:Below ((w.alloc (.cells (zH c ta tc la lc fa fc) 147))).heap.size ((w.alloc (.cells (zH c ta tc la lc fa fc) 147))) w1.drew:=aJ HB1.o;refine plan.bU (S:=fun w'=>Below ((w.alloc (.cells (zH c ta tc la lc fa fc) 147))).heap.size ((w.alloc (.cells (zH c ta tc la lc fa fc) 147))) w') ?_;refine plan.af 0 _ (.slice x c.L.length xc) rfl (fun w' hS'=>kr_) hS ?_;refine plan.af 1 _ (.pointer (some ⟨w.heap.size,19,none⟩)) rfl (fun w' hS'=>kr_) hS ?_;refine plan.af 2 _ (.int .i64 c.at_) rfl (fun w' hS'=>aB (ad:=⟨w.heap.size,19,none⟩) rfl kr_ ((HX.o w' hS').1.cell 19) isAgg3) hS ?_;refine plan.af 3 _ (.pointer (some ⟨w.heap.size,19,none⟩)) rfl (fun w' hS'=>kr_) hS ?_;refine plan.af 4 _ (.int .i64 c.at_) rfl (fun w' hS'=>aB (ad:=⟨w.heap.size,19,none⟩) rfl kr_ ((HX.o w' hS').1.cell 19) isAgg3) hS ?_;refine plan.af 5 _ (.int .i64 (c.at_+1)) rfl (fun w' hS'=>mW rfl a0 om_) hS ?_;refine plan.af 7 _ (.pointer (some ⟨w.heap.size,0,none⟩)) rfl (fun w' hS'=>kr_) hS ?_;refine plan.af 8 _ (.pointer (some ⟨w.heap.size,3,none⟩)) rfl (fun w' hS'=>kr_) hS ?_;refine plan.af 9 _ (.int .i64 c.s.pl) rfl (fun w' hS'=>aB (ad:=⟨w.heap.size,3,none⟩) rfl kr_ ((HX.o w' hS').1.cell 3) isAgg3) hS ?_;refine plan.af 10 _ (.pointer (some ⟨w.heap.size,20,none⟩)) rfl (fun w' hS'=>kr_) hS ?_;refine plan.af 11 _ (zF c.old) rfl (fun w' hS'=>ax (cs:=(zF c.old)) (b:=w.heap.size) (off:=20) rfl (EG (HX.o w' hS').1.whole (fun j v hj=>by match j,hj with | 0,hj=>exact hj | 1,hj=>exact hj | 2,hj=>exact hj | 3,hj=>exact hj | 4,hj=>exact hj | n+5,hj=>simp at hj)) underlying52 rfl dI.o) hS ?_;refine uj 6 12 ?_ ?_
   ·have cD:=rE ((w.alloc (.cells (zH c ta tc la lc fa fc) 147))).heap.size N k (.slice x c.L.length xc) (fdV c.L) w1.drew ho1 hkN HV1.o om_;rw [hkk,<-hcut] at cD;unfold Fv at cD;refine ⟨_,rfl,rfl,.inr ⟨199,#[.slice x c.L.length xc,.int .i64 c.at_,.int .i64 (c.at_+1)],by kernel_rfl,cD.mono ?_⟩⟩;rintro e w3 ⟨v3,rfl,ho3,hg3,hob⟩;have hS3:=hS.grown hg3 hS.size hvl;refine ⟨v3,rfl,hS3, ?_⟩;have hSi:Below ((w.alloc (.cells (zH c ta tc la lc fa fc) 147))).heap.size ((w.alloc (.cells (zH c ta tc la lc fa fc) 147))) (w3.alloc (.cells (zF c.old) 52)):=hS3.alloc hS3.size _;refine plan.dZ (w1:=w3.alloc (.cells (zF c.old) 52)) 12 _ (.slice (some ⟨w3.heap.size,0,none⟩) 1 1) rfl rfl hSi ?_;have hv3:∀j,v3.ownBlock=some j->((w.alloc (.cells (zH c ta tc la lc fa fc) 147))).heap.size<=j:=fun j hj=>(World.ownsRow.lt ho3 j hj).1
    have cI:=ng ((w.alloc (.cells (zH c ta tc la lc fa fc) 147))).heap.size N i w3.heap.size 0 1 (fdC c.old) 52 v3 (fdV (jo c.L k)) (fdC c.old) (w3.alloc (.cells (zF c.old) 52)) (ho3.alloc _) hSi.size hiN rfl (Block.new w3 _ _) (by simp [fdC]) (fun e=>by have:=World.ownsRow.lt ho3 _ e;omega) (fun j u hj=>by rw [Nat.zero_add];exact hj) h1c h1x om_;rw [hii] at cI;unfold mM at cI;refine plan.dY 13 _ 198 #[v3,.int .i64 c.s.pl,.slice (some ⟨w3.heap.size,0,none⟩) 1 1] rfl (cI.mono ?_)
    exact t36
   ·have hSa:Below ((w.alloc (.cells (zH c ta tc la lc fa fc) 147))).heap.size ((w.alloc (.cells (zH c ta tc la lc fa fc) 147))) (w1.drew.alloc (.cells (zF c.old) 52)):=hS.alloc hS.size _;refine ⟨_,rfl,rfl,.inl ⟨.slice (some ⟨w1.drew.heap.size,0,none⟩) 1 1,w1.drew.alloc (.cells (zF c.old) 52),by kernel_rfl,hSa, ?_⟩⟩;have cD:=rE ((w.alloc (.cells (zH c ta tc la lc fa fc) 147))).heap.size N k (.slice x c.L.length xc) (fdV c.L) (w1.drew.alloc (.cells (zF c.old) 52)) (ho1.alloc _) hkN HV1.o om_;rw [hkk,<-hcut] at cD;unfold Fv at cD;refine plan.dY 6 _ 199 #[.slice x c.L.length xc,.int .i64 c.at_,.int .i64 (c.at_+1)] rfl (cD.mono ?_);rintro e w3 ⟨v3,rfl,ho3,hg3,hob⟩;have hSi:=hSa.grown hg3 hSa.size hvl;have hG:Block w3 w1.drew.heap.size 52 (fdC c.old):=(hg3.block _ si_ (fun e=>by have h5:w1.drew.heap.size<w1.heap.size:=hvg _ e.symm;exact absurd h5 (Nat.lt_irrefl _))).trans (Block.new w1.drew _ _);refine ⟨v3,rfl,hSi, ?_⟩;have hv3:∀j,v3.ownBlock=some j->((w.alloc (.cells (zH c ta tc la lc fa fc) 147))).heap.size<=j:=fun j hj=>(World.ownsRow.lt ho3 j hj).1
    have hne:v3.ownBlock≠some w1.drew.heap.size:=fun e=>by rw [hob] at e;have h5:w1.drew.heap.size<w1.heap.size:=hvg _ e;exact absurd h5 (Nat.lt_irrefl _)
    have cI:=ng ((w.alloc (.cells (zH c ta tc la lc fa fc) 147))).heap.size N i w1.drew.heap.size 0 1 (fdC c.old) 52 v3 (fdV (jo c.L k)) (fdC c.old) w3 ho3 hSi.size hiN rfl hG (by simp [fdC]) hne (fun j u hj=>by rw [Nat.zero_add];exact hj) h1c h1x om_;rw [hii] at cI;unfold mM at cI;refine plan.dY 13 _ 198 #[v3,.int .i64 c.s.pl,.slice (some ⟨w1.drew.heap.size,0,none⟩) 1 1] rfl (cI.mono ?_)
    exact t36
  ·have d7:=bf h7;have hsp:fields c=c.L.take k++(dG c++c.L.drop (k+1)):=by unfold fields;rw [if_neg h1,if_neg h7,hk]
   rw [hsp];have cHe:=fun (w':World)=>Em c ta tc la lc fa fc w' hb4 hb6
   have hHl:=Eo c;generalize hHH:dG c=H at *;clear hsp hp hb4 hb6 h1 hk h7 hHH;go_enter func152,ntmps152;go_wp2_with (go_at_call 97;((with_reducible refine cC.mono ?_);rintro e w1 ⟨v,rfl,ho1,hb1⟩;obtain ⟨x,xc,rfl,hxc⟩:=aA ho1;obtain ⟨b0,hbo⟩:=HX.o w1 hb1;have y0:=b0.cell 0;have HO1:=hid ho1;have HB1:=hid hb1;have HBO:=hid hbo;clear ho1 hb1 b0 hbo));have HB12:∀w2,Below w1.drew.heap.size w1.drew w2->Below w1.heap.size w1 w2:=fun w2 h=>(aJ (Below.refl _ _)).trans h
   have hS:Below ((w.alloc (.cells (zH c ta tc la lc fa fc) 147))).heap.size ((w.alloc (.cells (zH c ta tc la lc fa fc) 147))) w1.drew:=aJ HB1.o;refine plan.bU (S:=fun w'=>Below ((w.alloc (.cells (zH c ta tc la lc fa fc) 147))).heap.size ((w.alloc (.cells (zH c ta tc la lc fa fc) 147))) w') ?_;refine plan.af 0 _ (.slice x c.L.length xc) rfl (fun w' hS'=>kr_) hS ?_;refine plan.af 1 _ (.pointer (some ⟨w.heap.size,19,none⟩)) rfl (fun w' hS'=>kr_) hS ?_;refine plan.af 2 _ (.int .i64 c.at_) rfl (fun w' hS'=>aB (ad:=⟨w.heap.size,19,none⟩) rfl kr_ ((HX.o w' hS').1.cell 19) isAgg3) hS ?_;refine plan.af 3 _ (.pointer (some ⟨w.heap.size,19,none⟩)) rfl (fun w' hS'=>kr_) hS ?_;refine plan.af 4 _ (.int .i64 c.at_) rfl (fun w' hS'=>aB (ad:=⟨w.heap.size,19,none⟩) rfl kr_ ((HX.o w' hS').1.cell 19) isAgg3) hS ?_;refine plan.af 5 _ (.int .i64 (c.at_+1)) rfl (fun w' hS'=>mW rfl a0 om_) hS ?_;refine plan.af 6 _ (zH c ta tc la lc fa fc) rfl (fun w' hS'=>ax (b:=w.heap.size) (off:=0) rfl (HX.o w' hS').1.whole underlying147 rfl dH) hS ?_;refine plan.dY 7 _ 201 #[zH c ta tc la lc fa fc] rfl ((cHe w1.drew).mono ?_);intro e w2 hout;obtain ⟨hv,rfl,hb2,hcase⟩:=hout.value;have hS2:=hS.trans (hb2.mono hS.size);refine ⟨hv,rfl,hS2, ?_⟩;have hown2:w2.ownsRow ((w.alloc (.cells (zH c ta tc la lc fa fc) 147))).heap.size 52 5 (.slice x c.L.length xc) (N+1) (fdV c.L):=by
    have:=ai (w':=w2) HO1.o (HB12 w2 hb2);rw [<-hN.o];exact this
   have cR:=AO ((w.alloc (.cells (zH c ta tc la lc fa fc) 147))).heap.size N k (.slice x c.L.length xc) (fdV c.L) H hv w2 hown2 hS2.size (by have:=hN.o;omega) HV1.o (by have:=hN.o;omega) (by
    rcases hcase with ⟨q1,q2⟩ | ⟨q1,g,q2,q3,q4⟩
    ·exact .inl ⟨q1,q2⟩
    ·refine .inr ⟨q1,hHl,g,q3,q4,fun e=> ?_⟩;have h3:=(World.ownsRow.lt HO1.o g e).2;have h4:w1.heap.size<=g:=q2;omega)
   rw [hkk] at cR;unfold mM at cR;refine plan.dY 8 _ 200 #[.slice x c.L.length xc,.int .i64 c.at_,.int .i64 (c.at_+1),hv] rfl (cR.mono ?_);rintro e w3 ⟨v3,rfl,ho3,hg3⟩;have hvl:∀j,(Value.slice x c.L.length xc).ownBlock=some j->((w.alloc (.cells (zH c ta tc la lc fa fc) 147))).heap.size<=j:=fun j hj=>(World.ownsRow.lt HO1.o j hj).1
   have hS3:=hS2.grown hg3 hS2.size hvl;refine ⟨v3,rfl,hS3, ?_⟩;refine plan.dZ (w1:=w3) 9 _ v3 rfl rfl hS3 ?_;refine plan.gI ?_;have HFIN:Hid (mO (c.L.take k++(H++c.L.drop (k+1))) w (.returned v3) w3):=hid (finish (HX.o w2 hS2).2 HSZ.o hvl ho3 hg3 (by rw [fC,fC,pR,pM]) (by have:=hN.o;simp only [List.length_append,List.length_take,List.length_drop];omega));clear cR ho3 hg3 hS3 hS2 hS hown2 hvl hcase hout cHe;walk_nrm;go_wp2;go_ret;exact HFIN.o
end typing
end Go.Proofs.YtogkgbnpodojjaaGreat
