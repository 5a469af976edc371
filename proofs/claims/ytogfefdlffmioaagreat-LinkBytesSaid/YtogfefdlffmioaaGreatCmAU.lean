/- Contracts and lemmas that claims of this seat share: SchemaPrint, SchemaFixP, SchemaExec, SchemaRefRight, SchemaRefField, SchemaRefParse, SchemaFix, PenRefTake. Each says its own conditions. -/
import Derived.Test.YtogfefdlffmioaaGreatCmWord
import Derived.Conc.WalkWords
import Derived.Test.YtogfefdlffmioaaGreatCmAI
import Derived.Test.YtogfefdlffmioaaGreatCmJ
import Derived.Test.YtogfefdlffmioaaGreatCmAN
import Derived.Test.YtogfefdlffmioaaGreatCmZ
import Derived.Test.YtogfefdlffmioaaGreatCmAE
import Derived.Test.YtogfefdlffmioaaGreatCmAR
import Derived.Test.YtogfefdlffmioaaGreatCmO
import Derived.Test.YtogfefdlffmioaaGreatCmAQ
import Derived.Test.YtogfefdlffmioaaGreatCmM
import Derived.Test.YtogfefdlffmioaaGreatCmAA
set_option linter.unusedVariables false
namespace Go.Proofs.YtogfefdlffmioaaGreat
open Go.Proofs.Tryz
namespace schema
open Go.RowKit pen
theorem PS.field{g:Nat}{w1:World}{xs:List Nat}{v:Value}{w:World}(h:PS g w1 xs v w)(p:field.Fd)(hr:p.Right)(hn:xs.length<=100000):
  Calls prog 66 #[.pointer (some ⟨g,0,none⟩),zF p] w fun e w'=>e=.returned (.tuple #[])/\∃v',PS g w1 (xs++fieldB p) v' w':=
 (printField_any g g v xs w h.1 h.2.2 p hr hn).mono fun _ _ ⟨he,v',hp,ht⟩=>⟨he,v',h.step hp ht⟩
theorem formsB_take_len{F:List Form}{v:Int}(h:Right v F)(k:Nat):(formsB (F.take k)).length<=3000:=by
 have h1:=formsB_len (F:=F.take k) (fun p hp=>h.2.2.1 p (List.mem_of_mem_take hp));have h2:=h.2.1;have h3:(F.take k).length<=F.length:=by simp;omega
 omega
theorem fieldsB_take_len{p:Form}(h:Fine p)(k:Nat):(fieldsB (p.2.take k)).length<=320:=by
 have h1:=fieldsB_len (L:=p.2.take k) (fun f hf=>h.2.2.1.1 f (List.mem_of_mem_take hf));have h2:=h.2.1;have h3:(p.2.take k).length<=p.2.length:=by simp;omega
 omega
theorem print_no(v:Int)(a:Option Addr)(cap:Nat)(F:List Fm)(w:World)(h:FmL w a F)(hF:F.length<=maxLen)(hr:¬Right v (forms F)):
  Calls prog 39 #[zS v a F.length cap] w fun e w'=>e=.returned (.tuple #[.slice none 0 0,.int .i64 2])/\Below w.heap.size w w':=by
 have HX:=hid (boxS v a F cap w);have cR:=right_any v a cap F (w.alloc (.cells (zS v a F.length cap) 24)) (h.below (field.newB _ _)) hF;rw[decide_eq_false hr] at cR;clear h hr;go_enter func39,ntmps39;go_wp2_with (go_at_call 36;((with_reducible refine cR.mono ?_);rintro e w1 ⟨rfl,ak⟩;obtain⟨z0,z1,aN⟩:=HX.o _ ak));go_ret2;exact⟨rfl,aN⟩
theorem print_yes(v:Int)(a:Option Addr)(cap:Nat)(F:List Fm)(w:World)(h:FmL w a F)(hr:Right v (forms F)):
  Calls prog 39 #[zS v a F.length cap] w (pen.Gives (schemaB v (forms F)) 0 w):=by
 have h8:F.length<=8:=by have:=hr.2.1;rw[forms_length] at this;exact this
 have hv:=hr.1;have HX:=hid (boxS v a F cap w);have bT:=field.newB w (.cells (zS v a F.length cap) 24);have cR:=right_any v a cap F (w.alloc (.cells (zS v a F.length cap) 24)) (h.below bT) (by unfold maxLen;omega);rw[decide_eq_true hr] at cR;have HF:=hid (h.below bT);have HR:=hid hr;have HSB:Hid (schemaB v (forms F)=[]++vb v.toNat++vb (F.length:Int).toNat++formsB (forms F)):=hid (by unfold schemaB;rw[forms_length];simp);have lv:=vb_ten v.toNat om_;have ln:=vb_ten (F.length:Int).toNat om_;obtain⟨X,hX⟩:∃X:List Nat,Hid ([]++vb v.toNat++vb (F.length:Int).toNat=X):=⟨_,hid rfl⟩;have HXL:Hid (X.length<=20):=hid (by rw[<-hX.o];simp only[List.length_append,List.length_nil];omega);rw[hX.o] at HSB;rw[HSB.o];clear h hr bT;go_enter func39,ntmps39;go_wp2_with (first
  | (go_at_call 36;((with_reducible refine cR.mono ?_);rintro e w1 ⟨rfl,ak⟩;obtain⟨z0,z1,aN⟩:=HX.o _ ak;have hF1:=HF.o.below ak))
  | (go_at_call 14;((with_reducible refine(new_any w1).mono ?_);rintro e w2 ⟨rfl,dD,aj⟩;have aP:PS w1.heap.size w1 [] (.slice none 0 0) w2:=⟨dD,aj,aj.size⟩;obtain⟨z0,z1,_⟩:=HX.o _ (ak.trans (aj.mono ak.size))))
  | (go_at_call 15;((with_reducible refine(aP.count v om_ om_ si_).mono ?_);rintro e w3 ⟨rfl,v3,cu,_⟩;obtain⟨z0,z1,_⟩:=HX.o _ (ak.trans (cu.2.1.mono ak.size))))
  | (go_at_call 15;((with_reducible refine(cu.count (F.length:Int) om_ om_ (by simp only[List.length_append,List.length_nil];omega)).mono ?_);rintro e w4 ⟨rfl,v4,bD,_⟩;obtain⟨z0,z1,_⟩:=HX.o _ (ak.trans (bD.2.1.mono ak.size)))))
 have oV:=aN;generalize hg:w1.heap.size=g at *;rw[hX.o] at bD;go_loopw [25] (fun n wr=>∃k:Nat,k<=F.length/\n=.int .i64 (k:Int)/\Hid (∃vP,PS g w1 (X++formsB ((forms F).take k)) vP wr)) (fun n _=>F.length - (intOf n).toNat);case atStart=>exact⟨0,Nat.zero_le _,rfl,hid ⟨v4,by simpa[formsB] using bD⟩⟩
 case round=>
  obtain⟨k,hk,rfl,HS⟩:=hrel;obtain⟨vP,hS⟩:=HS.o;by_cases au:k<F.length
  ·obtain⟨b,off,p,rfl,bQ,hp,c0,c1,gQ,jc⟩:=form_at hF1 (by rw[hg];exact hS.2.1) au;have i1:(k:Int)<F.length:=by omega
   have HTK:=hid (formsB_succ (forms_at hp));have hgd:=(hF1.2 p (List.mem_of_getElem? hp)).rf;have jw:Fine p.p:=HR.o.2.2.1 _ (List.mem_of_getElem? (forms_at hp));obtain⟨i,q,qc,L⟩:=p;simp only[Fm.p] at HTK c0 c1 gQ jc jw hgd;have HF6:=hid hgd;clear hgd;have HFI:=hid jw;have hi:=jw.1;have hl:=jw.2.1;simp only at hi hl;have lf:=formsB_take_len HR.o k;have li:=vb_ten i.toNat om_;have ll:=vb_ten (L.length:Int).toNat om_;have qp:=HXL.o;have aW:=hS.later (field.newB wr (.cells (zS i q L.length qc) 43));have dZ:=Block.new wr 43 (zS i q L.length qc);have aH:wr.heap.size≠g:=by have:=hS.1.1.lt;omega
   have HBK:=hid dZ;have hFq:field.Fds (wr.alloc (.cells (zS i q L.length qc) 43)) q L:=gQ.below (field.newB _ _);clear hp jw dZ gQ hS HS;have fZ:(X++formsB ((forms F).take k)).length<=3020:=by simp only[List.length_append];omega
   obtain⟨Y,hY⟩:∃Y:List Nat,Hid (X++formsB ((forms F).take k)=Y):=⟨_,hid rfl⟩;rw[hY.o] at aW fZ;go_wp2_with (first
    | (go_at_call 15;((with_reducible refine(aW.count i om_ om_ om_).mono ?_);rintro e w5 ⟨rfl,v5,bP,hK5⟩;have jQ:=hK5 _ _ _ HBK.o fm_ty aH;have y0:=jQ.cell 0;have y1:=jQ.cell 1))
    | (go_at_call 15;((with_reducible refine(bP.count (L.length:Int) om_ om_ (by simp only[List.length_append];omega)).mono ?_);rintro e w6 ⟨rfl,v6,bF,hK6⟩;have nT:=hK6 _ _ _ jQ fm_ty aH;have y0:=nT.cell 0;have y1:=nT.cell 1)))
   go_loopw [41] (fun m wq=>∃j:Nat,j<=L.length/\m=.int .i64 (j:Int)/\Hid (∃vP,PS g w1 (Y++vb i.toNat++vb (L.length:Int).toNat++fieldsB (L.take j)) vP wq)) (fun m _=>L.length - (intOf m).toNat);case atStart=>exact⟨0,Nat.zero_le _,rfl,hid ⟨v6,by simpa[fieldsB] using bF⟩⟩
   case round=>
    obtain⟨j,hj,rfl,HS⟩:=hrel;obtain⟨vQ,hQ⟩:=HS.o;by_cases hjt:j<L.length
    ·obtain⟨b2,off2,x,rfl,jq,hx,e0,e1,e2,e3,e4⟩:=field_at HF6.o (by rw[hg];exact hQ.2.1) hjt;have i2:(j:Int)<L.length:=by omega
     have HXX:=hid (fieldsB_succ hx);have lg:=fieldsB_take_len HFI.o j;have cP:=(hQ.later (field.newB wr (.cells (zF x) 79))).field x (HFI.o.2.2.1.1 x (List.mem_of_getElem? hx)) (by simp only[List.length_append] at lg ⊢;omega);clear hx;go_wp2_with (go_at_call 66;((with_reducible refine cP.mono ?_);rintro e w7 ⟨rfl,v7,iQ⟩));exact⟨⟨j+1,by omega,by go_num,hid ⟨v7,by rw[HXX.o];simpa only[List.append_assoc] using iQ⟩⟩,by simp[intOf];omega⟩
    ·obtain rfl:j=L.length:=by omega
     rw[List.take_of_length_le (Nat.le_refl _)] at hQ;have HEND:Hid (PS g w1 (X++formsB ((forms F).take (k+1))) vQ wr):=hid (by
      rw[HTK.o];have h1:=hQ;rw[<-hY.o] at h1;simpa only[formB,List.append_assoc,Int.toNat_natCast] using h1)
     clear hQ HS;go_wp2;exact⟨⟨k+1,by omega,by go_num,hid ⟨vQ,HEND.o⟩⟩,by simp[intOf];omega⟩
  ·obtain rfl:k=F.length:=by omega
   rw[List.take_of_length_le (by rw[forms_length];exact Nat.le_refl _)] at hS;have cD:=done_any g g vP (X++formsB (forms F)) wr hS.1 (by have h1:=formsB_take_len HR.o F.length;rw[List.take_of_length_le (by rw[forms_length];exact Nat.le_refl _)] at h1;have:=HXL.o;simp only[List.length_append];omega);go_wp2_with (go_at_call 18;((with_reducible refine cD.mono ?_);rintro e w5 ⟨u,rfl,ho,aI⟩));go_ret2;have dW:Below g w1 w5:=hS.2.1.trans (aI.mono hS.2.2);have gu:w.heap.size<=wr.heap.size:=Nat.le_trans oV.size (by have:=hS.2.2;omega);exact⟨u,rfl,own_low ho gu,oV.trans ((by rw[hg];exact dW:Below w1.heap.size w1 w5).mono oV.size)⟩
end schema
namespace schema
open Go.RowKit pen
theorem parse_own{a:Option Addr}{c:Nat}{xs:List Nat}{w:World}(hr:Reads .u8 w a xs.length xs)(hx:∀c∈xs,c<256)(hl:xs.length<=140737488355328){V:Int}{P:List Form}{E:Nat}(Z:Int)(hz:Z=(E:Int))(hP:parsed xs=(V,P,E)):
  Calls prog 26 #[.slice a xs.length c] w fun e w'=>∃(a:Option Addr) (c:Nat) (F:List Fm),e=.returned (.tuple #[zS V a F.length c,.int .i64 Z])/\forms F=P/\Upon w.heap.size w' (fun v=>FmL v a F)/\Below w.heap.size w w':=by
 have h:=parse_any a c xs w hr hx hl;unfold ParsedAs at h;rw[hP] at h;rw[hz];exact h
theorem parsed_len(xs:List Nat):(parsed xs).2.1.length<=8:=by
 have hN:(readN xs).1<=8:=eCount_le 8 (readV xs).2;have hl:(readF xs).1.length=(readN xs).1:=takeFms_len _ _;unfold parsed;split
 ·simp
 ·split
  ·simp only;omega
  ·simp
theorem schemaB_lt(v:Int)(F:List Form):∀c∈schemaB v F,c<256:=by
 have hf:∀f,∀c∈fieldB f,c<256:=by
  intro f c hc;unfold fieldB at hc;simp only[List.mem_append] at hc;rcases hc with (h | h) | h
  ·exact vb_lt _ c h
  ·exact vb_lt _ c h
  ·split at h
   ·rcases List.mem_append.1 h with h | h <;> exact vb_lt _ c h
   ·split at h
    ·exact vb_lt _ c h
    ·simp at h
 have hm:∀p,∀c∈formB p,c<256:=by
  intro p c hc;unfold formB fieldsB at hc;simp only[List.mem_append,List.mem_flatten,List.mem_map] at hc;rcases hc with (h | h) | ⟨l,⟨f,_,rfl⟩,h⟩
  ·exact vb_lt _ c h
  ·exact vb_lt _ c h
  ·exact hf f c h
 intro c hc;unfold schemaB formsB at hc;simp only[List.mem_append,List.mem_flatten,List.mem_map] at hc;rcases hc with (h | h) | ⟨l,⟨f,_,rfl⟩,h⟩
 ·exact vb_lt _ c h
 ·exact vb_lt _ c h
 ·exact hm f c h
end schema
namespace schema
open Go.RowKit
section
variable {o:Oper} {a:Act} {w:World}
theorem exec_indexM{x y:Operand}{b off len cap i:Nat}(ho:o.op=.indexAddr 22 x y)(hi:i<len)(hx:a.eval x=.slice (some ⟨b,off,none⟩) len cap:=by kernel_rfl)(hy:a.eval y=.int .i64 (i:Int):=by kernel_rfl):
  (execOp a.eval o).run prog w=.ok (.value (.pointer (some ⟨b,off+i*2,none⟩))) w:=by
 exact t85
end
end schema
theorem t140{P:Prop}(h:P:=by
 refine plan.Rest.first 26 _ (.bool true) rfl (fun w' af=>kr_) ?_
 exact t37):P:=h
theorem t75{P:Prop}(h:P:=by
 go_enter func19,ntmps19;go_wp2;go_ret;exact⟨rfl,HW.o⟩):P:=h
namespace schema
open Go.RowKit
open field (Gives newB gives_from)
set_option maxRecDepth 20000 in
set_option maxHeartbeats 1600000 in
theorem refRight_any(v:Int)(a:Option Addr)(cap:Nat)(F:List Fm)(w:World)(h:FmL w a F)(hF:F.length<=maxLen):
  Calls prog 19 #[zS v a F.length cap] w (Gives (.bool (decide (Right v (forms F)))) w):=by
 have hml:(F.length:Int)<=9223372036854775807:=by unfold maxLen at hF;omega
 have HX:=hid (boxS v a F cap w);have hw:=newB w (.cells (zS v a F.length cap) 24);have HF:=hid (h.below hw);have HW:=hid hw;have HL:=hid (forms_length F);obtain⟨r,hr⟩:∃r:Bool,Hid (decide (Right v (forms F))=r):=⟨_,rfl⟩;rw[hr.o];unfold Gives;clear h hw;by_cases h1:v<1
 ·obtain rfl:false=r:=by rw[<-hr.o];exact(decide_eq_false (fun e=>by have:=e.1.1;omega)).symm
  have hd1:decide (v<1)=true:=decide_eq_true h1;clear h1
  exact t75
 have hd1:decide (v<1)=false:=decide_eq_false h1;by_cases h2:v>65535
 ·obtain rfl:false=r:=by rw[<-hr.o];exact(decide_eq_false (fun e=>by have:=e.1.2;omega)).symm
  have hd2:decide (v>65535)=true:=decide_eq_true h2;clear h1 h2
  exact t75
 have hd2:decide (v>65535)=false:=decide_eq_false h2;by_cases h4:F.length>8
 ·obtain rfl:false=r:=by rw[<-hr.o];exact(decide_eq_false (fun e=>by have:=e.2.1;rw[forms_length] at this;omega)).symm
  have hd4:decide ((F.length:Int)>8)=true:=decide_eq_true om_;clear h1 h2 h4
  exact t75
 have hd4:decide ((F.length:Int)>8)=false:=decide_eq_false om_;have HRI:Hid (Right v (forms F)↔FineS (forms F)):=hid ⟨fun e=>e.2.2,fun e=>⟨by omega,by rw[forms_length];omega,e⟩⟩;have h8:F.length<=8:=by omega
 clear h1 h2 h4;go_enter func19,ntmps19;go_wp2;clear hd1 hd2 hd4;generalize (w.alloc (.cells (zS v a F.length cap) 24))=W0 at *;go_loopw [3] (fun n wr=>∃k:Nat,k<=F.length/\n=.int .i64 (k:Int)/\Hid (FineS ((forms F).take k))/\Hid (Below W0.heap.size W0 wr)) (fun n _=>F.length - (intOf n).toNat);case atStart=>exact⟨0,Nat.zero_le _,rfl,hid FineS.nil,hid (Below.refl _ _)⟩
 case round=>
  obtain⟨k,hk,rfl,HOK,HB⟩:=hrel;obtain⟨z0,z1,aN⟩:=HX.o _ HB.o;by_cases au:k<F.length
  ·obtain⟨b,off,p,rfl,bQ,hp,c0,c1,gQ,jc⟩:=form_at HF.o HB.o au;have i1:(k:Int)<F.length:=by omega
   have HNO:=hid (fineS_no (forms_at hp));have HSUC:=hid (fineS_succ (forms_at hp));have hR:=range2 c0 c1;obtain⟨i,q,qc,L⟩:=p;simp only[Fm.p] at HNO HSUC hR gQ jc c0 c1;have cf:=fun w' (af:Below wr.heap.size wr w')=>refFine_any i q qc L w' (gQ.below af) jc
   by_cases hf:Fine (i,L)
   ·rw[decide_eq_true hf] at cf;by_cases kz:k=0
    ·have HGT:Hid (decide ((k:Int)>0)=false):=hid (by rw[kz];simp);have HOK2:Hid (FineS ((forms F).take (k+1))):=hid (HSUC.o.2 ⟨HOK.o,hf,by rw[kz];simp⟩);have HZ:=hid (fun w' (af:Below wr.heap.size wr w')=>(⟨by obtain⟨_,y1,_⟩:=HX.o w' (HB.o.trans (af.mono HB.o.size));exact y1,range_later hR af bQ⟩:w'.cell? ⟨w.heap.size,1,none⟩=some (.slice (some ⟨b,off,none⟩) F.length cap)/\w'.rangeAt b (off+k*2) (zS i q L.length qc)));clear hp hR hf c0 c1 gQ kz HOK HNO HSUC;go_wp2;have hb:Below wr.heap.size wr wr.drew:=below_drew (Below.refl _ _)
     ·refine plan.region kr_ ?_;refine plan.Rest.first 0 _ (.pointer (some ⟨w.heap.size,1,none⟩)) rfl (fun w' af=>kr_) ?_;refine plan.Rest.first 1 _ (.slice (some ⟨b,off,none⟩) F.length cap) rfl (fun w' af=>exec_cell_slice (ad:=⟨w.heap.size,1,none⟩) rfl (HZ.o _ (hb.trans (af.mono hb.size))).1 isAgg22) ?_;refine plan.Rest.first 2 _ (.int .i64 (k:Int)) rfl (fun w' af=>kr_) ?_;refine plan.Rest.first 3 _ (.pointer (some ⟨b,off+k*2,none⟩)) rfl (fun w' af=>(exec_indexM (b:=b) (off:=off) (len:=F.length) (cap:=cap) (i:=k) rfl au)) ?_;refine plan.Rest.first 4 _ (zS i q L.length qc) rfl (fun w' af=>exec_load_at (b:=b) (off:=off+k*2) rfl (HZ.o _ (hb.trans (af.mono hb.size))).2 underlying43 rfl info_fm.o) ?_;refine plan.Rest.call 5 _ 43 #[zS i q L.length qc] rfl ((cf wr.drew hb).mono ?_);rintro e W1 ⟨rfl,hn⟩;have hb:=hb.trans (hn.mono hb.size);refine⟨_,rfl,hn, ?_⟩;refine plan.Rest.first 6 _ (.bool false) rfl (fun w' af=>kr_) ?_;refine plan.Rest.first 7 _ (.bool false) rfl (fun w' af=>kr_) ?_;refine plan.Rest.first 8 _ (.int .i64 (k:Int)) rfl (fun w' af=>kr_) ?_;refine plan.Rest.first 9 _ (.bool false) rfl (fun w' af=>(exec_gtr_int (n:=(k:Int)) (m:=0) rfl HGT)) ?_;refine plan.Rest.first 10 _ (.bool false) rfl (fun w' af=>kr_) ?_;refine plan.Rest.skip 11 _ rfl ?_;refine plan.Rest.skip 12 _ rfl ?_;refine plan.Rest.skip 13 _ rfl ?_;refine plan.Rest.skip 14 _ rfl ?_;refine plan.Rest.skip 15 _ rfl ?_;refine plan.Rest.skip 16 _ rfl ?_;refine plan.Rest.skip 17 _ rfl ?_;refine plan.Rest.skip 18 _ rfl ?_;refine plan.Rest.skip 19 _ rfl ?_;refine plan.Rest.skip 20 _ rfl ?_;refine plan.Rest.skip 21 _ rfl ?_;refine plan.Rest.skip 22 _ rfl ?_;refine plan.Rest.skip 23 _ rfl ?_;refine plan.Rest.skip 24 _ rfl ?_;refine plan.Rest.first 25 _ (.bool false) rfl (fun w' af=>kr_) ?_;refine plan.Rest.first 26 _ (.bool false) rfl (fun w' af=>kr_) ?_
      exact t61
    ·obtain⟨k,rfl⟩:∃j,k=j+1:=⟨k - 1,by omega⟩;clear kz;have dS:k<F.length:=by omega
     obtain⟨b',off',p0,hab,fC,jL,d0,_,_,_⟩:=form_at HF.o HB.o dS;obtain⟨rfl,rfl⟩:b=b'/\off=off':=by cases hab;exact⟨rfl,rfl⟩
     clear hab;obtain⟨i0,q0,qc0,L0⟩:=p0;have HRI2:=hid (rise (x:=(i,L)) (forms_at jL) HOK.o);simp only[Fm.p] at HRI2 d0;have HGT:Hid (decide (((k+1:Nat):Int)>0)=true):=hid (decide_eq_true om_);have HZ:=hid (fun w' (af:Below wr.heap.size wr w')=>(⟨by obtain⟨_,y1,_⟩:=HX.o w' (HB.o.trans (af.mono HB.o.size));exact y1,range_later hR af bQ,(af.cell (p:=⟨b,off+k*2,none⟩) bQ).trans d0⟩:w'.cell? ⟨w.heap.size,1,none⟩=some (.slice (some ⟨b,off,none⟩) F.length cap)/\w'.rangeAt b (off+(k+1)*2) (zS i q L.length qc)/\w'.cell? ⟨b,off+k*2,none⟩=some (.int .i64 i0)));clear hp hR c0 c1 gQ jL d0;by_cases hg:i0≥i
     ·have HGE:Hid (decide (i0≥i)=true):=hid (decide_eq_true hg);obtain rfl:false=r:=by rw[<-hr.o];exact(decide_eq_false (fun e=>HNO.o (fun e2=>by have:=HRI2.o.1 e2.2;omega) (HRI.o.1 e))).symm
      clear hg hf;go_wp2;have hb:Below wr.heap.size wr wr.drew:=below_drew (Below.refl _ _)
      ·refine plan.region kr_ ?_;refine plan.Rest.first 0 _ (.pointer (some ⟨w.heap.size,1,none⟩)) rfl (fun w' af=>kr_) ?_;refine plan.Rest.first 1 _ (.slice (some ⟨b,off,none⟩) F.length cap) rfl (fun w' af=>exec_cell_slice (ad:=⟨w.heap.size,1,none⟩) rfl (HZ.o _ (hb.trans (af.mono hb.size))).1 isAgg22) ?_;refine plan.Rest.first 2 _ (.int .i64 ((k+1:Nat):Int)) rfl (fun w' af=>kr_) ?_;refine plan.Rest.first 3 _ (.pointer (some ⟨b,off+(k+1)*2,none⟩)) rfl (fun w' af=>(exec_indexM (b:=b) (off:=off) (len:=F.length) (cap:=cap) (i:=(k+1)) rfl au)) ?_;refine plan.Rest.first 4 _ (zS i q L.length qc) rfl (fun w' af=>exec_load_at (b:=b) (off:=off+(k+1)*2) rfl (HZ.o _ (hb.trans (af.mono hb.size))).2.1 underlying43 rfl info_fm.o) ?_;refine plan.Rest.call 5 _ 43 #[zS i q L.length qc] rfl ((cf wr.drew hb).mono ?_);rintro e W1 ⟨rfl,hn⟩;have hb:=hb.trans (hn.mono hb.size);refine⟨_,rfl,hn, ?_⟩;refine plan.Rest.first 6 _ (.bool false) rfl (fun w' af=>kr_) ?_;refine plan.Rest.first 7 _ (.bool false) rfl (fun w' af=>kr_) ?_;refine plan.Rest.first 8 _ (.int .i64 ((k+1:Nat):Int)) rfl (fun w' af=>kr_) ?_;refine plan.Rest.first 9 _ (.bool true) rfl (fun w' af=>(exec_gtr_int (n:=((k+1:Nat):Int)) (m:=0) rfl HGT)) ?_;refine plan.Rest.first 10 _ (.bool true) rfl (fun w' af=>kr_) ?_;refine plan.Rest.first 11 _ (.pointer (some ⟨w.heap.size,1,none⟩)) rfl (fun w' af=>kr_) ?_;refine plan.Rest.first 12 _ (.slice (some ⟨b,off,none⟩) F.length cap) rfl (fun w' af=>exec_cell_slice (ad:=⟨w.heap.size,1,none⟩) rfl (HZ.o _ (hb.trans (af.mono hb.size))).1 isAgg22) ?_;refine plan.Rest.first 13 _ (.int .i64 ((k+1:Nat):Int)) rfl (fun w' af=>kr_) ?_;refine plan.Rest.first 14 _ (.int .i64 (k:Int)) rfl (fun w' af=>(exec_pred (k:=k) rfl om_)) ?_;refine plan.Rest.first 15 _ (.pointer (some ⟨b,off+k*2,none⟩)) rfl (fun w' af=>(exec_indexM (b:=b) (off:=off) (len:=F.length) (cap:=cap) (i:=k) rfl dS)) ?_;refine plan.Rest.first 16 _ (.pointer (some ⟨b,off+k*2,none⟩)) rfl (fun w' af=>kr_) ?_;refine plan.Rest.first 17 _ (.int .i64 i0) rfl (fun w' af=>exec_cell_int (ad:=⟨b,off+k*2,none⟩) rfl kr_ (HZ.o _ (hb.trans (af.mono hb.size))).2.2 isAgg3) ?_;refine plan.Rest.first 18 _ (.pointer (some ⟨w.heap.size,1,none⟩)) rfl (fun w' af=>kr_) ?_;refine plan.Rest.first 19 _ (.slice (some ⟨b,off,none⟩) F.length cap) rfl (fun w' af=>exec_cell_slice (ad:=⟨w.heap.size,1,none⟩) rfl (HZ.o _ (hb.trans (af.mono hb.size))).1 isAgg22) ?_;refine plan.Rest.first 20 _ (.int .i64 ((k+1:Nat):Int)) rfl (fun w' af=>kr_) ?_;refine plan.Rest.first 21 _ (.pointer (some ⟨b,off+(k+1)*2,none⟩)) rfl (fun w' af=>(exec_indexM (b:=b) (off:=off) (len:=F.length) (cap:=cap) (i:=(k+1)) rfl au)) ?_;refine plan.Rest.first 22 _ (.pointer (some ⟨b,off+(k+1)*2,none⟩)) rfl (fun w' af=>kr_) ?_;refine plan.Rest.first 23 _ (.int .i64 i) rfl (fun w' af=>exec_cell_int (ad:=⟨b,off+(k+1)*2,none⟩) rfl kr_ ((HZ.o _ (hb.trans (af.mono hb.size))).2.1 0 _ rfl) isAgg3) ?_;refine plan.Rest.first 24 _ (.bool true) rfl (fun w' af=>(exec_geq_int (n:=i0) (m:=i) rfl HGE)) ?_;refine plan.Rest.first 25 _ (.bool true) rfl (fun w' af=>kr_) ?_
       exact t140
     ·have HGE:Hid (decide (i0≥i)=false):=hid (decide_eq_false hg);have HOK2:Hid (FineS ((forms F).take (k+1+1))):=hid (HSUC.o.2 ⟨HOK.o,hf,HRI2.o.2 om_⟩);clear hg hf;go_wp2;have hb:Below wr.heap.size wr wr.drew:=below_drew (Below.refl _ _)
      ·refine plan.region kr_ ?_;refine plan.Rest.first 0 _ (.pointer (some ⟨w.heap.size,1,none⟩)) rfl (fun w' af=>kr_) ?_;refine plan.Rest.first 1 _ (.slice (some ⟨b,off,none⟩) F.length cap) rfl (fun w' af=>exec_cell_slice (ad:=⟨w.heap.size,1,none⟩) rfl (HZ.o _ (hb.trans (af.mono hb.size))).1 isAgg22) ?_;refine plan.Rest.first 2 _ (.int .i64 ((k+1:Nat):Int)) rfl (fun w' af=>kr_) ?_;refine plan.Rest.first 3 _ (.pointer (some ⟨b,off+(k+1)*2,none⟩)) rfl (fun w' af=>(exec_indexM (b:=b) (off:=off) (len:=F.length) (cap:=cap) (i:=(k+1)) rfl au)) ?_;refine plan.Rest.first 4 _ (zS i q L.length qc) rfl (fun w' af=>exec_load_at (b:=b) (off:=off+(k+1)*2) rfl (HZ.o _ (hb.trans (af.mono hb.size))).2.1 underlying43 rfl info_fm.o) ?_;refine plan.Rest.call 5 _ 43 #[zS i q L.length qc] rfl ((cf wr.drew hb).mono ?_);rintro e W1 ⟨rfl,hn⟩;have hb:=hb.trans (hn.mono hb.size);refine⟨_,rfl,hn, ?_⟩;refine plan.Rest.first 6 _ (.bool false) rfl (fun w' af=>kr_) ?_;refine plan.Rest.first 7 _ (.bool false) rfl (fun w' af=>kr_) ?_;refine plan.Rest.first 8 _ (.int .i64 ((k+1:Nat):Int)) rfl (fun w' af=>kr_) ?_;refine plan.Rest.first 9 _ (.bool true) rfl (fun w' af=>(exec_gtr_int (n:=((k+1:Nat):Int)) (m:=0) rfl HGT)) ?_;refine plan.Rest.first 10 _ (.bool true) rfl (fun w' af=>kr_) ?_;refine plan.Rest.first 11 _ (.pointer (some ⟨w.heap.size,1,none⟩)) rfl (fun w' af=>kr_) ?_;refine plan.Rest.first 12 _ (.slice (some ⟨b,off,none⟩) F.length cap) rfl (fun w' af=>exec_cell_slice (ad:=⟨w.heap.size,1,none⟩) rfl (HZ.o _ (hb.trans (af.mono hb.size))).1 isAgg22) ?_;refine plan.Rest.first 13 _ (.int .i64 ((k+1:Nat):Int)) rfl (fun w' af=>kr_) ?_;refine plan.Rest.first 14 _ (.int .i64 (k:Int)) rfl (fun w' af=>(exec_pred (k:=k) rfl om_)) ?_;refine plan.Rest.first 15 _ (.pointer (some ⟨b,off+k*2,none⟩)) rfl (fun w' af=>(exec_indexM (b:=b) (off:=off) (len:=F.length) (cap:=cap) (i:=k) rfl dS)) ?_;refine plan.Rest.first 16 _ (.pointer (some ⟨b,off+k*2,none⟩)) rfl (fun w' af=>kr_) ?_;refine plan.Rest.first 17 _ (.int .i64 i0) rfl (fun w' af=>exec_cell_int (ad:=⟨b,off+k*2,none⟩) rfl kr_ (HZ.o _ (hb.trans (af.mono hb.size))).2.2 isAgg3) ?_;refine plan.Rest.first 18 _ (.pointer (some ⟨w.heap.size,1,none⟩)) rfl (fun w' af=>kr_) ?_;refine plan.Rest.first 19 _ (.slice (some ⟨b,off,none⟩) F.length cap) rfl (fun w' af=>exec_cell_slice (ad:=⟨w.heap.size,1,none⟩) rfl (HZ.o _ (hb.trans (af.mono hb.size))).1 isAgg22) ?_;refine plan.Rest.first 20 _ (.int .i64 ((k+1:Nat):Int)) rfl (fun w' af=>kr_) ?_;refine plan.Rest.first 21 _ (.pointer (some ⟨b,off+(k+1)*2,none⟩)) rfl (fun w' af=>(exec_indexM (b:=b) (off:=off) (len:=F.length) (cap:=cap) (i:=(k+1)) rfl au)) ?_;refine plan.Rest.first 22 _ (.pointer (some ⟨b,off+(k+1)*2,none⟩)) rfl (fun w' af=>kr_) ?_;refine plan.Rest.first 23 _ (.int .i64 i) rfl (fun w' af=>exec_cell_int (ad:=⟨b,off+(k+1)*2,none⟩) rfl kr_ ((HZ.o _ (hb.trans (af.mono hb.size))).2.1 0 _ rfl) isAgg3) ?_;refine plan.Rest.first 24 _ (.bool false) rfl (fun w' af=>(exec_geq_int (n:=i0) (m:=i) rfl HGE)) ?_;refine plan.Rest.first 25 _ (.bool false) rfl (fun w' af=>kr_) ?_;refine plan.Rest.first 26 _ (.bool false) rfl (fun w' af=>kr_) ?_;refine plan.Rest.done ?_;walk_nrm;go_wp2;exact⟨⟨k+1+1,by omega,by go_num,HOK2,hid (HB.o.trans (hb.mono HB.o.size))⟩,by simp[intOf];omega⟩
   ·rw[decide_eq_false hf] at cf;obtain rfl:false=r:=by rw[<-hr.o];exact(decide_eq_false (fun e=>HNO.o (fun e2=>hf e2.1) (HRI.o.1 e))).symm
    have HZ:=hid (fun w' (af:Below wr.heap.size wr w')=>(⟨by obtain⟨_,y1,_⟩:=HX.o w' (HB.o.trans (af.mono HB.o.size));exact y1,range_later hR af bQ⟩:w'.cell? ⟨w.heap.size,1,none⟩=some (.slice (some ⟨b,off,none⟩) F.length cap)/\w'.rangeAt b (off+k*2) (zS i q L.length qc)));clear hp hR hf c0 c1 gQ;go_wp2;have hb:Below wr.heap.size wr wr.drew:=below_drew (Below.refl _ _)
    ·refine plan.region kr_ ?_;refine plan.Rest.first 0 _ (.pointer (some ⟨w.heap.size,1,none⟩)) rfl (fun w' af=>kr_) ?_;refine plan.Rest.first 1 _ (.slice (some ⟨b,off,none⟩) F.length cap) rfl (fun w' af=>exec_cell_slice (ad:=⟨w.heap.size,1,none⟩) rfl (HZ.o _ (hb.trans (af.mono hb.size))).1 isAgg22) ?_;refine plan.Rest.first 2 _ (.int .i64 (k:Int)) rfl (fun w' af=>kr_) ?_;refine plan.Rest.first 3 _ (.pointer (some ⟨b,off+k*2,none⟩)) rfl (fun w' af=>(exec_indexM (b:=b) (off:=off) (len:=F.length) (cap:=cap) (i:=k) rfl au)) ?_;refine plan.Rest.first 4 _ (zS i q L.length qc) rfl (fun w' af=>exec_load_at (b:=b) (off:=off+k*2) rfl (HZ.o _ (hb.trans (af.mono hb.size))).2 underlying43 rfl info_fm.o) ?_;refine plan.Rest.call 5 _ 43 #[zS i q L.length qc] rfl ((cf wr.drew hb).mono ?_);rintro e W1 ⟨rfl,hn⟩;have hb:=hb.trans (hn.mono hb.size);refine⟨_,rfl,hn, ?_⟩;refine plan.Rest.first 6 _ (.bool true) rfl (fun w' af=>kr_) ?_;refine plan.Rest.first 7 _ (.bool true) rfl (fun w' af=>kr_) ?_;refine plan.Rest.skip 8 _ rfl ?_;refine plan.Rest.skip 9 _ rfl ?_;refine plan.Rest.skip 10 _ rfl ?_;refine plan.Rest.skip 11 _ rfl ?_;refine plan.Rest.skip 12 _ rfl ?_;refine plan.Rest.skip 13 _ rfl ?_;refine plan.Rest.skip 14 _ rfl ?_;refine plan.Rest.skip 15 _ rfl ?_;refine plan.Rest.skip 16 _ rfl ?_;refine plan.Rest.skip 17 _ rfl ?_;refine plan.Rest.skip 18 _ rfl ?_;refine plan.Rest.skip 19 _ rfl ?_;refine plan.Rest.skip 20 _ rfl ?_;refine plan.Rest.skip 21 _ rfl ?_;refine plan.Rest.skip 22 _ rfl ?_;refine plan.Rest.skip 23 _ rfl ?_;refine plan.Rest.skip 24 _ rfl ?_;refine plan.Rest.skip 25 _ rfl ?_
     exact t140
  ·obtain rfl:k=F.length:=by omega
   obtain rfl:true=r:=by rw[<-hr.o];have:=HOK.o;rw[List.take_of_length_le (by rw[HL.o];exact Nat.le_refl _)] at this;exact(decide_eq_true (HRI.o.2 this)).symm
   go_wp2;go_ret;exact⟨rfl,aN⟩
end schema
theorem t12{P:Prop}(h:P:=by
 rintro e W2 ⟨u2,rfl,ho2,aj⟩;have hR2:=aA.of hS aP ho2 aj;have aP:=hR2.2.2;have hS:=hR2.2.1;have hR1:=hR1.later aj;obtain⟨a2,c2,rfl,hq2⟩:=ai hR2.1;refine⟨_,rfl,hS, ?_⟩;refine ay (c:=c2) 8 hR1 hq2 rfl rfl rfl (by (try simp only[List.length_append]);omega) (fun z3 W3 hZ3 hK3=>⟨hZ3.2.1, ?_⟩);have hS:=hZ3.2.1;have aP:=hZ3.2.2;refine plan.oneS 9 _ (z3) rfl rfl hS ?_;refine plan.doneS ?_;walk_nrm;have z4:=(HZ.o _ hZ3.2.1).2.2.2.2;have z1:=(HZ.o _ hZ3.2.1).2.1;have cm:=fun w'=>aC m om_ om_ w'
 go_wp2_with (first
  | (go_at_call 21;((with_reducible refine(cm _).mono ?_);rintro e w5 ⟨u5,rfl,ho5,aI⟩;have hR5:=aA.of hZ3.2.1 hZ3.2.2 ho5 aI;have dM:=hZ3.later aI;obtain⟨a5,c5,rfl,hq5⟩:=ai hR5.1))
  | (at_builtin;refine ah rfl (.tmp 29) (.tmp 33) rfl rfl rfl dM hq5 (by simp only[List.length_append];omega) ?_;intro z6 w6 dI _))
 go_ret;have ho:=own_low dI.1 HBL.o;exact⟨z6,rfl,by simpa only[List.append_assoc] using ho,HWB.o _ dI.2.1⟩):P:=h
namespace schema
open Go.RowKit pen
set_option maxHeartbeats 1600000 in
theorem fO(p:field.Fd)(hr:p.Right)(w:World):Calls prog 45 #[zF p] w (Copies (fieldB p) w):=by
 have hs:=right_span hr;have hk:p.kind=1\/p.kind=2\/p.kind=3\/p.kind=4:=by omega
 have iw:=field.five p w;have jO:=field.belowF p w;have l1:=vb_ten p.id.toNat om_;have l2:=vb_ten p.kind.toNat om_;have l3:=vb_ten (zig p.lo) (zig_lt _ om_ om_);have l4:=vb_ten (zig p.hi) (zig_lt _ om_ om_);have l5:=vb_ten p.most.toNat om_;have iI:fieldB p=vb p.id.toNat++vb p.kind.toNat++(if p.kind=1 then vb (zig p.lo)++vb (zig p.hi) else if p.kind=3\/p.kind=4 then vb p.most.toNat else []):=rfl;rw[iI];clear iI hr;obtain⟨i,k,lw,hi,m⟩:=p;simp only at *;have iH:w.heap.size<=(w.alloc (.cells #[.int .i64 i,.int .i64 k,.int .i64 lw,.int .i64 hi,.int .i64 m] 79)).heap.size:=by simp
 obtain⟨W0,dw⟩:∃x,(w.alloc (.cells #[.int .i64 i,.int .i64 k,.int .i64 lw,.int .i64 hi,.int .i64 m] 79))=x:=⟨_,rfl⟩;have HW0:=hid dw;rw[dw] at iw jO iH;clear dw;obtain⟨B,hB⟩:∃B,W0.heap.size=B:=⟨_,rfl⟩;rw[hB] at iw jO iH;have HZ:=hid iw;have HWB:=hid jO;have HBL:=hid iH;have mM:Hid (B<=W0.drew.heap.size):=hid (Nat.le_of_eq hB.symm);clear iw jO iH hB;unfold Copies;rcases hk with rfl | rfl | rfl | rfl
 ·rw[if_pos rfl];go_enter func45,ntmps45;go_wp2;rw[HW0.o];refine plan.regionS (S:=fun w'=>Below B W0 w') ?_;have hS:Below B W0 W0.drew:=below_drew (Below.refl _ _);have aP:B<=W0.drew.heap.size:=mM.o;refine plan.firstS 0 _ (.pointer (some ⟨w.heap.size,0,none⟩)) rfl (fun w' aJ=>kr_) hS ?_;refine plan.firstS 1 _ (.int .i64 i) rfl (fun w' aJ=>exec_cell_int (ad:=⟨w.heap.size,0,none⟩) rfl kr_ (HZ.o _ aJ).1 isAgg3) hS ?_;refine plan.firstS 2 _ (.int .u64 i) rfl (fun w' aJ=>(aQ (n:=i) rfl om_ om_)) hS ?_;refine plan.firstS 4 _ (.pointer (some ⟨w.heap.size,1,none⟩)) rfl (fun w' aJ=>kr_) hS ?_;refine plan.firstS 5 _ (.int .i64 1) rfl (fun w' aJ=>exec_cell_int (ad:=⟨w.heap.size,1,none⟩) rfl kr_ (HZ.o _ aJ).2.1 isAgg3) hS ?_;refine plan.firstS 6 _ (.int .u64 1) rfl (fun w' aJ=>(aQ (n:=1) rfl om_ om_)) hS ?_;refine plan.callS 3 _ 21 #[.int .u64 i] rfl ((aC i om_ om_ W0.drew).mono ?_);rintro e W1 ⟨u1,rfl,ho1,ak⟩;have hR1:=aA.of hS aP ho1 ak;have aP:=hR1.2.2;have hS:=hR1.2.1;obtain⟨a1,c1,rfl,hq1⟩:=ai hR1.1;refine⟨_,rfl,hS, ?_⟩;refine plan.callS 7 _ 21 #[.int .u64 1] rfl ((aC 1 om_ om_ W1).mono ?_);rintro e W2 ⟨u2,rfl,ho2,aj⟩;have hR2:=aA.of hS aP ho2 aj;have aP:=hR2.2.2;have hS:=hR2.2.1;have hR1:=hR1.later aj;obtain⟨a2,c2,rfl,hq2⟩:=ai hR2.1;refine⟨_,rfl,hS, ?_⟩;refine ay (c:=c2) 8 hR1 hq2 rfl rfl rfl (by (try simp only[List.length_append]);omega) (fun z3 W3 hZ3 hK3=>⟨hZ3.2.1, ?_⟩);have hS:=hZ3.2.1;have aP:=hZ3.2.2;refine plan.oneS 9 _ (z3) rfl rfl hS ?_;refine plan.doneS ?_;walk_nrm;have y1:=(HZ.o _ hZ3.2.1).2.1;go_wp2;have jm:=hZ3.later (w':=W3.drew) (below_drew (Below.refl _ _));have hS:=jm.2.1;have aP:=jm.2.2;refine plan.regionS (S:=fun w'=>Below B W0 w') ?_;refine plan.firstS 0 _ (z3) rfl (fun w' aJ=>kr_) hS ?_;refine plan.firstS 1 _ (.pointer (some ⟨w.heap.size,2,none⟩)) rfl (fun w' aJ=>kr_) hS ?_;refine plan.firstS 2 _ (.int .i64 lw) rfl (fun w' aJ=>exec_cell_int (ad:=⟨w.heap.size,2,none⟩) rfl kr_ (HZ.o _ aJ).2.2.1 isAgg3) hS ?_;refine plan.firstS 5 _ (.pointer (some ⟨w.heap.size,3,none⟩)) rfl (fun w' aJ=>kr_) hS ?_;refine plan.firstS 6 _ (.int .i64 hi) rfl (fun w' aJ=>exec_cell_int (ad:=⟨w.heap.size,3,none⟩) rfl kr_ (HZ.o _ aJ).2.2.2.1 isAgg3) hS ?_;refine plan.callS 3 _ 78 #[.int .i64 lw] rfl ((aY lw om_ om_ W3.drew).mono ?_);rintro e W1 ⟨u1,rfl,ho1,ak⟩;have hR1:=aA.of hS aP ho1 ak;have aP:=hR1.2.2;have hS:=hR1.2.1;have jm:=jm.later ak;obtain⟨a1,c1,rfl,hq1⟩:=ai hR1.1;refine⟨_,rfl,hS, ?_⟩;refine ay (c:=c1) 4 jm hq1 rfl rfl rfl (by (try simp only[List.length_append]);omega) (fun z2 W2 hZ2 hK2=>⟨hZ2.2.1, ?_⟩);have hS:=hZ2.2.1;have aP:=hZ2.2.2;refine plan.callS 7 _ 78 #[.int .i64 hi] rfl ((aY hi om_ om_ W2).mono ?_);rintro e W3 ⟨u3,rfl,ho3,aK⟩;have hR3:=aA.of hS aP ho3 aK;have aP:=hR3.2.2;have hS:=hR3.2.1;have hZ2:=hZ2.later aK;obtain⟨a3,c3,rfl,hq3⟩:=ai hR3.1;refine⟨_,rfl,hS, ?_⟩;refine ay (c:=c3) 8 hZ2 hq3 rfl rfl rfl (by (try simp only[List.length_append]);omega) (fun z4 W4 dR hK4=>⟨dR.2.1, ?_⟩);have hS:=dR.2.1;have aP:=dR.2.2;refine plan.oneS 9 _ (z4) rfl rfl hS ?_;refine plan.doneS ?_;walk_nrm;go_wp2;go_ret;have ho:=own_low dR.1 HBL.o;exact⟨z4,rfl,by simpa only[List.append_assoc] using ho,HWB.o _ dR.2.1⟩
 ·rw[if_neg de_,if_neg de_,List.append_nil];go_enter func45,ntmps45;go_wp2;rw[HW0.o];refine plan.regionS (S:=fun w'=>Below B W0 w') ?_;have hS:Below B W0 W0.drew:=below_drew (Below.refl _ _);have aP:B<=W0.drew.heap.size:=mM.o;refine plan.firstS 0 _ (.pointer (some ⟨w.heap.size,0,none⟩)) rfl (fun w' aJ=>kr_) hS ?_;refine plan.firstS 1 _ (.int .i64 i) rfl (fun w' aJ=>exec_cell_int (ad:=⟨w.heap.size,0,none⟩) rfl kr_ (HZ.o _ aJ).1 isAgg3) hS ?_;refine plan.firstS 2 _ (.int .u64 i) rfl (fun w' aJ=>(aQ (n:=i) rfl om_ om_)) hS ?_;refine plan.firstS 4 _ (.pointer (some ⟨w.heap.size,1,none⟩)) rfl (fun w' aJ=>kr_) hS ?_;refine plan.firstS 5 _ (.int .i64 2) rfl (fun w' aJ=>exec_cell_int (ad:=⟨w.heap.size,1,none⟩) rfl kr_ (HZ.o _ aJ).2.1 isAgg3) hS ?_;refine plan.firstS 6 _ (.int .u64 2) rfl (fun w' aJ=>(aQ (n:=2) rfl om_ om_)) hS ?_;refine plan.callS 3 _ 21 #[.int .u64 i] rfl ((aC i om_ om_ W0.drew).mono ?_);rintro e W1 ⟨u1,rfl,ho1,ak⟩;have hR1:=aA.of hS aP ho1 ak;have aP:=hR1.2.2;have hS:=hR1.2.1;obtain⟨a1,c1,rfl,hq1⟩:=ai hR1.1;refine⟨_,rfl,hS, ?_⟩;refine plan.callS 7 _ 21 #[.int .u64 2] rfl ((aC 2 om_ om_ W1).mono ?_);rintro e W2 ⟨u2,rfl,ho2,aj⟩;have hR2:=aA.of hS aP ho2 aj;have aP:=hR2.2.2;have hS:=hR2.2.1;have hR1:=hR1.later aj;obtain⟨a2,c2,rfl,hq2⟩:=ai hR2.1;refine⟨_,rfl,hS, ?_⟩;refine ay (c:=c2) 8 hR1 hq2 rfl rfl rfl (by (try simp only[List.length_append]);omega) (fun z3 W3 hZ3 hK3=>⟨hZ3.2.1, ?_⟩);have hS:=hZ3.2.1;have aP:=hZ3.2.2;refine plan.oneS 9 _ (z3) rfl rfl hS ?_;refine plan.doneS ?_;walk_nrm;have y1:=(HZ.o _ hZ3.2.1).2.1;go_wp2;go_ret;have ho:=own_low hZ3.1 HBL.o;exact⟨z3,rfl,by simpa only[List.append_assoc] using ho,HWB.o _ hZ3.2.1⟩
 ·rw[if_neg de_,if_pos de_];go_enter func45,ntmps45;go_wp2;rw[HW0.o];refine plan.regionS (S:=fun w'=>Below B W0 w') ?_;have hS:Below B W0 W0.drew:=below_drew (Below.refl _ _);have aP:B<=W0.drew.heap.size:=mM.o;refine plan.firstS 0 _ (.pointer (some ⟨w.heap.size,0,none⟩)) rfl (fun w' aJ=>kr_) hS ?_;refine plan.firstS 1 _ (.int .i64 i) rfl (fun w' aJ=>exec_cell_int (ad:=⟨w.heap.size,0,none⟩) rfl kr_ (HZ.o _ aJ).1 isAgg3) hS ?_;refine plan.firstS 2 _ (.int .u64 i) rfl (fun w' aJ=>(aQ (n:=i) rfl om_ om_)) hS ?_;refine plan.firstS 4 _ (.pointer (some ⟨w.heap.size,1,none⟩)) rfl (fun w' aJ=>kr_) hS ?_;refine plan.firstS 5 _ (.int .i64 3) rfl (fun w' aJ=>exec_cell_int (ad:=⟨w.heap.size,1,none⟩) rfl kr_ (HZ.o _ aJ).2.1 isAgg3) hS ?_;refine plan.firstS 6 _ (.int .u64 3) rfl (fun w' aJ=>(aQ (n:=3) rfl om_ om_)) hS ?_;refine plan.callS 3 _ 21 #[.int .u64 i] rfl ((aC i om_ om_ W0.drew).mono ?_);rintro e W1 ⟨u1,rfl,ho1,ak⟩;have hR1:=aA.of hS aP ho1 ak;have aP:=hR1.2.2;have hS:=hR1.2.1;obtain⟨a1,c1,rfl,hq1⟩:=ai hR1.1;refine⟨_,rfl,hS, ?_⟩;refine plan.callS 7 _ 21 #[.int .u64 3] rfl ((aC 3 om_ om_ W1).mono ?_)
  exact t12
 ·rw[if_neg de_,if_pos de_];go_enter func45,ntmps45;go_wp2;rw[HW0.o];refine plan.regionS (S:=fun w'=>Below B W0 w') ?_;have hS:Below B W0 W0.drew:=below_drew (Below.refl _ _);have aP:B<=W0.drew.heap.size:=mM.o;refine plan.firstS 0 _ (.pointer (some ⟨w.heap.size,0,none⟩)) rfl (fun w' aJ=>kr_) hS ?_;refine plan.firstS 1 _ (.int .i64 i) rfl (fun w' aJ=>exec_cell_int (ad:=⟨w.heap.size,0,none⟩) rfl kr_ (HZ.o _ aJ).1 isAgg3) hS ?_;refine plan.firstS 2 _ (.int .u64 i) rfl (fun w' aJ=>(aQ (n:=i) rfl om_ om_)) hS ?_;refine plan.firstS 4 _ (.pointer (some ⟨w.heap.size,1,none⟩)) rfl (fun w' aJ=>kr_) hS ?_;refine plan.firstS 5 _ (.int .i64 4) rfl (fun w' aJ=>exec_cell_int (ad:=⟨w.heap.size,1,none⟩) rfl kr_ (HZ.o _ aJ).2.1 isAgg3) hS ?_;refine plan.firstS 6 _ (.int .u64 4) rfl (fun w' aJ=>(aQ (n:=4) rfl om_ om_)) hS ?_;refine plan.callS 3 _ 21 #[.int .u64 i] rfl ((aC i om_ om_ W0.drew).mono ?_);rintro e W1 ⟨u1,rfl,ho1,ak⟩;have hR1:=aA.of hS aP ho1 ak;have aP:=hR1.2.2;have hS:=hR1.2.1;obtain⟨a1,c1,rfl,hq1⟩:=ai hR1.1;refine⟨_,rfl,hS, ?_⟩;refine plan.callS 7 _ 21 #[.int .u64 4] rfl ((aC 4 om_ om_ W1).mono ?_)
  exact t12
end schema
namespace schema
open Go.RowKit pen
theorem eY{w:World}{ops:Array Oper}{rest:List Oper}{o:Oper}{a:Act}{Q:Exit->Act->World->Prop}(hgd:o.guard=none)(s x:Operand)
  (ho:o.op=.call { callee:=.builtin .append,args:=#[s,x],argTypes:=#[22,22]}) {u:Value} {B n g:Nat} {L:List Fm} {p:Fm} (hs:a.eval s=u) (hx:a.eval x=.slice (some ⟨g,0,none⟩) 1 1)
  (hown:w.ownsRow B 43 2 u n (fmV L)) (hb:Block w g 43 (fmC p)) (hn:n<=1000) (hB:B<=w.heap.size)
  (h:∀q w',w'.ownsRow B 43 2 q (n+1) (fmV (L++[p]))->w.grownBy w' u.ownBlock->wpList prog ops Q rest (a.put o.dst q) w'):wpList prog ops Q (o :: rest) a w:=by
 obtain⟨q,w',h1,h2,h3⟩:=exec_push_fm ho hs hx hown hb hn hB;refine wpList_plain hgd fun K hK=> ?_
 unfold Oper.wp;rw[h1];exact hK _ _ (h q w' h2 h3)
theorem eF(xs:List Nat)(w:World)(a:Option Addr)(c:Nat)(t:TypeId)(hr:Reads .u8 w a xs.length xs)(hc:xs.length<=c)(hx:∀c∈xs,c<256)(hl:xs.length<=140737488355328):
  EyeAt t w.heap.size (xs,0) (w.alloc (.cells #[.slice a xs.length c,.int .i64 0] t)):=by
 refine⟨hx,hl,a,c,Block.new w t [.slice a xs.length c,.int .i64 0],hc,hr.below ((Below.refl _ _).alloc (Nat.le_refl _) _),fun h0 x hx=> ?_⟩;rcases hr.2 with e | ⟨b',off,ha,au,_⟩
 ·simp only at h0;omega
 ·rw[hx] at ha;cases ha;exact au
set_option maxRecDepth 20000 in
set_option maxHeartbeats 1600000 in
theorem bC(a:Option Addr)(c:Nat)(xs:List Nat)(w:World)(hr:Reads .u8 w a xs.length xs)(hc:xs.length<=c)(hx:∀c∈xs,c<256)(hl:xs.length<=140737488355328):
  Calls prog 32 #[.slice a xs.length c] w (ParsedAs xs w):=by
 obtain⟨V,s1,hV⟩:∃V s1,eCount 65535 (xs,0)=(V,s1):=⟨_,_,rfl⟩;obtain⟨N,s2,hN⟩:∃N s2,eCount 8 s1=(N,s2):=⟨_,_,rfl⟩;have hN8:N<=8:=by have:=eCount_le 8 s1;rw[show((8:Nat):Int)=8 from rfl,hN] at this;exact this
 have hP:parsed xs=(if eEnd (takeFms N s2).2≠0 then(0,[],eEnd (takeFms N s2).2) else if Right V (takeFms N s2).1 then((V:Int),(takeFms N s2).1,0) else(0,[],2)):=by
  have h1:readV xs=(V,s1):=hV;have h2:readN xs=(N,s2):=by unfold readN;rw[h1];exact hN
  have h3:readF xs=takeFms N s2:=by unfold readF;rw[h2]
  unfold parsed;rw[h3,h1]
 have HP:=hid hP;clear hP;have bT:=field.newB w (.cells #[.int .i64 0,.slice none 0 0] 24);have kM:=field.newB (w.alloc (.cells #[.int .i64 0,.slice none 0 0] 24)) (.cells #[.slice a xs.length c,.int .i64 0] 68);have hE0:=eF xs (w.alloc (.cells #[.int .i64 0,.slice none 0 0] 24)) a c 68 (hr.below bT) hc hx hl;have hR0:=(Block.new w 24 [.int .i64 0,.slice none 0 0]).later kM;have qx:(w.alloc (.cells #[.int .i64 0,.slice none 0 0] 24)).heap.size=w.heap.size+1:=by simp
 rw[qx] at hE0;have HB0:=hid (bT.trans (kM.mono bT.size));have c1:=ax (w.heap.size+1) (xs,0) _ hE0 65535 om_ om_;have HR0:=hid hR0;have aH:w.heap.size≠(w.heap.size+1):=by omega
 have dW:w.heap.size<=(w.heap.size+1):=by omega
 have c2:=fun w' hE=>ax (w.heap.size+1) s1 w' hE 8 om_ om_
 rw[hV] at c1;rw[hN] at c2;clear hV hN hr hx hl bT kM hE0 hR0 qx hc;simp only at c1 c2;unfold Saw at c1 c2;go_enter func32,ntmps32;go_wp2_with (first
  | (go_at_call 29;((with_reducible refine c1.mono ?_);rintro e w2 ⟨rfl,hE2,hu2⟩;have hR2:=blk_but HR0.o hu2 aH))
  | (go_at_call 29;((with_reducible refine(c2 _ (hE2.later (field.newB _ _))).mono ?_);rintro e w3 ⟨rfl,hE3,hu3⟩;have HS3:=hid ((SS.start hE2 V).call hE3 hu3))))
 have hsz2:w.heap.size<w2.heap.size:=hR2.lt;have aj:Below w.heap.size w w2:=HB0.o.trans ((hu2.mono HB0.o.size).below (Nat.le_refl _) dW);have HB2:=hid aj;have HR2:=hid hR2;have HSZ:=hid hsz2;obtain⟨S,hS⟩:∃S,Hid (w2.heap.size=S):=⟨_,hid rfl⟩;rw[hS.o] at HS3 HSZ ⊢;clear hu2 hu3 hE2 hE3 c1 c2 aj hsz2 hR2 HR0;go_loopw [7] (fun m wr=>∃k:Nat,k<=N/\m=.int .i64 (k:Int)/\Hid (∃P u,forms P=(takeFms k s2).1/\SS 68 V (w.heap.size+1) S w2 P (takeFms k s2).2 k u wr)) (fun m _=>N - (intOf m).toNat);case atStart=>exact⟨0,Nat.zero_le _,rfl,hid ⟨[],_,rfl,HS3.o⟩⟩
 case round=>
  obtain⟨k,hk,rfl,HS⟩:=hrel;obtain⟨P,u,hPk,hS⟩:=HS.o;obtain⟨ua,uc,rfl,_⟩:=ownsRow_slice hS.row;by_cases hlt2:k<N
  ·have i1:(k:Int)<N:=by omega
   obtain⟨A,s3,hA⟩:∃A s3,eCount 200 (takeFms k s2).2=(A,s3):=⟨_,_,rfl⟩;obtain⟨M,s4,hM⟩:∃M s4,eCount 8 s3=(M,s4):=⟨_,_,rfl⟩;have sU:M<=8:=by have:=eCount_le 8 s3;rw[show((8:Nat):Int)=8 from rfl,hM] at this;exact this
   have hTm:takeFm (takeFms k s2).2=(((A:Int),(takeFs M s4).1),(takeFs M s4).2):=by
    unfold takeFm;rw[hA];simp only;rw[hM]
   have HT1:Hid ((takeFms (k+1) s2).1=(takeFms k s2).1++[((A:Int),(takeFs M s4).1)]):=hid (by rw[takeFms,hTm]);have HT2:Hid ((takeFms (k+1) s2).2=(takeFs M s4).2):=hid (by rw[takeFms,hTm]);have d1:=fun w' hE=>ax (w.heap.size+1) (takeFms k s2).2 w' hE 200 om_ om_
   have d2:=fun w' hE=>ax (w.heap.size+1) s3 w' hE 8 om_ om_
   rw[hA] at d1;rw[hM] at d2;clear hA hM hTm HS HS3;have HPK:=hid hPk;clear hPk;simp only at d1 d2;unfold Saw at d1 d2;generalize (takeFms k s2).1=L at *;generalize (takeFms k s2).2=sk at *;have HS:=hid hS;have qj:=hS.eye;clear hS;go_wp2_with (first
    | (go_at_call 29;((with_reducible refine(d1 _ qj).mono ?_);rintro e w4 ⟨rfl,hE4,hu4⟩;have HS4:=hid (HS.o.call hE4 hu4)))
    | (go_at_call 29;((with_reducible refine(d2 _ (hE4.later (field.newB _ _))).mono ?_);rintro e w5 ⟨rfl,hE5,hu5⟩;have kF:=hid ((FS.start hE4 A).call hE5 hu5))))
   obtain⟨F,hF⟩:∃F,Hid (w4.heap.size=F):=⟨_,hid rfl⟩;rw[hF.o] at kF ⊢;clear hu4 hu5 hE4 hE5 d1 d2 qj;go_loopw [10] (fun m wr=>∃j:Nat,j<=M/\m=.int .i64 (j:Int)/\Hid (∃u,FS 68 A (w.heap.size+1) F w4 (takeFs j s4).1 (takeFs j s4).2 j u wr)) (fun m _=>M - (intOf m).toNat);case atStart=>exact⟨0,Nat.zero_le _,rfl,hid ⟨_,kF.o⟩⟩
   case round=>
    obtain⟨j,hj,rfl,HFj⟩:=hrel;obtain⟨y,jR⟩:=HFj.o;obtain⟨ya,yc,rfl,_⟩:=ownsRow_slice jR.row;by_cases hjt:j<M
    ·have i2:(j:Int)<M:=by omega
     obtain⟨p,s5,hp⟩:∃p s5,takeF (takeFs j s4).2=(p,s5):=⟨_,_,rfl⟩;have HU1:Hid ((takeFs (j+1) s4).1=(takeFs j s4).1++[p]):=hid (by rw[takeFs,hp]);have HU2:Hid ((takeFs (j+1) s4).2=s5):=hid (by rw[takeFs,hp]);have cP:=fun w' hE=>fE (w.heap.size+1) (takeFs j s4).2 w' hE
     rw[hp] at cP;clear hp HFj kF;generalize (takeFs j s4).1=Lj at *;generalize (takeFs j s4).2=sj at *;have nZ:=hid (jR.later (w':=wr.drew) (below_drewN (Below.refl _ _) 1));clear jR;go_wp2;refine plan.regionT ?_;have hS:=nZ.o;refine plan.free 0 _ (.pointer (some ⟨F,1,none⟩)) rfl kr_ kr_ kr_ kr_ (fun w'=>kr_) ?_;refine plan.free 2 _ (.pointer (some ⟨w.heap.size+1,0,none⟩)) rfl kr_ kr_ kr_ kr_ (fun w'=>kr_) ?_;refine plan.toL 3 (fun x y z=> #[true,x,true,y,z,false,false,false]) rfl ?_;refine plan.late 1 3 4 36 38 39 de_ de_ _ _ _ (fun x y z=> #[true,x,true,y,z,false,false,false]) rfl rfl rfl rfl rfl rfl rfl rfl rfl (by intro y z;cases y <;> cases z <;> rfl) (by intro x;cases x <;> rfl) (by intro x;cases x <;> rfl)
      kr_ kr_ kr_ kr_ kr_ (.slice ya j yc) 57 #[.pointer (some ⟨w.heap.size+1,0,none⟩)]
      (fun v w'=>v=p.val/\FS 68 A (w.heap.size+1) F w4 Lj s5 j (.slice ya j yc) w') (fun v w'=>.slice (some ⟨w'.heap.size,0,none⟩) 1 1) (fun v w'=>w'.alloc (.cells (zF p) 79))
      (exec_cell_slice' (ad:=⟨F,1,none⟩) rfl (hS.f.cell 1) isAgg41)
      (fun v w' hM=>exec_cell_slice' (ad:=⟨F,1,none⟩) rfl (hM.2.f.cell 1) isAgg41)
      (fun v w' hM=>exec_cell_slice' (ad:=⟨F,1,none⟩) rfl ((hM.2.f.alloc _).cell 1) isAgg41)
      kr_ kr_ ((cP _ hS.eye).mono ?_) (fun v w' hM=>by obtain⟨rfl,_⟩:=hM;kernel_rfl) (fun v w' hM=>by obtain⟨rfl,_⟩:=hM;kernel_rfl) ?_
     ·rintro e w6 ⟨rfl,hE6,hu6⟩;exact⟨_,rfl,rfl,hS.call hE6 hu6⟩
     ·rintro v w6 ⟨rfl,bF⟩;have iQ:=bF.later (field.newB w6 (.cells (zF p) 79));refine plan.oneE 5 _ (fun q w8=>w8.ownsRow (F+1) 79 5 q (j+1) (fdV (Lj++[p]))/\(w6.alloc (.cells (zF p) 79)).grownBy w8 (Value.slice ya j yc).ownBlock) rfl rfl
       (exec_push_fd (g:=w6.heap.size) rfl iQ.row (Block.new w6 79 (fdC p)) om_ iQ.f.lt) ?_
      rintro q w8 ⟨mX,pJ⟩;have oG:=iQ.held pJ;have qi:=iQ.push pJ mX;obtain⟨qa,qc,rfl,_⟩:=ownsRow_slice mX;refine plan.oneT (w1:=w8) 6 _ (.pointer (some ⟨F,1,none⟩)) rfl rfl ?_;refine plan.lastT (w1:=w8.setCell ⟨F,1,none⟩ (.slice qa (j+1) qc)) 7 _ rfl rfl rfl (exec_put_fd (ad:=⟨F,1,none⟩) rfl (oG.cell 1) (oG.frozen 1)) ?_;have qM:=hid qi;clear qi oG mX pJ iQ bF hS;walk_nrm;go_wp2;exact⟨⟨j+1,by omega,by go_num,hid ⟨_,by rw[HU1.o,HU2.o];exact qM.o⟩⟩,by simp[intOf];omega⟩
    ·obtain rfl:j=M:=by omega
     have hlen:=takeFs_len j s4;have gu:S<F:=by have:=HS4.o.f.lt;have:=hF.o;omega
     have bH:=HS4.o.call jR.eye (by rw[hF.o];exact jR.but);have hN:=field.newB wr (.cells (zS (A:Int) ya j yc) 43);have aP:=bH.later hN;obtain⟨q,hq⟩:∃q:Fm,q=⟨A,ya,yc,(takeFs j s4).1⟩:=⟨_,rfl⟩;have hqc:fmC q=(zS (A:Int) ya j yc):=by rw[hq];simp[fmC,hlen]
     have qF:q.p=((A:Int),(takeFs j s4).1):=by rw[hq];rfl
     have hO:OwnM (S+1) (wr.alloc (.cells (zS (A:Int) ya j yc) 43)) q:=by
      rw[hq];unfold OwnM;simp only[hlen];exact ownsRow_later (own_low jR.row om_) hN
     have qg:Block (wr.alloc (.cells (zS (A:Int) ya j yc) 43)) wr.heap.size 43 (fmC q):=by rw[hqc];exact Block.new wr 43 (zS (A:Int) ya j yc)
     have y1:=bH.f.cell 1;have y2:=jR.f.cell 0;have y3:=jR.f.cell 1;have HS2:=hid aP;have HO:=hid hO;have qK:=hid qg;have qL:=hid qF;clear bH aP hN hq hqc qF hO qg jR HFj kF HS4 hlen;go_wp2_with (at_builtin;refine eY rfl (.tmp 43) (.tmp 45) rfl rfl rfl HS2.o.row qK.o om_ HS2.o.f.lt ?_;intro z w10 mr lM;have kU:=HS2.o.held lM;have nD:=HS2.o.push HO.o lM mr;obtain⟨qa,qc,rfl,_⟩:=ownsRow_slice mr;have y4:=kU.cell 1;have y5:=kU.frozen 1;have og:=hid nD;clear nD kU mr lM);exact⟨⟨k+1,by omega,by go_num,hid ⟨P++[q],_,by rw[HT1.o,<-HPK.o,<-qL.o];simp[forms],by rw[HT2.o];exact og.o⟩⟩,by simp[intOf];omega⟩
  ·obtain rfl:k=N:=by omega
   have hR:=HR2.o.but hS.but HSZ.o (show w.heap.size≠(w.heap.size+1) by omega);have jr:Below w.heap.size w wr:=HB2.o.trans (hS.but.below (Nat.le_of_lt HSZ.o) dW);have dN:=hS.list.2;have HRW:=hid hR;have HBW:=hid jr;have HSS:=hid hS;have HKL:=hid dN;have HPK:=hid hPk;have HRS:Hid (w.heap.size≠S):=hid (Nat.ne_of_lt HSZ.o);have cE:Calls prog 31 #[.pointer (some ⟨w.heap.size+1,0,none⟩)] wr (field.Gives (.int .i64 (eEnd (takeFms k s2).2:Int)) wr):=(dK (w.heap.size+1) _ wr hS.eye).mono (by rintro e w' ⟨rfl,m,rfl⟩;exact⟨rfl,below_drewN (Below.refl _ _) m⟩);clear HS hS hR jr hPk HS3 HR2 HB2 dN;by_cases hE:eEnd (takeFms k s2).2=0
   ·rw[hE] at cE;have HP2:=HP.o;rw[if_neg (by rw[hE];simp)] at HP2;have HP2:=hid HP2;have cR:=fun w' (hb:Below wr.heap.size wr w')=>refRight_any V ua uc P w' ((HSS.o.later hb).list.1) (by have:=HKL.o;unfold maxLen;omega)
    rw[HPK.o] at cR;rw[<-HKL.o] at cR;have hN0:(((0:Nat):Int) == 0)=true:=rfl;clear HP hE;by_cases bg:Right V (takeFms k s2).1
    ·have HP3:Hid (parsed xs=((V:Int),(takeFms k s2).1,0)):=hid (by rw[HP2.o,if_pos bg]);simp only[decide_eq_true bg] at cR;clear HP2 bg;go_wp2_with (first
      | (go_at_call 31;((with_reducible refine cE.mono ?_);rintro e w5 ⟨rfl,aI⟩;have hR5:=HRW.o.later aI;have bP:=HSS.o.later aI;have x0:=hR5.cell 0;have x1:=hR5.cell 1;have p0:=hR5.frozen 0;have p1:=hR5.frozen 1;have y0:=bP.f.cell 0;have y1:=bP.f.cell 1))
      | (go_at_call 19;((with_reducible refine(cR _ aI).mono ?_);rintro e w6 ⟨rfl,aZ⟩;have hR6:=hR5.later aZ;have bF:=bP.later aZ;have x0:=hR6.cell 0;have x1:=hR6.cell 1;have p0:=hR6.frozen 0;have p1:=hR6.frozen 1;have y0:=bF.f.cell 0;have y1:=bF.f.cell 1)))
     have hB:=(hR6.setCell 0 (.int .i64 (V:Int))).setCell 1 (.slice ua k uc);exact bodyPost_ret (results_cell2 (b:=w.heap.size) (o:=0) rfl rfl hB.whole underlying24 rfl (sc_info2 _ _)) rfl (parse_some HP3.o HPK.o bF HSZ.o ((HBW.o.trans (aI.mono HBW.o.size)).trans (aZ.mono (Nat.le_trans HBW.o.size aI.size))))
    ·have HP3:Hid (parsed xs=(0,[],2)):=hid (by rw[HP2.o,if_neg bg]);simp only[decide_eq_false bg] at cR;clear HP2 bg;go_wp2_with (first
      | (go_at_call 31;((with_reducible refine cE.mono ?_);rintro e w5 ⟨rfl,aI⟩;have hR5:=HRW.o.later aI;have bP:=HSS.o.later aI;have x0:=hR5.cell 0;have x1:=hR5.cell 1;have p0:=hR5.frozen 0;have p1:=hR5.frozen 1;have y0:=bP.f.cell 0;have y1:=bP.f.cell 1))
      | (go_at_call 19;((with_reducible refine(cR _ aI).mono ?_);rintro e w6 ⟨rfl,aZ⟩;have hR6:=hR5.later aZ;have bF:=bP.later aZ;have x0:=hR6.cell 0;have x1:=hR6.cell 1;have p0:=hR6.frozen 0;have p1:=hR6.frozen 1;have y0:=bF.f.cell 0;have y1:=bF.f.cell 1)))
     have hB:=(hR6.setCell 0 (.int .i64 0)).setCell 1 (.slice none 0 0);exact bodyPost_ret (results_cell2 (b:=w.heap.size) (o:=0) rfl rfl hB.whole underlying24 rfl (sc_info2 _ _)) rfl (parse_none HP3.o ((HBW.o.trans (aI.mono HBW.o.size)).trans (aZ.mono (Nat.le_trans HBW.o.size aI.size))))
   ·have HP2:Hid (parsed xs=(0,[],eEnd (takeFms k s2).2)):=hid (by rw[HP.o,if_pos hE]);have aH:((eEnd (takeFms k s2).2:Int) == 0)=false:=by rw[beq_eq_false_iff_ne];omega
    have dH:((eEnd (takeFms k s2).2:Int) != 0)=true:=by simp[hE]
    generalize eEnd (takeFms k s2).2=E at *;clear HP hE;go_wp2_with (first
     | (go_at_call 31;((with_reducible refine cE.mono ?_);rintro e w5 ⟨rfl,aI⟩;have hR5:=HRW.o.later aI;have bP:=HSS.o.later aI;have x0:=hR5.cell 0;have x1:=hR5.cell 1;have p0:=hR5.frozen 0;have p1:=hR5.frozen 1;have y0:=bP.f.cell 0;have y1:=bP.f.cell 1))
     | (go_at_call 19;((with_reducible refine(cR _ aI).mono ?_);rintro e w6 ⟨rfl,aZ⟩;have hR6:=hR5.later aZ;have bF:=bP.later aZ;have x0:=hR6.cell 0;have x1:=hR6.cell 1;have p0:=hR6.frozen 0;have p1:=hR6.frozen 1;have y0:=bF.f.cell 0;have y1:=bF.f.cell 1)))
    have hB:=(hR5.setCell 0 (.int .i64 0)).setCell 1 (.slice none 0 0);exact bodyPost_ret (results_cell2 (b:=w.heap.size) (o:=0) rfl rfl hB.whole underlying24 rfl (sc_info2 _ _)) rfl (parse_none HP2.o (HBW.o.trans (aI.mono HBW.o.size)))
end schema
namespace schema
open Go.RowKit pen
theorem bM{a:Option Addr}{c:Nat}{xs:List Nat}{w:World}(hr:Reads .u8 w a xs.length xs)(hc:xs.length<=c)(hx:∀c∈xs,c<256)(hl:xs.length<=140737488355328){V:Int}{P:List Form}{E:Nat}(Z:Int)(hz:Z=(E:Int))(hP:parsed xs=(V,P,E)):
  Calls prog 32 #[.slice a xs.length c] w fun e w'=>∃(a:Option Addr) (c:Nat) (F:List Fm),e=.returned (.tuple #[zS V a F.length c,.int .i64 Z])/\forms F=P/\Upon w.heap.size w' (fun v=>FmL v a F)/\Below w.heap.size w w':=by
 have h:=bC a c xs w hr hc hx hl;unfold ParsedAs at h;rw[hP] at h;rw[hz];exact h
end schema
namespace pen
open Go.RowKit texts
theorem take_any(b:Nat)(s:Sight)(w:World)(h:EyeAt 68 b s w)(n:Nat)(hn:n<=9223372036854775807):
  Calls prog 56 #[.pointer (some ⟨b,0,none⟩),.int .i64 (n:Int)] w (Took 68 b (eNext n s).1 (eNext n s).2 w):=by
 obtain⟨r,z⟩:=s;have HE:=hid h;obtain⟨a,c,st⟩:=h.stand;clear h;have c1:=st.rest;have c2:=st.err;have f0:=st.block.frozen 0;have f1:=st.block.frozen 1;have hlen:=st.len;by_cases hz:z=0
 ·subst hz;rw[show((0:Nat):Int)=0 from rfl] at c2;by_cases hs:r.length<n
  ·rw[eNext_short n r hs];have hi:(r.length:Int)<n:=by omega
   have hf:=hid (HE.o.fail 5);clear st hs;go_enter func56,ntmps56;go_wp2;go_ret;exact⟨none,0,rfl,Nat.le_refl _,Reads.nil,hf.o.1,hf.o.2⟩
  ·rw[eNext_take n r om_];have hi:¬(r.length:Int)<n:=by omega
   have nO:=st.room;have e1:=fun W=>cut_to W a r.length c n om_
   have e2:=fun W=>cut_from W a r.length c n om_
   have HT:=hid (st.mJ n om_);obtain⟨A1,hA1⟩:∃A,Hid (shift a 0 c=A):=⟨_,rfl⟩;obtain⟨A2,hA2⟩:∃A,Hid (shift a n c=A):=⟨_,rfl⟩;rw[hA1.o] at e1 HT;rw[hA2.o] at e2 HT;clear st hs;go_enter func56,ntmps56;go_wp2;go_ret;exact HT.o
 ·rw[eNext_bad n r z hz];have hi:((z:Int) != 0)=true:=by rw[bne_iff_ne];omega
  have hi2:((z:Int) == 0)=false:=by rw[beq_eq_false_iff_ne];omega
  clear st hz;go_enter func56,ntmps56;go_wp2;go_ret;exact⟨none,0,rfl,Nat.le_refl _,Reads.nil,HE.o,But.refl _ _ _⟩
end pen
end Go.Proofs.YtogfefdlffmioaaGreat
