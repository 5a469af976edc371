/- LinkBytes returns true for every link and all bytes, and each argument reads afterwards as it read before. No condition. -/
import Derived.Test.YtogfefdlffmioaaGreatCmWord
import Derived.Conc.WalkWords
import Derived.Test.YtogfefdlffmioaaGreatCmA
import Derived.Test.YtogfefdlffmioaaGreatCmJ
import Derived.Test.YtogfefdlffmioaaGreatCmAW
import Derived.Test.YtogfefdlffmioaaGreatCmK
import Derived.Test.YtogfefdlffmioaaGreatCmAU
import Derived.Test.YtogfefdlffmioaaGreatCmAX
import Derived.Test.YtogfefdlffmioaaGreatCmAY
import Derived.Test.YtogfefdlffmioaaGreatCmN
set_option linter.unusedVariables false
namespace Go.Proofs.YtogfefdlffmioaaGreat
open Go.Proofs.Tryz
namespace schema
open Go.RowKit pen
set_option maxRecDepth 20000 in
set_option maxHeartbeats 1600000 in
theorem aV(v:Int)(a:Option Addr)(cap:Nat)(F:List Fm)(w:World)(h:FmL w a F)(hr:Right v (forms F)):Calls prog 23 #[zS v a F.length cap] w (Copies (schemaB v (forms F)) w):=by
 have h8:F.length<=8:=by have:=hr.2.1;rw[forms_length] at this;exact this
 have hv:=hr.1;have HR:=hid hr;have iw:=boxS v a F cap w;have oD:=h.below (field.newB w (.cells (zS v a F.length cap) 24));have HSB:Hid (schemaB v (forms F)=(vb v.toNat++vb F.length)++formsB (forms F)):=hid (by unfold schemaB;rw[forms_length]);have lv:=vb_ten v.toNat om_;have ln:=vb_ten F.length om_;obtain⟨X,hX⟩:∃X:List Nat,Hid (vb v.toNat++vb F.length=X):=⟨_,hid rfl⟩;have HXL:Hid (X.length<=20):=hid (by rw[<-hX.o];simp only[List.length_append];omega);rw[hX.o] at HSB;rw[HSB.o];have iH:w.heap.size<=(w.alloc (.cells (zS v a F.length cap) 24)).heap.size:=by simp
 obtain⟨W0,dw⟩:∃x,(w.alloc (.cells (zS v a F.length cap) 24))=x:=⟨_,rfl⟩;have HW0:=hid dw;rw[dw] at iw oD iH;obtain⟨B,hB⟩:∃B,W0.heap.size=B:=⟨_,rfl⟩;rw[hB] at iw iH;have HZ:=hid iw;have HF:=hid oD;have HBL:=hid iH;have HBQ:=hid hB;clear dw iw oD iH hB h hr;unfold Copies;go_enter func23,ntmps23;go_wp2;rw[HW0.o];refine plan.regionS (S:=fun w'=>Below B W0 w') ?_;have hS:Below B W0 W0.drew:=by rw[<-HBQ.o];exact below_drew (Below.refl _ _)
 have aP:B<=W0.drew.heap.size:=Nat.le_of_eq HBQ.o.symm;refine plan.firstS 0 _ (.pointer (some ⟨w.heap.size,0,none⟩)) rfl (fun w' aJ=>kr_) hS ?_;refine plan.firstS 1 _ (.int .i64 v) rfl (fun w' aJ=>exec_cell_int (ad:=⟨w.heap.size,0,none⟩) rfl kr_ (HZ.o _ aJ).1 isAgg3) hS ?_;refine plan.firstS 2 _ (.int .u64 v) rfl (fun w' aJ=>(aQ (n:=v) rfl om_ om_)) hS ?_;refine plan.firstS 4 _ (.pointer (some ⟨w.heap.size,1,none⟩)) rfl (fun w' aJ=>kr_) hS ?_;refine plan.firstS 5 _ (.slice a F.length cap) rfl (fun w' aJ=>exec_cell_slice (ad:=⟨w.heap.size,1,none⟩) rfl (HZ.o _ aJ).2.1 isAgg22) hS ?_;refine plan.firstS 6 _ (.int .i64 (F.length:Int)) rfl (fun w' aJ=>kr_) hS ?_;refine plan.firstS 7 _ (.int .u64 (F.length:Int)) rfl (fun w' aJ=>(aQ (n:=(F.length:Int)) rfl om_ om_)) hS ?_;refine plan.callS 3 _ 21 #[.int .u64 v] rfl ((aC v om_ om_ W0.drew).mono ?_);rintro e W1 ⟨u1,rfl,ho1,ak⟩;have hR1:=aA.of hS aP ho1 ak;have aP:=hR1.2.2;have hS:=hR1.2.1;obtain⟨a1,c1,rfl,hq1⟩:=ai hR1.1;refine⟨_,rfl,hS, ?_⟩;refine plan.callS 8 _ 21 #[.int .u64 (F.length:Int)] rfl ((aU F.length om_ W1).mono ?_);rintro e W2 ⟨u2,rfl,ho2,aj⟩;have hR2:=aA.of hS aP ho2 aj;have aP:=hR2.2.2;have hS:=hR2.2.1;have hR1:=hR1.later aj;obtain⟨a2,c2,rfl,hq2⟩:=ai hR2.1;refine⟨_,rfl,hS, ?_⟩;refine ay (c:=c2) 9 hR1 hq2 rfl rfl rfl (by (try simp only[List.length_append]);omega) (fun z3 W3 hZ3 hK3=>⟨hZ3.2.1, ?_⟩);have hS:=hZ3.2.1;have aP:=hZ3.2.2;refine plan.oneS 10 _ (z3) rfl rfl hS ?_;refine plan.doneS ?_;walk_nrm;have hR0:=hZ3;rw[hX.o] at hR0;clear lv ln;go_wp2;go_loopw [3,4] (fun u0 n wr=>∃(k:Nat) (u:Value),k<=F.length/\u=u0/\n=.int .i64 (k:Int)/\Hid (aA B W0 (X++formsB ((forms F).take k)) u wr)) (fun _ n _=>F.length - (intOf n).toNat);case atStart=>exact⟨0,_,Nat.zero_le _,rfl,rfl,hid (by simpa[formsB] using hR0)⟩
 case round=>
  obtain⟨k,u,hk,rfl,rfl,HU⟩:=hrel;have hu:=HU.o;obtain⟨z0,z1,aN⟩:=HZ.o _ hu.2.1;by_cases au:k<F.length
  ·obtain⟨b,off,p,rfl,bQ,hp,c0,c1,gQ,jc⟩:=form_at HF.o (by rw[HBQ.o];exact hu.2.1) au;have i1:(k:Int)<F.length:=by omega
   have HTK:=hid (formsB_succ (forms_at hp));have hgd:=(HF.o.2 p (List.mem_of_getElem? hp)).rf;have jw:Fine p.p:=HR.o.2.2.1 _ (List.mem_of_getElem? (forms_at hp));have lf:=formsB_take_len HR.o k;have qp:=HXL.o;have fZ:(X++formsB ((forms F).take k)).length<=3020:=by simp only[List.length_append];omega
   obtain⟨Y,hY⟩:∃Y:List Nat,Hid (X++formsB ((forms F).take k)=Y):=⟨_,hid rfl⟩;rw[hY.o] at hu fZ;obtain⟨i,q,qc,L⟩:=p;simp only[Fm.p] at HTK c0 c1 gQ jc jw hgd;have HFI:=hid jw;have nZ:=hid hgd;have hi:=jw.1;have hl:=jw.2.1;simp only at hi hl;have li:=vb_ten i.toNat om_;have ll:=vb_ten L.length om_;have hu1:=hu.later (field.newB wr (.cells (zS i q L.length qc) 43));have jZ:=Block.new wr 43 (zS i q L.length qc);obtain⟨w1,hw1⟩:∃x,Hid ((wr.alloc (.cells (zS i q L.length qc) 43))=x):=⟨_,hid rfl⟩;obtain⟨fb,iI⟩:∃x,Hid (wr.heap.size=x):=⟨_,hid rfl⟩;rw[hw1.o] at hu1 jZ;rw[iI.o] at jZ;clear hp jw gQ hgd hu HU jc lf qp;go_wp2;rw[hw1.o,iI.o];refine plan.regionS (S:=fun w'=>Below B W0 w'/\Block w' fb 43 (zS i q L.length qc)) ?_;have hU:=hu1.later (w':=w1.drew) (below_drew (Below.refl _ _));have dZ:=jZ.later (w':=w1.drew) (below_drew (Below.refl _ _));have hS:=hU.2.1;have aP:=hU.2.2;refine plan.firstS 0 _ (u) rfl (fun w' aJ=>kr_) ⟨hS,dZ⟩ ?_;refine plan.firstS 1 _ (.pointer (some ⟨fb,0,none⟩)) rfl (fun w' aJ=>kr_) ⟨hS,dZ⟩ ?_;refine plan.firstS 2 _ (.int .i64 i) rfl (fun w' aJ=>exec_cell_int (ad:=⟨fb,0,none⟩) rfl kr_ (aJ.2.cell 0) isAgg3) ⟨hS,dZ⟩ ?_;refine plan.firstS 3 _ (.int .u64 i) rfl (fun w' aJ=>(aQ (n:=i) rfl om_ om_)) ⟨hS,dZ⟩ ?_;refine plan.firstS 6 _ (.pointer (some ⟨fb,1,none⟩)) rfl (fun w' aJ=>kr_) ⟨hS,dZ⟩ ?_;refine plan.firstS 7 _ (.slice q L.length qc) rfl (fun w' aJ=>exec_cell_slice (ad:=⟨fb,1,none⟩) rfl (aJ.2.cell 1) isAgg41) ⟨hS,dZ⟩ ?_;refine plan.firstS 8 _ (.int .i64 (L.length:Int)) rfl (fun w' aJ=>kr_) ⟨hS,dZ⟩ ?_;refine plan.firstS 9 _ (.int .u64 (L.length:Int)) rfl (fun w' aJ=>(aQ (n:=(L.length:Int)) rfl om_ om_)) ⟨hS,dZ⟩ ?_;refine plan.callS 4 _ 21 #[.int .u64 i] rfl ((aC i om_ om_ w1.drew).mono ?_);rintro e W1 ⟨u1,rfl,ho1,ak⟩;have hR1:=aA.of hS aP ho1 ak;have aP:=hR1.2.2;have hS:=hR1.2.1;have hU:=hU.later ak;obtain⟨a1,c1,rfl,hq1⟩:=ai hR1.1;have dZ:=dZ.later ak;refine⟨_,rfl,⟨hS,dZ⟩, ?_⟩;refine ay (c:=c1) 5 hU hq1 rfl rfl rfl (by (try simp only[List.length_append]);omega) (fun z2 W2 hZ2 hK2=>⟨⟨hZ2.2.1,hK2 _ _ _ dZ fm_ty⟩, ?_⟩);have dZ:=hK2 _ _ _ dZ fm_ty;have hS:=hZ2.2.1;have aP:=hZ2.2.2;refine plan.callS 10 _ 21 #[.int .u64 (L.length:Int)] rfl ((aU L.length om_ W2).mono ?_);rintro e W3 ⟨u3,rfl,ho3,aK⟩;have hR3:=aA.of hS aP ho3 aK;have aP:=hR3.2.2;have hS:=hR3.2.1;have hZ2:=hZ2.later aK;obtain⟨a3,c3,rfl,hq3⟩:=ai hR3.1;have dZ:=dZ.later aK;refine⟨_,rfl,⟨hS,dZ⟩, ?_⟩;refine ay (c:=c3) 11 hZ2 hq3 rfl rfl rfl (by (try simp only[List.length_append]);omega) (fun z4 W4 dR hK4=>⟨⟨dR.2.1,hK4 _ _ _ dZ fm_ty⟩, ?_⟩);have dZ:=hK4 _ _ _ dZ fm_ty;have hS:=dR.2.1;have aP:=dR.2.2;refine plan.oneS 12 _ (z4) rfl rfl ⟨hS,dZ⟩ ?_;refine plan.doneS ?_;walk_nrm;have hR6:=dR;have nT:=dZ;clear hR0 hU hu1 jZ hX HSB;go_wp2;go_loopw [3,6] (fun u0 m wq=>∃(j:Nat) (u:Value),j<=L.length/\u=u0/\m=.int .i64 (j:Int)/\Hid (aA B W0 (Y++vb i.toNat++vb L.length++fieldsB (L.take j)) u wq/\Block wq fb 43 (zS i q L.length qc))) (fun _ m _=>L.length - (intOf m).toNat);case atStart=>exact⟨0,_,Nat.zero_le _,rfl,rfl,hid ⟨by simpa[fieldsB] using hR6,nT⟩⟩
   case round=>
    obtain⟨j,y,hj,rfl,rfl,HY⟩:=hrel;obtain⟨hy,hyb⟩:=HY.o;have y0:=hyb.cell 0;have y1:=hyb.cell 1;by_cases hjt:j<L.length
    ·obtain⟨b2,off2,x,rfl,jq,hx,e0,e1,e2,e3,e4⟩:=field_at nZ.o (by rw[HBQ.o];exact hy.2.1) hjt;have i2:(j:Int)<L.length:=by omega
     have HXX:=hid (fieldsB_succ hx);have lg:=fieldsB_take_len HFI.o j;have hxr:=HFI.o.2.2.1.1 x (List.mem_of_getElem? hx);have lx:=fieldB_len hxr;have cP:=fun w'=>fO x hxr w'
     clear hx hxr;go_wp2_with (first
      | (go_at_call 45;((with_reducible refine(cP _).mono ?_);rintro e w7 ⟨u7,rfl,jK,di⟩;have jG:=aA.of hy.2.1 hy.2.2 jK di;have jM:=hy.later di;have pW:=hyb.later di;obtain⟨a7,c7,rfl,hq7⟩:=ai jG.1))
      | (at_builtin;refine ah rfl (.tmp 48) (.tmp 54) rfl rfl rfl jM hq7 (by simp only[List.length_append] at lg fZ ⊢;omega) ?_;intro z8 w8 jH hK8))
     exact⟨⟨j+1,_,by omega,rfl,by go_num,hid ⟨by rw[HXX.o];simpa only[List.append_assoc] using jH,hK8 _ _ _ pW fm_ty⟩⟩,by simp[intOf];omega⟩
    ·obtain rfl:j=L.length:=by omega
     rw[List.take_of_length_le (Nat.le_refl _)] at hy;have HEND:Hid (aA B W0 (X++formsB ((forms F).take (k+1))) y wr):=hid (by
      rw[HTK.o];have h1:=hy;rw[<-hY.o] at h1;simpa only[formB,List.append_assoc] using h1)
     clear hy HY;go_wp2;exact⟨⟨k+1,_,by omega,rfl,by go_num,HEND⟩,by simp[intOf];omega⟩
  ·obtain rfl:k=F.length:=by omega
   rw[List.take_of_length_le (by rw[forms_length];exact Nat.le_refl _)] at hu;go_wp2;go_ret;exact⟨u,rfl,own_low hu.1 HBL.o,aN⟩
end schema
namespace link
open Go.RowKit pen
open field (newB bytesOf bytes_strOf strOf_size)
open step (St Sp StL sps rightsE listB listB_lt)
open schema (Fm FmL forms own_low aA aA.of aA.later ai ah schemaB_lt)
theorem dL(xs:List Nat)(hx:∀x∈xs,x<256)(hl:xs.length<=300000)(w:World):Calls prog 22 #[.string (strOf xs)] w (Copies (textB xs) w):=by
 have hz:(strOf xs).data.toList.length=xs.length:=by rw[Array.length_toList];exact strOf_size xs
 have c:=dX (strOf xs).data.toList om_ w;have hb:nums (strOf xs).data.toList=xs:=bytes_strOf hx;rw[texts.strL_of,hz,hb] at c;exact c
theorem jD:(27:TypeId)≠5:=by decide
set_option maxRecDepth 20000 in
set_option maxHeartbeats 3200000 in
theorem aV(n v:Int)(fa:Option Addr)(fc:Nat)(F:List Fm)(oa:Option Addr)(oc:Nat)(O:List St)(ba:Option Addr)(bc:Nat)(B:List St)(w:World)(h:LkM w fa F oa O ba B)(hr:Right n v (forms F) (sps O) (sps B)):
  Calls prog 8 #[.agg #[.int .i64 n,.int .i64 v,.slice fa F.length fc,.slice oa O.length oc,.slice ba B.length bc]] w (Copies (linkB n v (forms F) (sps O) (sps B)) w):=by
 obtain⟨W0,hW,bW,hsz,bV⟩:=boxes_name w [(27,[.int .i64 n,.int .i64 v,.slice fa F.length fc,.slice oa O.length oc,.slice ba B.length bc])];simp only[boxes] at hW;have h0:=h.below bW;have hn:=hr.1;obtain⟨o1,o2⟩:=rights_zero hr.2.2.2.1;obtain⟨b1,b2⟩:=rights_zero hr.2.2.2.2;have cN:∀w',Calls prog 21 #[.int .u64 n] w' (Copies (vb n.toNat) w'):=fun w'=>by
  have:=aU n.toNat om_ w';rw[show((n.toNat:Nat):Int)=n by omega] at this;exact this
 have cS:=fun w' (hb:Below W0.heap.size W0 w')=>schema.aV v fa fc F w' (h0.f.below hb) hr.2.1
 have cO:=fun w' (hb:Below W0.heap.size W0 w')=>step.aV oa oc O w' (h0.o.below hb) o2 (by rw[step.sps_length] at o1;exact o1)
 have cB:=fun w' (hb:Below W0.heap.size W0 w')=>step.aV ba bc B w' (h0.b.below hb) b2 (by rw[step.sps_length] at b1;exact b1)
 have k1:=schemaB_lt v (forms F);have k2:=listB_lt (sps O);have k3:=listB_lt (sps B);have l1:=schemaB_less hr.2.1;have l2:=listB_less hr.2.2.2.1;have l3:=listB_less hr.2.2.2.2;unfold linkB;generalize schema.schemaB v (forms F)=xs at *;generalize listB (sps O)=ys at *;generalize listB (sps B)=zs at *;have cX:=fun w'=>dL xs k1 om_ w'
 have cY:=fun w'=>dL ys k2 om_ w'
 have cZ:=fun w'=>dL zs k3 om_ w'
 have t1:(textB xs).length<=10010:=by have:=vb_ten xs.length om_;unfold textB;simp only[List.length_append];omega
 have t2:(textB ys).length<=130420:=by have:=vb_ten ys.length om_;unfold textB;simp only[List.length_append];omega
 have t3:(textB zs).length<=130420:=by have:=vb_ten zs.length om_;unfold textB;simp only[List.length_append];omega
 have ln:=vb_ten n.toNat om_;generalize textB xs=tx at *;generalize textB ys=ty at *;generalize textB zs=tz at *;generalize vb n.toNat=tn at *;have HBW:=hid bW;have hu:n % 18446744073709551616=n:=by omega
 unfold Copies at cN cS cO cB cX cY cZ ⊢;clear h h0 hr bW o1 o2 b1 b2 k1 k2 k3 l1 l2 l3;go_enter func8,ntmps8;go_wp2_with (first
  | (go_at_call 21;((with_reducible refine(cN _).mono ?_);clear cN;rintro e w1 ⟨u1,rfl,p1,q1⟩;rw[hW.o] at p1 q1;have R1:=aA.of (B:=W0.heap.size) (W0:=W0) (Below.refl _ _) (Nat.le_refl _) p1 q1;obtain⟨⟨K1,_⟩,_⟩:=bV.o _ q1;have y11:=K1.cell 1;have y12:=K1.cell 2))
  | (go_at_call 23;((with_reducible refine(cS _ q1).mono ?_);clear cS;rintro e w2 ⟨u2,rfl,p2,q2⟩;obtain⟨a2,d2,rfl,g2⟩:=ai p2;have hc2:=Reads.str (P:=prog) g2 28 5 underlying28 underlying5 d2 9 underlying9;have R2:=R1.later q2;have K2:=K1.later q2))
  | (go_at_call 22;((with_reducible refine(cX _).mono ?_);clear cX;rintro e w3 ⟨u3,rfl,p3,q3⟩;obtain⟨a3,d3,rfl,g3⟩:=ai p3;have R3:=R2.later q3;have K3:=K2.later q3))
  | (at_builtin;refine ah rfl (.tmp 8) (.tmp 13) rfl rfl rfl R3 g3 (by (try simp only[List.length_append]);omega) ?_;clear hc2;intro z4 w4 R4 s4;have r4:=R4.2.1;have K4:=s4 _ _ _ K3 jD;have y4:=K4.cell 3)
  | (go_at_call 24;((with_reducible refine(cO _ r4).mono ?_);clear cO;rintro e w5 ⟨u5,rfl,p5,q5⟩;obtain⟨a5,d5,rfl,g5⟩:=ai p5;have hc5:=Reads.str (P:=prog) g5 28 5 underlying28 underlying5 d5 9 underlying9;have R5:=R4.later q5;have K5:=K4.later q5))
  | (go_at_call 22;((with_reducible refine(cY _).mono ?_);clear cY;rintro e w6 ⟨u6,rfl,p6,q6⟩;obtain⟨a6,d6,rfl,g6⟩:=ai p6;have R6:=R5.later q6;have K6:=K5.later q6))
  | (at_builtin;refine ah rfl (.tmp 15) (.tmp 20) rfl rfl rfl R6 g6 (by (try simp only[List.length_append]);omega) ?_;clear hc5;intro z7 w7 R7 s7;have r7:=R7.2.1;have K7:=s7 _ _ _ K6 jD;have y7:=K7.cell 4)
  | (go_at_call 24;((with_reducible refine(cB _ r7).mono ?_);clear cB;rintro e w8 ⟨u8,rfl,p8,q8⟩;obtain⟨a8,d8,rfl,g8⟩:=ai p8;have hc8:=Reads.str (P:=prog) g8 28 5 underlying28 underlying5 d8 9 underlying9;have R8:=R7.later q8;have K8:=K7.later q8))
  | (go_at_call 22;((with_reducible refine(cZ _).mono ?_);clear cZ;rintro e w9 ⟨u9,rfl,p9,q9⟩;obtain⟨a9,d9,rfl,g9⟩:=ai p9;have R9:=R8.later q9;have K9:=K8.later q9))
  | (at_builtin;refine ah rfl (.tmp 22) (.tmp 27) rfl rfl rfl R9 g9 (by (try simp only[List.length_append]);omega) ?_;clear hc8;intro z10 w10 R10 s10;have K10:=s10 _ _ _ K9 jD))
 go_ret;exact⟨_,rfl,own_low R10.1 HBW.o.size,HBW.o.trans (R10.2.1.mono HBW.o.size)⟩
end link
namespace linkBytes
open Go.RowKit pen link
open field (newB)
open schema (exec_two exec_load_at Fm forms)
open step (St Sp sps)
section
variable {o:Oper} {a:Act} {w:World} {t':TypeId} {x y:Operand}
theorem fH{s:ByteArray}(ho:o.op=.binOp .neq 9 x y t')(hx:a.eval x=.string s:=by kernel_rfl)(hy:a.eval y=.string s:=by kernel_rfl):(execOp a.eval o).run prog w=.ok (.value (.bool false)) w:=
 exec_two ho (hx:=hx) (hy:=hy) (by simp[go_sem]) (by simp[go_sem])
end
theorem kE:(prog.info? 27).map (·.size)=some 5:=by kernel_rfl
theorem same_of{xs:List Nat}{n v n' v':Int}{F F':List schema.Form}{O B O' B':List Sp}{E E':Nat}(h:parsed xs=((n,v,F,O,B),E))(h':parsed xs=((n',v',F',O',B'),E')):Same n v F O B n' v' F' O' B':=by
 rw[h] at h';simp only[Prod.mk.injEq] at h';exact⟨h'.1.1,⟨h'.1.2.1,h'.1.2.2.1⟩,h'.1.2.2.2.1,h'.1.2.2.2.2⟩
theorem err_of{xs:List Nat}{p p':Int×Int×List schema.Form×List Sp×List Sp}{E E':Nat}(h:parsed xs=(p,E))(h':parsed xs=(p',E')):E=E':=by
 rw[h] at h';exact(Prod.mk.inj h').2
set_option maxRecDepth 20000 in
set_option maxHeartbeats 3200000 in
theorem walk0(n v:Int)(fa:Option Addr)(fc:Nat)(F:List Fm)(oa:Option Addr)(oc:Nat)(O:List St)(ba:Option Addr)(bc:Nat)(B:List St)(a:Option Addr)(cap:Nat)(xs:List Nat)(w:World)(h:LkM w fa F oa O ba B)(hr:Reads .u8 w a xs.length xs)(hx:∀x∈xs,x<256)(hc:xs.length<=cap)(hm:cap<=140737488351232):
  Calls prog 3 #[.agg #[.int .i64 n,.int .i64 v,.slice fa F.length fc,.slice oa O.length oc,.slice ba B.length bc],.slice a xs.length cap] w (Yes w):=by
 obtain⟨W0,hW,bW,hsz,bV⟩:=boxes_name w [(27,[.int .i64 n,.int .i64 v,.slice fa F.length fc,.slice oa O.length oc,.slice ba B.length bc])];simp only[boxes] at hW;have cG:=great_any n v fa fc F oa oc O ba bc B W0 (h.below bW);rw[<-hW.o] at cG;have cA:∀w',Calls prog 5 #[] w' (field.Gives (.bool true) w'):=fun w'=>awake_any w'
 have cB:=fun w' (hb:Below w.heap.size w w')=>parse_any a cap xs w' (hr.below hb) hx om_
 have cC:=fun w' (hb:Below w.heap.size w w')=>bC a cap xs w' (hr.below hb) hc hx om_
 have cR:=fun w' (hb:Below w.heap.size w w')=>refRight_any n v fa fc F oa oc O ba bc B w' (h.below hb)
 unfold field.Gives at cA cR;unfold ParsedAs at cB cC;unfold Yes;by_cases bg:Right n v (forms F) (sps O) (sps B)
 ·rw[decide_eq_true bg] at cR;have cP:=fun w' (hb:Below w.heap.size w w')=>print_yes n v fa fc F oa oc O ba bc B w' (h.below hb) bg
  have cQ:=fun w' (hb:Below w.heap.size w w')=>aV n v fa fc F oa oc O ba bc B w' (h.below hb) bg
  obtain⟨Y,hY⟩:∃Y,Hid (linkB n v (forms F) (sps O) (sps B)=Y):=⟨_,hid rfl⟩;rw[hY.o] at cP cQ;unfold pen.Gives at cP;unfold Copies at cQ;clear h hr hx bg hc hm;go_enter func3,ntmps3;go_wp2_with (first
   | (go_at_call 4;((with_reducible refine cG.mono ?_);clear cG;rintro e w1 ⟨r,rfl,ak⟩;rw[hW.o] at ak;obtain⟨⟨K1,_⟩,q1⟩:=bV.o _ ak;have y10:=K1.cell 0;have y11:=K1.cell 1;have y12:=K1.cell 2;have y13:=K1.cell 3;have y14:=K1.cell 4))
   | (go_at_call 5;((with_reducible refine(cA _).mono ?_);rintro e w9 ⟨rfl,gK⟩))
   | (go_at_call 6;((with_reducible refine(cP _ q1).mono ?_);clear cP;rintro e w2 ⟨u2,rfl,o2,aj⟩;obtain⟨a2,c2,rfl,_⟩:=ownsRow_slice o2;have pU:=Reads.own (xs:=Y) o2;clear o2;have K2:=K1.later aj;have q2:=q1.trans (aj.mono q1.size);have y20:=K2.cell 0;have y21:=K2.cell 1;have y22:=K2.cell 2;have y23:=K2.cell 3;have y24:=K2.cell 4))
   | (go_at_call 7;((with_reducible refine(cR _ q2).mono ?_);clear cR;rintro e w3 ⟨rfl,aK⟩;have K3:=K2.later aK;have q3:=q2.trans (aK.mono q2.size);have y30:=K3.cell 0;have y31:=K3.cell 1;have y32:=K3.cell 2;have y33:=K3.cell 3;have y34:=K3.cell 4)))
  ·go_ret;exact⟨rfl,q1.trans (gK.mono q1.size)⟩
  ·have rM:=(pU.below aK).below (below_drewN (Below.refl w3.heap.size w3) 1);have hb:=below_drewN q3 1;have K4:=K3.later (below_drewN (Below.refl w3.heap.size w3) 1);refine plan.region kr_ ?_;refine plan.Rest.first 0 _ (.slice a2 Y.length c2) rfl (fun w' af=>kr_) ?_;refine plan.Rest.first 1 _ (.string (strOf Y)) rfl (fun w' af=>plan.exec_convert (v:=.slice a2 Y.length c2) rfl ((rM.below af).str (P:=prog) 28 5 underlying28 underlying5 c2 9 underlying9)) ?_;refine plan.Rest.first 2 _ (.agg #[.int .i64 n,.int .i64 v,.slice fa F.length fc,.slice oa O.length oc,.slice ba B.length bc]) rfl (fun w' af=>exec_load_at (b:=w.heap.size) (off:=0) rfl (K4.later af).whole underlying27 rfl kE) ?_;refine plan.Rest.call 3 _ 8 #[.agg #[.int .i64 n,.int .i64 v,.slice fa F.length fc,.slice oa O.length oc,.slice ba B.length bc]] rfl ((cQ w3.drew hb).mono ?_);rintro e W2 ⟨u8,rfl,mX,hn⟩;obtain⟨a8,c8,rfl,_⟩:=ownsRow_slice mX;have rJ:=Reads.own (xs:=Y) mX;have hb:=hb.trans (hn.mono hb.size);refine⟨_,rfl,hn, ?_⟩;refine plan.Rest.first 4 _ (.string (strOf Y)) rfl (fun w' af=>plan.exec_convert (v:=.slice a8 Y.length c8) rfl ((rJ.below af).str (P:=prog) 28 5 underlying28 underlying5 c8 9 underlying9)) ?_;refine plan.Rest.first 5 _ (.bool false) rfl (fun w' af=>fH (s:=strOf Y) rfl) ?_;refine plan.Rest.first 6 _ (.bool false) rfl (fun w' af=>kr_) ?_;refine plan.Rest.first 7 _ (.int .i64 0) rfl (fun w' af=>kr_) ?_;refine plan.Rest.first 8 _ (.bool false) rfl (fun w' af=>kr_) ?_;refine plan.Rest.first 9 _ (.bool false) rfl (fun w' af=>kr_) ?_;refine plan.Rest.done ?_;clear y10 y11 y12 y13 y14 y20 y21 y22 y23 y24 y30 y31 y32 y33 y34;walk_nrm;go_wp2_with (first
   | (go_at_call 9;((with_reducible refine(cB _ hb).mono ?_);clear cB;rintro e w5 ⟨n5,v5,f5,e5,F5,o5,p5,O5,b5,s5,B5,E5,rfl,P5,M5,aI⟩;replace P5:=hid P5;have Q5:=(hb).trans (aI.mono (hb).size);have N5:=newB w5 (.cells #[.int .i64 n5,.int .i64 v5,.slice f5 F5.length e5,.slice o5 O5.length p5,.slice b5 B5.length s5] 27);have J5:=Block.new w5 27 [.int .i64 n5,.int .i64 v5,.slice f5 F5.length e5,.slice o5 O5.length p5,.slice b5 B5.length s5];have R5:=Q5.trans (N5.mono Q5.size)))
   | (go_at_call 10;((with_reducible refine(cC _ R5).mono ?_);clear cC;rintro e w6 ⟨n6,v6,f6,e6,F6,o6,p6,O6,b6,s6,B6,E6,rfl,P6,M6,aZ⟩;have N6:=newB w6 (.cells #[.int .i64 n6,.int .i64 v6,.slice f6 F6.length e6,.slice o6 O6.length p6,.slice b6 B6.length s6] 27);have J6:=(J5.later aZ).later N6;have j0:=J6.cell 0;have j1:=J6.cell 1;have j2:=J6.cell 2;have j3:=J6.cell 3;have j4:=J6.cell 4;have hs:=hid (same_of P5.o P6);have he:=err_of P5.o P6;clear P5 P6;subst he;have R6:=R5.trans (aZ.mono R5.size);have R7:=R6.trans (N6.mono R6.size)))
   | (go_at_call 11;((with_reducible refine(refSame_any n5 v5 f5 e5 F5 o5 p5 O5 b5 s5 B5 n6 v6 f6 e6 F6 o6 p6 O6 b6 s6 B6 _ (((M5.below N5).below aZ).below N6) (M6.below N6)).mono ?_);rw[decide_eq_true hs.o];rintro e w7 ⟨rfl,di⟩;have R8:=R7.trans (di.mono R7.size)))
   | (go_at_call 5;((with_reducible refine(cA _).mono ?_);rintro e w9 ⟨rfl,gK⟩)))
   go_ret;exact⟨rfl,R8.trans (gK.mono R8.size)⟩
 ·rw[decide_eq_false bg] at cR;have cP:=fun w' (hb:Below w.heap.size w w')=>print_no n v fa fc F oa oc O ba bc B w' (h.below hb) bg
  clear h hr hx bg hc hm;go_enter func3,ntmps3;go_wp2_with (first
   | (go_at_call 4;((with_reducible refine cG.mono ?_);clear cG;rintro e w1 ⟨r,rfl,ak⟩;rw[hW.o] at ak;obtain⟨⟨K1,_⟩,q1⟩:=bV.o _ ak;have y10:=K1.cell 0;have y11:=K1.cell 1;have y12:=K1.cell 2;have y13:=K1.cell 3;have y14:=K1.cell 4))
   | (go_at_call 6;((with_reducible refine(cP _ q1).mono ?_);clear cP;rintro e w2 ⟨rfl,aj⟩;have K2:=K1.later aj;have q2:=q1.trans (aj.mono q1.size);have y20:=K2.cell 0;have y21:=K2.cell 1;have y22:=K2.cell 2;have y23:=K2.cell 3;have y24:=K2.cell 4))
   | (go_at_call 7;((with_reducible refine(cR _ q2).mono ?_);clear cR;rintro e w3 ⟨rfl,aK⟩;have K3:=K2.later aK;have q3:=q2.trans (aK.mono q2.size);have y30:=K3.cell 0;have y31:=K3.cell 1;have y32:=K3.cell 2;have y33:=K3.cell 3;have y34:=K3.cell 4))
   | (go_at_call 9;((with_reducible refine(cB _ q3).mono ?_);clear cB;rintro e w5 ⟨n5,v5,f5,e5,F5,o5,p5,O5,b5,s5,B5,E5,rfl,P5,M5,aI⟩;replace P5:=hid P5;have Q5:=(q3).trans (aI.mono (q3).size);have N5:=newB w5 (.cells #[.int .i64 n5,.int .i64 v5,.slice f5 F5.length e5,.slice o5 O5.length p5,.slice b5 B5.length s5] 27);have J5:=Block.new w5 27 [.int .i64 n5,.int .i64 v5,.slice f5 F5.length e5,.slice o5 O5.length p5,.slice b5 B5.length s5];have R5:=Q5.trans (N5.mono Q5.size)))
   | (go_at_call 10;((with_reducible refine(cC _ R5).mono ?_);clear cC;rintro e w6 ⟨n6,v6,f6,e6,F6,o6,p6,O6,b6,s6,B6,E6,rfl,P6,M6,aZ⟩;have N6:=newB w6 (.cells #[.int .i64 n6,.int .i64 v6,.slice f6 F6.length e6,.slice o6 O6.length p6,.slice b6 B6.length s6] 27);have J6:=(J5.later aZ).later N6;have j0:=J6.cell 0;have j1:=J6.cell 1;have j2:=J6.cell 2;have j3:=J6.cell 3;have j4:=J6.cell 4;have hs:=hid (same_of P5.o P6);have he:=err_of P5.o P6;clear P5 P6;subst he;have R6:=R5.trans (aZ.mono R5.size);have R7:=R6.trans (N6.mono R6.size)))
   | (go_at_call 11;((with_reducible refine(refSame_any n5 v5 f5 e5 F5 o5 p5 O5 b5 s5 B5 n6 v6 f6 e6 F6 o6 p6 O6 b6 s6 B6 _ (((M5.below N5).below aZ).below N6) (M6.below N6)).mono ?_);rw[decide_eq_true hs.o];rintro e w7 ⟨rfl,di⟩;have R8:=R7.trans (di.mono R7.size)))
   | (go_at_call 5;((with_reducible refine(cA _).mono ?_);rintro e w9 ⟨rfl,gK⟩)))
  ·go_ret;exact⟨rfl,q1.trans (gK.mono q1.size)⟩
  ·go_ret;exact⟨rfl,R8.trans (gK.mono R8.size)⟩
theorem walk(x:Lk)(a:Option Addr)(len cap:Nat)(xs:List Nat)(w:World)(hx:x.Good w)(hr:Reads .u8 w a len xs)(hb:∀x∈xs,x<256)(hc:len<=cap)(hm:cap*1<=140737488351232):
  Calls prog 3 #[x.val,.slice a len cap] w (Yes w):=by
 obtain rfl:=hr.1;exact walk0 x.n x.p.ver x.p.f x.p.fCap x.p.fL x.o x.oc x.O x.b x.bc x.B a cap xs w ⟨⟨hx.p.rf,fun q hq=>(hx.p.mf q hq).ok⟩,⟨hx.o,fun q hq=>(hx.mo q hq).lists⟩,⟨hx.b,fun q hq=>(hx.mb q hq).lists⟩,Nat.le_trans hx.p.cf hx.p.df,Nat.le_trans hx.co hx.eo,Nat.le_trans hx.cb hx.eb⟩ hr hb hc om_
end linkBytes
namespace linkBytes
open Go.ChangeShapes Go.WideShapes Go.ChangeAt Go.RowKit link
open Go.ChangeMaps (open_string shut_string)
set_option maxRecDepth 100000 in
theorem lifted(os:Os)(started:os.Started)(H:Type)(enc:TypeId×Value->H):
  ReturnsInHanded {} Tryz.checked os 3 .any (Rows.linkBytesSpec.pre6 enc prog Tryz.f3 Rows.linkBytesRow.domain false) (Rows.linkBytesSpec.post enc prog Tryz.f3 false true false false):=by
 refine returnsInHanded_of_change_sized (C:=Tryz.checked) own started kr_ func3
  (ChangeSpec.witness6 (enc:=enc) (C:=Tryz.checked) false ⟨#[],#[.agg #[.int .i64 0,.int .i64 0,.slice none 0 0,.slice none 0 0,.slice none 0 0],.slice none 0 0],[]⟩ 8 kr_ kr_ kr_ kr_) ?_
 intro W base args ds gs before hval0 hW hcnd hsz0 _;have hsz:(DataW.weightsEach prog (Tryz.f3.params.toList++Rows.linkBytesSpec.plain.varTypes prog) (ds++gs)).all (· <=reachBytes)=true:=hsz0;clear hsz0;have hval:∀(j:Nat) t v,Tryz.f3.params[j]?=some t->args[j]?=some v->Value.okWide prog W .any base t v:=hval0
 have qV:=hW;obtain⟨p,q,hA0,hV,rfl,qy,tu⟩:=hW;have hA:DataW.TrodAll enc prog W 0 (fun _=>true) true Tryz.f3.params.toList args.toList ds p:=hA0;rw[Tryz.params3] at hA hval hsz;obtain⟨v0,tN,d0,ds0,p0,q0,hargs,rfl,rfl,h0,r0⟩:=trodAll_cons hA;obtain⟨v1,vs1,d1,ds1,p1,q1,rfl,rfl,rfl,h1,r1⟩:=trodAll_cons r0;obtain⟨rfl,rfl,rfl⟩:=trodAll_nil r1;obtain rfl:args=#[v0,v1]:=by cases args;simp_all
 obtain⟨rfl,rfl⟩:=trodVars_none hV;have k0:=h0;have rV:∀x∈p0,x.block<W.heap.size:=by obtain⟨m,hm⟩:=k0;exact DataW.trod_lt m _ _ _ hm
 obtain⟨rW,qO,rfl⟩:=open_Lk_arg link.lkType (hval 0 27 v0 rfl rfl) h0;obtain⟨a1,len1,cap1,rfl⟩:=okWide_slice underlying28 (hval 1 28 v1 rfl rfl);have k1:=h1;have lt1:∀x∈p1,x.block<W.heap.size:=by obtain⟨m,hm⟩:=k1;exact DataW.trod_lt m _ _ _ hm
 obtain⟨sD,rY,su,rQ,rZ⟩:=open_uints (j:=1) underlying28 underlying5 (by kernel_rfl:prog.bytesOf 5=1) wf_u8 h1 hsz rfl rfl;clear hA0 hval0;refine(walk rW a1 len1 cap1 sD W qO rY su rQ rZ).mono fun e W' ⟨he,bel⟩=> ?_
 subst he;exact⟨_,rfl,_,_,_,[],_,[],qV,trodAll_mk1 (shut_bool underlying4 _),(trodAll_cons_mk (Below.trod laidOut kr_ (of_decide_eq_true kr_) k0 bel rV) (trodAll_cons_mk (Below.trod laidOut kr_ (of_decide_eq_true kr_) k1 bel lt1) trodAll_mk0)),rfl,bel.frame _,fun h=>by cases h⟩
theorem holds:Rows.LinkBytesSaid:=
 OpenClaim.holds_of_wide 3 Tryz.f3 rfl rfl rfl rfl rfl rfl rfl ⟨rfl,rfl,rfl,rfl,rfl⟩ rfl rfl rfl rfl rfl kr_ func3 kr_
  (of_decide_eq_true kr_) (by unfold Func.isWrapper;first | (rw[if_pos (by decide+kernel)];kernel_rfl) | (rw[if_neg (by decide+kernel)];exact⟨rfl,rfl⟩))
  (fun os started H enc _=>lifted os started H enc)
end linkBytes
end Go.Proofs.YtogfefdlffmioaaGreat
#print axioms Go.Proofs.YtogfefdlffmioaaGreat.linkBytes.holds
