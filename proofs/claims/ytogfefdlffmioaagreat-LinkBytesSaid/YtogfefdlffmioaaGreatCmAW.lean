/- Contracts and lemmas that claims of this seat share: LinkMath, LinkFine, LinkRead, LinkRef. Each says its own conditions. -/
import Derived.Test.YtogfefdlffmioaaGreatCmWord
import Derived.Lib.AtoiErrMem
import Derived.Test.YtogfefdlffmioaaGreatCmAI
import Derived.Test.YtogfefdlffmioaaGreatCmAS
import Derived.Test.YtogfefdlffmioaaGreatCmZ
import Derived.Test.YtogfefdlffmioaaGreatCmAT
import Derived.Test.YtogfefdlffmioaaGreatCmAR
import Derived.Test.YtogfefdlffmioaaGreatCmAV
import Derived.Test.YtogfefdlffmioaaGreatCmAQ
import Derived.Test.YtogfefdlffmioaaGreatCmK
import Derived.Test.YtogfefdlffmioaaGreatCmM
import Derived.Test.YtogfefdlffmioaaGreatCmAA
import Derived.Test.YtogfefdlffmioaaGreatCmAU
set_option linter.unusedSimpArgs false
set_option linter.unusedVariables false
namespace Go.Proofs.YtogfefdlffmioaaGreat
open Go.Proofs.Tryz
theorem t44{P:Prop}(h:P:=by
 unfold eCount eVar;repeat' split
 all_goals first | exact hs | (intro c hc;exact hs c (List.mem_of_mem_drop hc))):P:=h
namespace link
open Go.RowKit pen
open schema (Small)
open step (Sp listB rightsE Rights)
def Right(n v:Int)(F:List schema.Form)(O B:List Sp):Prop:=(1<=n/\n<=65535)/\schema.Right v F/\v≠n/\rightsE O=0/\rightsE B=0
instance (n v:Int) (F:List schema.Form) (O B:List Sp):Decidable (Right n v F O B):=by unfold Right;infer_instance
def textB(l:List Nat):List Nat:=vb l.length++l
def linkB(n v:Int)(F:List schema.Form)(O B:List Sp):List Nat:=vb n.toNat++textB (schema.schemaB v F)++textB (listB O)++textB (listB B)
def rdN(xs:List Nat):Nat×Sight:=eCount 65535 (xs,0)
def rdA(xs:List Nat):List Nat×Sight:=eText 131072 (rdN xs).2
def rdB(xs:List Nat):List Nat×Sight:=eText 131072 (rdA xs).2
def rdC(xs:List Nat):List Nat×Sight:=eText 131072 (rdB xs).2
def or3(a b c:Nat):Nat:=if a≠0 then a else if b≠0 then b else c
def decoded(n v:Int)(F:List schema.Form)(O B:List Sp)(e:Nat):(Int×Int×List schema.Form×List Sp×List Sp)×Nat:=
 if e≠0 then((0,0,[],[],[]),e) else if Right n v F O B then((n,v,F,O,B),0) else((0,0,[],[],[]),2)
def parsed(xs:List Nat):(Int×Int×List schema.Form×List Sp×List Sp)×Nat:=
 if eEnd (rdC xs).2≠0 then((0,0,[],[],[]),eEnd (rdC xs).2)
 else decoded (rdN xs).1 (schema.parsed (rdA xs).1).1 (schema.parsed (rdA xs).1).2.1 (step.parsed (rdB xs).1).1 (step.parsed (rdC xs).1).1 (or3 (schema.parsed (rdA xs).1).2.2 (step.parsed (rdB xs).1).2 (step.parsed (rdC xs).1).2)
theorem uses_len(op:Int):(step.uses op).length<=5:=by
 refine step.all_ops (Q:=fun op=>(step.uses op).length<=5) ?_ ?_ ?_ ?_ ?_ ?_ ?_ ?_ ?_ ?_ ?_ ?_ ?_ ?_ ?_ ?_ ?_ ?_ ?_ ?_ ?h0 op;case h0=>intro op h1 h2;rw[h2];simp
 all_goals decide
theorem stepB_less{s:Sp}(h:s.Right):s.stepB.length<=3260:=by
 have h1:=step.flat_len s.letB 650 (step.uses s.op) (fun c hc=>step.letB_less (h.ok c hc).1 (h.ok c hc).2);have h2:=uses_len s.op;have h3:=step.mem_span h.2.1;have h4:=vb_ten s.op.toNat om_;unfold Sp.stepB;rw[List.length_append];omega
theorem rights_zero{L:List Sp}(h:rightsE L=0):L.length<=40/\Rights L:=by
 unfold rightsE at h;by_cases h1:40<L.length
 ·rw[if_pos h1] at h;cases h
 ·rw[if_neg h1] at h;by_cases h2:Rights L
  ·exact⟨by omega,h2⟩
  ·rw[if_neg h2] at h;cases h
theorem rights_one{L:List Sp}(h1:L.length<=40)(h2:Rights L):rightsE L=0:=by unfold rightsE;rw[if_neg om_,if_pos h2]
theorem listB_less{L:List Sp}(h:rightsE L=0):(listB L).length<=130410:=by
 obtain⟨h1,h2⟩:=rights_zero h;have h3:=step.flat_len Sp.stepB 3260 L (fun s hs=>stepB_less (h2 s hs));have h4:=vb_ten L.length om_;unfold listB;rw[List.length_append];omega
theorem schemaB_less{v:Int}{F:List schema.Form}(h:schema.Right v F):(schema.schemaB v F).length<=10000:=by
 have h1:=vb_ten v.toNat (by have:=h.1;omega);have h2:=vb_ten F.length (by have:=h.2.1;omega);have h3:=schema.formsB_len h.2.2.1;have:=h.2.1;unfold schema.schemaB;simp only[List.length_append];omega
theorem text_lt{m:Int}{e:Sight}(hs:Small e):∀c∈(eText m e).1,c<256:=by
 have hc:Small (eCount m e).2:=by
  exact t44
 unfold eText;exact eNext_lt hc
theorem text_len(e:Sight):(eText 131072 e).1.length<=131072:=by
 have h1:=(eVar_le 9223372036854775807 ((max 131072 0:Int)).toNat e).2;have h2:=eNext_len (eCount 131072 e).1 (eCount 131072 e).2;unfold eText;show(eNext (eCount 131072 e).1 (eCount 131072 e).2).1.length<=131072
 refine Nat.le_trans h2 (Nat.le_trans h1 ?_);decide
theorem small_text{m:Int}{e:Sight}(hs:Small e):Small (eText m e).2:=by
 have hc:Small (eCount m e).2:=by
  exact t44
 have hn:Small (eNext (eCount m e).1 (eCount m e).2).2:=by
  unfold eNext;repeat' split
  all_goals first | exact hc | (intro c hq;exact hc c (List.mem_of_mem_drop hq))
 unfold eText;split
 ·exact hs
 ·exact hn
theorem small_count{m:Int}{e:Sight}(hs:Small e):Small (eCount m e).2:=by
 exact t44
theorem rd_small{xs:List Nat}(hx:∀c∈xs,c<256):Small (rdN xs).2/\Small (rdA xs).2/\Small (rdB xs).2:=by
 have h0:Small (rdN xs).2:=small_count (show Small (xs,0) from hx);have h1:Small (rdA xs).2:=small_text h0;exact⟨h0,h1,small_text h1⟩
theorem rd_lt{xs:List Nat}(hx:∀c∈xs,c<256):(∀c∈(rdA xs).1,c<256)/\(∀c∈(rdB xs).1,c<256)/\∀c∈(rdC xs).1,c<256:=by
 obtain⟨h0,h1,h2⟩:=rd_small hx;exact⟨text_lt h0,text_lt h1,text_lt h2⟩
end link
theorem t134{P:Prop}(h:P:=by
 go_ret;exact⟨rfl,HBW.o.trans (aj.mono HBW.o.size)⟩):P:=h
theorem t108{P:Prop}(h:P:=by
 go_enter func13,ntmps13;go_wp2;go_ret;exact⟨rfl,HBL.o⟩):P:=h
theorem t96{P:Prop}(h:P:=by
 rintro⟨⟨a,b⟩,c,d,e,f⟩;exact⟨⟨⟨⟨⟨a,b⟩,c⟩,d⟩,e⟩,f⟩):P:=h
theorem t87{P:Prop}(h:P:=by
 exact⟨rfl,HBW.o.trans (kJ.mono HBW.o.size)⟩):P:=h
theorem t86{P:Prop}(h:P:=by
 exact⟨rfl,HBW.o.trans (dF.mono HBW.o.size)⟩):P:=h
theorem t27{P:Prop}(h:P:=by
 go_enter func13,ntmps13;go_wp2_with (first | (go_at_call 36;((with_reducible refine cS.mono ?_);clear cS;rintro e w2 ⟨rfl,aj⟩;rw[hW.o] at aj;obtain⟨⟨k2,_⟩,_⟩:=bV.o _ aj;have z20:=k2.cell 0;have z21:=k2.cell 1;have z22:=k2.cell 2;have z23:=k2.cell 3;have z24:=k2.cell 4;clear k2)))
 exact t134):P:=h
namespace link
open Go.RowKit
open field (Gives newB gives_from)
open step (St Sp StL sps Rights rightsE Lists step_at sps_at sps_length rights_succ rights_no boxP)
open schema (Fm FmL forms below_out take_succ_at)
set_option maxRecDepth 20000 in
theorem wrong_any(s:Sp)(ta:Option Addr)(tc:Nat)(la:Option Addr)(lc:Nat)(w:World)(h:Lists w s ta la):
  Calls prog 64 #[zP s ta tc la lc] w (Gives (.bool (!decide s.Right)) w):=by
 have hb:=newB w (.cells (zP s ta tc la lc) 84);have cR:=step.right_any s ta tc la lc (w.alloc (.cells (zP s ta tc la lc) 84)) (h.below hb);have HX:=hid (boxP s ta tc la lc w);obtain⟨r,hr⟩:∃r:Bool,Hid (decide s.Right=r):=⟨_,hid rfl⟩;rw[hr.o] at cR ⊢;unfold Gives at cR ⊢;clear h hb;go_enter func64,ntmps64;go_wp2_with (go_at_call 65;((with_reducible refine cR.mono ?_);rintro e w2 ⟨rfl,aj⟩;have HB2:=hid (below_out aj)));go_ret;exact⟨rfl,HB2.o⟩
def IndexAs(L:List Sp)(w:World)(e:Ending)(w':World):Prop:=∃k:Int,e=.returned (.int .i64 k)/\(0<=k↔¬Rights L)/\ -1<=k/\Below w.heap.size w w'
set_option maxRecDepth 20000 in
theorem index_any(a:Option Addr)(c:Nat)(L:List St)(w:World)(h:StL w a L)(hL:L.length<=maxLen):
  Calls prog 90 #[.slice a L.length c,.func (.func 64) #[] #[]] w (IndexAs (sps L) w):=by
 have hml:(L.length:Int)<=9223372036854775807:=by unfold maxLen at hL;omega
 unfold IndexAs;have HF:=hid h;have HLN:=hid (sps_length L);clear h hL;go_enter func90,ntmps90;go_wp2;go_loopw [8] (fun n wr=>∃k:Nat,k<=L.length/\n=.int .i64 (k:Int)/\Hid (Rights ((sps L).take k))/\Hid (Below w.heap.size w wr)) (fun n _=>L.length - (intOf n).toNat);case atStart=>exact⟨0,Nat.zero_le _,rfl,hid (by intro q hq;simp at hq),hid (Below.refl _ _)⟩
 case round=>
  obtain⟨k,hk,rfl,HOK,HB⟩:=hrel;by_cases au:k<L.length
  ·obtain⟨b,off,p,rfl,bQ,hp,eU,z0,z1,z2,z3,z4,z5,z6,z7,z8,z9,z10,z11,z12,z13,z14,z15⟩:=step_at HF.o HB.o au;have i1:(k:Int)<L.length:=by omega
   have HSUC:=hid (rights_succ (sps_at hp));have HNO:=hid (rights_no (sps_at hp));obtain⟨s,ta,tc,la,lc⟩:=p;simp only at z0 z1 z2 z3 z4 z5 z6 z7 z8 z9 z10 z11 z12 z13 z14 z15 eU HSUC HNO;have cR:=wrong_any s ta tc la lc wr eU;unfold Gives at cR;clear hp eU;by_cases hs:s.Right
   ·rw[decide_eq_true hs] at cR;have HS:=hid hs;clear hs;go_wp2_with (go_at_call 64;((with_reducible refine cR.mono ?_);rintro e w2 ⟨rfl,aj⟩;have HB2:=hid aj))
    exact t38
   ·rw[decide_eq_false hs] at cR;have HS:=hid hs;clear hs;go_wp2_with (go_at_call 64;((with_reducible refine cR.mono ?_);rintro e w2 ⟨rfl,aj⟩;have HB2:=hid aj));go_ret;exact⟨_,rfl,⟨fun _=>HNO.o HS.o,fun _=>by omega⟩,by omega,HB.o.trans (HB2.o.mono HB.o.size)⟩
  ·obtain rfl:k=L.length:=by omega
   have bg:Rights (sps L):=by have:=HOK.o;rw[List.take_of_length_le (by rw[HLN.o];exact Nat.le_refl _)] at this;exact this
   have HRI:=hid bg;clear bg;go_wp2;go_ret;exact⟨-1,rfl,⟨fun h=>absurd h om_,fun h=>absurd HRI.o h⟩,by omega,HB.o⟩
theorem contains_any(a:Option Addr)(c:Nat)(L:List St)(w:World)(h:StL w a L)(hL:L.length<=maxLen):
  Calls prog 63 #[.slice a L.length c,.func (.func 64) #[] #[]] w (Gives (.bool (!decide (Rights (sps L)))) w):=by
 have cI:=index_any a c L w h hL;unfold IndexAs at cI;obtain⟨r,hr⟩:∃r:Bool,Hid ((!decide (Rights (sps L)))=r):=⟨_,hid rfl⟩;have HK:Hid (∀k:Int,(0<=k↔¬Rights (sps L))->decide (k≥0)=r):=hid fun k hk=>by
  rw[<-hr.o];by_cases hq:Rights (sps L)
  ·rw[decide_eq_true hq,decide_eq_false (fun h0=>(hk.1 h0) hq)];rfl
  ·rw[decide_eq_false hq,decide_eq_true (hk.2 hq)];rfl
 rw[hr.o];unfold Gives;clear h hL;go_enter func63,ntmps63;go_wp2_with (go_at_call 90;((with_reducible refine cI.mono ?_);rintro e w2 ⟨k,rfl,hk,bU,aj⟩;have sW:=HK.o k hk;clear hk));go_ret;exact⟨rfl,aj⟩
theorem fine_any(a:Option Addr)(c:Nat)(L:List St)(w:World)(h:StL w a L)(hL:L.length<=maxLen):
  Calls prog 37 #[.slice a L.length c] w (Gives (.bool (decide (rightsE (sps L)=0))) w):=by
 have hml:(L.length:Int)<=9223372036854775807:=by unfold maxLen at hL;omega
 by_cases jb:L.length<=40
 ·have cC:=contains_any a c L w h hL;have hd:decide ((L.length:Int)<=40)=true:=decide_eq_true om_;have i1:(L.length:Int)<=40:=by omega
  rw[show decide (rightsE (sps L)=0)=decide (Rights (sps L)) from decide_eq_decide.2 ⟨fun h=>(rights_zero h).2,fun h=>rights_one (by rw[sps_length];exact jb) h⟩];generalize decide (Rights (sps L))=r at *;unfold Gives at cC ⊢;clear h hL jb;go_enter func37,ntmps37;go_wp2_with (go_at_call 63;((with_reducible refine cC.mono ?_);rintro e w2 ⟨rfl,aj⟩));go_ret;exact⟨by simp,aj⟩
 ·have hd:decide ((L.length:Int)<=40)=false:=decide_eq_false om_;have i1:¬(L.length:Int)<=40:=by omega
  rw[decide_eq_false (fun h:rightsE (sps L)=0=>jb (by have:=(rights_zero h).1;rw[sps_length] at this;exact this))];unfold Gives;clear h hL jb;go_enter func37,ntmps37
  exact t13
structure LkM (w:World) (fa:Option Addr) (F:List Fm) (oa:Option Addr) (O:List St) (ba:Option Addr) (B:List St):Prop where
 f:FmL w fa F
 o:StL w oa O
 b:StL w ba B
 lf:F.length<=maxLen
 lo:O.length<=maxLen
 lb:B.length<=maxLen
theorem LkM.below{w w':World}{fa:Option Addr}{F:List Fm}{oa:Option Addr}{O:List St}{ba:Option Addr}{B:List St}(h:LkM w fa F oa O ba B)(hb:Below w.heap.size w w'):LkM w' fa F oa O ba B:=
 ⟨h.f.below hb,h.o.below hb,h.b.below hb,h.lf,h.lo,h.lb⟩
theorem LkM.nil(w:World):LkM w none [] none [] none []:=⟨⟨.inl rfl,by simp⟩,.nil w,.nil w,Nat.zero_le _,Nat.zero_le _,Nat.zero_le _⟩
set_option maxRecDepth 20000 in
theorem right_any(n v:Int)(fa:Option Addr)(fc:Nat)(F:List Fm)(oa:Option Addr)(oc:Nat)(O:List St)(ba:Option Addr)(bc:Nat)(B:List St)(w:World)(h:LkM w fa F oa O ba B):
  Calls prog 13 #[.agg #[.int .i64 n,.int .i64 v,.slice fa F.length fc,.slice oa O.length oc,.slice ba B.length bc]] w (Gives (.bool (decide (Right n v (forms F) (sps O) (sps B)))) w):=by
 obtain⟨W0,hW,bW,hsz,bV⟩:=boxes_name w [(27,[.int .i64 n,.int .i64 v,.slice fa F.length fc,.slice oa O.length oc,.slice ba B.length bc])];simp only[boxes] at hW;have h0:=h.below bW;have cS:=schema.right_any v fa fc F W0 h0.f h0.lf;have cO:=fun w' (hb:Below W0.heap.size W0 w')=>fine_any oa oc O w' (h0.o.below hb) h0.lo
 have cB:=fun w' (hb:Below W0.heap.size W0 w')=>fine_any ba bc B w' (h0.b.below hb) h0.lb
 obtain⟨r,hr⟩:∃r:Bool,Hid (decide (Right n v (forms F) (sps O) (sps B))=r):=⟨_,hid rfl⟩;have HR:Hid (r=(decide (1<=n) && decide (n<=65535) && decide (schema.Right v (forms F)) && (v != n) && decide (rightsE (sps O)=0) && decide (rightsE (sps B)=0))):=hid (by
  rw[<-hr.o,Bool.eq_iff_iff];simp only[decide_eq_true_eq,Bool.and_eq_true,bne_iff_ne,ne_eq];unfold Right;constructor
  ·exact t96
  ·rintro⟨⟨⟨⟨⟨a,b⟩,c⟩,d⟩,e⟩,f⟩;exact⟨⟨a,b⟩,c,d,e,f⟩)
 rw[hr.o];have HBW:=hid bW;have HBL:=hid bW;rw[<-hW.o] at cS HBL;generalize decide (schema.Right v (forms F))=sr at *;generalize decide (rightsE (sps O)=0)=so at *;generalize decide (rightsE (sps B)=0)=sb at *;unfold Gives at cS cO cB ⊢;clear h h0 bW hr;by_cases h1:1<=n
 ·have d1:decide (1<=n)=true:=decide_eq_true h1;by_cases h2:n<=65535
  ·have d2:decide (n<=65535)=true:=decide_eq_true h2;cases sr with
   | true=>
    by_cases h3:v=n
    ·have d3:(v != n)=false:=by simp[h3]
     clear h3;obtain rfl:r=false:=by rw[HR.o,d3];simp
     exact t27
    ·have d3:(v != n)=true:=by simp[h3]
     cases so with
     | true=>
      obtain rfl:r=sb:=by rw[HR.o,d1,d2,d3];simp
      go_enter func13,ntmps13;go_wp2_with (first | (go_at_call 36;((with_reducible refine cS.mono ?_);clear cS;rintro e w2 ⟨rfl,aj⟩;rw[hW.o] at aj;obtain⟨⟨k2,_⟩,_⟩:=bV.o _ aj;have z20:=k2.cell 0;have z21:=k2.cell 1;have z22:=k2.cell 2;have z23:=k2.cell 3;have z24:=k2.cell 4;clear k2)) | (go_at_call 37;((with_reducible refine(cO _ aj).mono ?_);clear cO;rintro e w3 ⟨rfl,aK⟩;have dF:=aj.trans (aK.mono aj.size);obtain⟨⟨k3,_⟩,_⟩:=bV.o _ dF;have z30:=k3.cell 0;have z31:=k3.cell 1;have z32:=k3.cell 2;have z33:=k3.cell 3;have z34:=k3.cell 4;clear k3)) | (go_at_call 37;((with_reducible refine(cB _ dF).mono ?_);clear cB;rintro e w4 ⟨rfl,bY⟩;have kJ:=dF.trans (bY.mono dF.size))));go_ret
      exact t87
     | false=>
      obtain rfl:r=false:=by rw[HR.o];simp
      go_enter func13,ntmps13;go_wp2_with (first | (go_at_call 36;((with_reducible refine cS.mono ?_);clear cS;rintro e w2 ⟨rfl,aj⟩;rw[hW.o] at aj;obtain⟨⟨k2,_⟩,_⟩:=bV.o _ aj;have z20:=k2.cell 0;have z21:=k2.cell 1;have z22:=k2.cell 2;have z23:=k2.cell 3;have z24:=k2.cell 4;clear k2)) | (go_at_call 37;((with_reducible refine(cO _ aj).mono ?_);clear cO;rintro e w3 ⟨rfl,aK⟩;have dF:=aj.trans (aK.mono aj.size);obtain⟨⟨k3,_⟩,_⟩:=bV.o _ dF;have z30:=k3.cell 0;have z31:=k3.cell 1;have z32:=k3.cell 2;have z33:=k3.cell 3;have z34:=k3.cell 4;clear k3)));go_ret
      exact t86
   | false=>
    obtain rfl:r=false:=by rw[HR.o];simp
    exact t27
  ·have d2:decide (n<=65535)=false:=decide_eq_false h2;obtain rfl:r=false:=by rw[HR.o,d2];simp
   exact t108
 ·have d1:decide (1<=n)=false:=decide_eq_false h1;obtain rfl:r=false:=by rw[HR.o,d1];simp
  exact t108
end link
theorem t29{P:Prop}(h:P:=by
 rw[Nat.zero_add,Lib.bytesWorld_cell _ _ _ _ (by rw[strOf_size];exact hi)];have hb:nums (strOf xs).data.toList=xs:=bytes_strOf hx;conv=>rhs;rw[<-hb]
 have hi2:i<(strOf xs).data.toList.length:=by rw[Array.length_toList];show i<(strOf xs).size;rw[strOf_size];exact hi
 simp[nums,List.getD_eq_getElem?_getD,List.getElem?_eq_getElem hi2]):P:=h
namespace plan
open Go Go.RowKit
theorem storeS{P:Program}{md:Region.Mode}{Q:Exit->Act->World->Prop}{l:List Oper}{S:World->Prop}{f:Nat}{listed:Array Bool}{a:Act}{w w1:World}(i:Nat)(o:Oper)(hi:l[i]?=some o)(hg:o.guard=none)(hd:o.dst=none)
  (hv:(execOp a.eval o).run P w=.ok .skip w1) (hS:S w1) (h:wpAnyH P md l.toArray (NoPanic Q) S f (listed.setIfInBounds i true) a w1) (hr:Region.ready md l.toArray listed=[i]:=by kernel_rfl):wpAnyH P md l.toArray (NoPanic Q) S (f+1) listed a w:=by
 refine wpAnyH_all hr si_ fun j hj=> ?_
 obtain rfl:j=i:=by simpa using hj
 have hi':l.toArray[j]?=some o:=by simpa using hi
 have hw:Region.wanted o (yielded l.toArray a.tmps)=true:=by unfold Region.wanted;rw[hg]
 unfold wpOp;have e:a.put o.dst undef=a:=by rw[hd];rfl
 simp only[hi',hw,if_true,Oper.wp,hv,Oper.upon];exact .inl ⟨hS,by rw[e];exact h⟩
end plan
namespace link
open Go.RowKit pen
open field (newB bytesOf bytes_strOf strOf_size)
open schema (eye_past but_store)
structure Rd (b l R:Nat) (w0:World) (s:Sight) (cs:List Value) (w:World):Prop where
 eye:EyeAt 123 b s w
 row:Block w l 48 cs
 res:Block w R 48 [.slice none 0 0,.slice none 0 0,.slice none 0 0]
 o:Below w0.heap.size w0 w
 lo:w0.heap.size<=R
 lb:R<b
 hi:b<l
def Rw(l g:Nat)(xs:List Nat)(w:World):Prop:=l<g/\g<w.heap.size/\Reads .u8 w (some ⟨g,0,none⟩) xs.length xs
theorem Rw.below{l g B:Nat}{xs:List Nat}{w w':World}(h:Rw l g xs w)(hb:Below B w w')(hg:g<B):Rw l g xs w':=by
 obtain⟨h1,h2,h3⟩:=h;exact⟨h1,Nat.lt_of_lt_of_le h2 hb.size,h3.1,by
  rcases h3.2 with h | ⟨b',off',ha,au,hc⟩
  ·exact .inl h
  ·refine .inr ⟨b',off',ha,Nat.lt_of_lt_of_le au hb.size,fun i hi=> ?_⟩;cases ha
   rw[hb.cell (p:=⟨g,0+i,none⟩) hg];exact hc i hi⟩
theorem Rw.store{l g k o:Nat}{v:Value}{xs:List Nat}{w:World}(h:Rw l g xs w)(hk:g≠k):Rw l g xs (w.setCell ⟨k,o,none⟩ v):=by
 obtain⟨h1,h2,h3⟩:=h;exact⟨h1,by simpa using h2,h3.but ((But.refl w.heap.size k w).setCell o v) h2 hk⟩
theorem bytes_world(w:World)(S:ByteArray):Below w.heap.size w (Lib.bytesWorld w 5 S):=Lib.bytesWorld_below _ _ _
theorem Rd.turn{b l R:Nat}{w0 w3 w4:World}{s s':Sight}{cs:List Value}(h:Rd b l R w0 s cs w3)(hE:EyeAt 123 b s' w4)(hu:But w3.heap.size b w3 w4)(S:ByteArray)(i:Nat)(v:Value):
  Rd b l R w0 s' (cs.set i v) ((Lib.bytesWorld w4 5 S).setCell ⟨l,i,none⟩ v):=by
 have hb:=bytes_world w4 S;have r1:=(h.row.but hu h.row.lt (by have:=h.hi;omega)).later hb;have r2:=(h.res.but hu h.res.lt (by have:=h.lb;omega)).later hb;have e1:=hE.later hb;have fF:w0.heap.size<=w3.heap.size:=h.o.size;have o4:Below w0.heap.size w0 w4:=h.o.trans (hu.below fF (by have:=h.lo;have:=h.lb;omega));refine⟨eye_past e1 h.hi ((But.refl _ l _).setCell i v),r1.setCell i v,r2.apart l i v (by have:=h.lb;have:=h.hi;omega), ?_,h.lo,h.lb,h.hi⟩;exact(o4.trans (hb.mono o4.size)).setCell (p:=⟨l,i,none⟩) (by have:=h.lo;have:=h.lb;have:=h.hi;show w0.heap.size<=l;omega) v
theorem Rw.turn{b l g:Nat}{w3 w4:World}{xs:List Nat}(h:Rw l g xs w3)(bQ:b<l)(hu:But w3.heap.size b w3 w4)(S:ByteArray)(i:Nat)(v:Value):
  Rw l g xs ((Lib.bytesWorld w4 5 S).setCell ⟨l,i,none⟩ v):=by
 have h4:Rw l g xs w4:=⟨h.1,Nat.lt_of_lt_of_le h.2.1 hu.2.2.2.1,h.2.2.but hu h.2.1 (by have:=h.1;omega)⟩;exact(h4.below (bytes_world w4 S) h4.2.1).store (by have:=h.1;omega)
theorem Rw.new{b l:Nat}{w4:World}{xs:List Nat}(hx:∀x∈xs,x<256)(hl:l<w4.heap.size)(i:Nat)(v:Value):
  Rw l w4.heap.size xs ((Lib.bytesWorld w4 5 (strOf xs)).setCell ⟨l,i,none⟩ v):=by
 have h0:Rw l w4.heap.size xs (Lib.bytesWorld w4 5 (strOf xs)):=by
  refine⟨hl,by rw[Lib.bytesWorld_size];omega,rfl,.inr ⟨_,_,rfl,by rw[Lib.bytesWorld_size];omega,fun i hi=> ?_⟩⟩
  exact t29
 exact h0.store om_
theorem results_mid{fn:Func}{p u v:Tmp}{ty:TypeId}{tmps:Array Value}{P:Program}{w:World}{b o:Nat}{cs:List Value}{d:TypeDesc}(h:fn.results=#[.tmp u,.cell p ty,.tmp v])
  (hp:tmps.getD p undef=.pointer (some ⟨b,o,none⟩)) (hc:w.rangeAt b o cs) (hu:P.underlying ty=some d) (hd:d.isRow=true) (hi:(P.info? ty).map (·.size)=some cs.length):
  (results fn tmps).run P w=.ok (.tuple #[tmps.getD u undef,.agg cs.toArray,tmps.getD v undef]) w:=by
 exact t53
theorem info3:(prog.info? 48).map (·.size)=some 3:=by kernel_rfl
def ReadsAs(xs:List Nat)(w:World)(e:Ending)(w':World):Prop:=
 ∃a1 c1 a2 c2 a3 c3,e=.returned (.tuple #[.int .i64 ((rdN xs).1:Int),.agg #[.slice a1 (rdA xs).1.length c1,.slice a2 (rdB xs).1.length c2,.slice a3 (rdC xs).1.length c3],.int .i64 (eEnd (rdC xs).2:Int)])/\
  Reads .u8 w' a1 (rdA xs).1.length (rdA xs).1/\Reads .u8 w' a2 (rdB xs).1.length (rdB xs).1/\Reads .u8 w' a3 (rdC xs).1.length (rdC xs).1/\Below w.heap.size w w'
set_option maxRecDepth 20000 in
set_option maxHeartbeats 3200000 in
theorem read_any(a:Option Addr)(c:Nat)(xs:List Nat)(w:World)(hr:Reads .u8 w a xs.length xs)(hx:∀c∈xs,c<256)(hl:xs.length<=140737488355328):
  Calls prog 25 #[.slice a xs.length c] w (ReadsAs xs w):=by
 obtain⟨W0,hW,bW,hsz,bV⟩:=boxes_name w [(48,[.slice none 0 0,.slice none 0 0,.slice none 0 0])];simp only[boxes] at hW;have c0:=of_any a c xs W0 (hr.below bW) hx hl;rw[<-hW.o] at c0;have c1:=fun b w' hE=>eyeCount_any b (xs,0) w' hE 65535 om_ om_
 have cT:=fun b s w' hE=>eyeText_any b s w' hE 131072 om_ om_
 obtain⟨tA,tB,tC⟩:=rd_lt hx;unfold ReadsAs;obtain⟨N,e0,hN⟩:∃N s,rdN xs=(N,s):=⟨_,_,rfl⟩;obtain⟨A,e1,hA⟩:∃N s,rdA xs=(N,s):=⟨_,_,rfl⟩;obtain⟨B,e2,hB⟩:∃N s,rdB xs=(N,s):=⟨_,_,rfl⟩;obtain⟨C,e3,hC⟩:∃N s,rdC xs=(N,s):=⟨_,_,rfl⟩;have kN:eCount 65535 (xs,0)=(N,e0):=hN;have kA:eText 131072 e0=(A,e1):=by have:eText 131072 (rdN xs).2=(A,e1):=hA;rw[hN] at this;exact this
 have kB:eText 131072 e1=(B,e2):=by have:eText 131072 (rdA xs).2=(B,e2):=hB;rw[hA] at this;exact this
 have kC:eText 131072 e2=(C,e3):=by have:eText 131072 (rdB xs).2=(C,e3):=hC;rw[hB] at this;exact this
 have nA:A.length<=131072:=by have:=text_len e0;rw[kA] at this;exact this
 have nB:B.length<=131072:=by have:=text_len e1;rw[kB] at this;exact this
 have nC:C.length<=131072:=by have:=text_len e2;rw[kC] at this;exact this
 rw[hA] at tA;rw[hB] at tB;rw[hC] at tC;rw[kN] at c1;simp only[hN,hA,hB,hC];have cA:=fun b w' hE=>cT b e0 w' hE
 have cB:=fun b w' hE=>cT b e1 w' hE
 have cC:=fun b w' hE=>cT b e2 w' hE
 rw[kA] at cA;rw[kB] at cB;rw[kC] at cC;simp only at c1 cA cB cC tA tB tC;unfold Saw at c1 cA cB cC;have hcv:Hid (∀(S:ByteArray) (w1:World),(convert 9 28 (.string S)).run prog w1=.ok (.slice (some ⟨w1.heap.size,0,none⟩) S.size (grownCap w1 S.size 0 5)) (Lib.bytesWorld w1 5 S)):=
  hid fun S w1=>Lib.run_convert_string_bytes w1 _ _ _ _ underlying9 underlying28 underlying5
 have HSZ:Hid (W0.heap.size=w.heap.size+1):=hid hsz.o;clear kN kA kB kC cT hN hA hB hC hr hx hl hsz bW;go_enter func25,ntmps25;go_wp2_with (first
  | (go_at_call 48;((with_reducible refine c0.mono ?_);clear c0;rintro en w1 ⟨b,rfl,iR,hE1,ak⟩;rw[hW.o] at iR ak;obtain⟨⟨K1,_⟩,q1⟩:=bV.o _ ak))
  | (go_at_call 49;((with_reducible refine(c1 b w1 hE1).mono ?_);clear c1;rintro en w2 ⟨rfl,hE2,hu2⟩;have K2:=K1.but hu2 K1.lt (by rw[HSZ.o] at iR;omega);have q2:=q1.trans (hu2.below q1.size (by rw[HSZ.o] at iR;omega)))))
 have aK:=newB w2 (.cells #[.slice none 0 0,.slice none 0 0,.slice none 0 0] 48);have hR0:Rd b w2.heap.size w.heap.size w e0 [.slice none 0 0,.slice none 0 0,.slice none 0 0] (w2.alloc (.cells #[.slice none 0 0,.slice none 0 0,.slice none 0 0] 48)):=
  ⟨hE2.later aK,Block.new w2 _ _,K2.later aK,q2.trans (aK.mono q2.size),Nat.le_refl _,by rw[HSZ.o] at iR;omega,hE2.lt⟩
 generalize w2.alloc (.cells #[.slice none 0 0,.slice none 0 0,.slice none 0 0] 48)=w3 at hR0 ⊢;have HR0:=hid hR0;clear hR0 aK hE1 ak K1 q1 hE2 hu2 K2 q2 iR bV hW HSZ;refine wp_loop_rounds 4 ?_;rw[rounds_succ];go_wp2_with (go_at_call 50;((with_reducible refine(cA b w3 HR0.o.eye).mono ?_);rintro en w4 ⟨rfl,hE4,hu4⟩;have hc4:=hcv.o (strOf A) w4;have K4:=(HR0.o.row.but hu4 HR0.o.row.lt (by have:=HR0.o.hi;omega)).later (bytes_world w4 (strOf A));have y4:=K4.cell 0;have g4:=K4.frozen 0));have hR1:=HR0.o.turn hE4 hu4 (strOf A) 0 (.slice (some ⟨w4.heap.size,0,none⟩) (strOf A).size (grownCap w4 (strOf A).size 0 5));have hN0:=Rw.new (b:=b) tA (Nat.lt_of_lt_of_le HR0.o.row.lt hu4.2.2.2.1) 0 (.slice (some ⟨w4.heap.size,0,none⟩) (strOf A).size (grownCap w4 (strOf A).size 0 5));obtain⟨d0,hd0⟩:∃d,Hid (grownCap w4 (strOf A).size 0 5=d):=⟨_,hid rfl⟩;rw[hd0.o] at hR1 hN0 ⊢;generalize (Lib.bytesWorld w4 5 (strOf A)).setCell ⟨w2.heap.size,0,none⟩ (.slice (some ⟨w4.heap.size,0,none⟩) (strOf A).size d0)=w5 at hR1 hN0 ⊢;obtain⟨p0,jL⟩:∃p,Hid (w4.heap.size=p):=⟨_,hid rfl⟩;rw[jL.o] at hR1 hN0 ⊢;simp only[List.set_cons_zero,List.set_cons_succ] at hR1;have HR1:=hid hR1;have HN0:=hid hN0;clear hR1 hN0 hE4 hu4 hc4 K4 y4 g4 HR0;rw[rounds_succ];go_wp2_with (go_at_call 50;((with_reducible refine(cB b w5 HR1.o.eye).mono ?_);rintro en w6 ⟨rfl,hE6,hu6⟩;have hc6:=hcv.o (strOf B) w6;have K6:=(HR1.o.row.but hu6 HR1.o.row.lt (by have:=HR1.o.hi;omega)).later (bytes_world w6 (strOf B));have y6:=K6.cell 1;have g6:=K6.frozen 1));have hR2:=HR1.o.turn hE6 hu6 (strOf B) 1 (.slice (some ⟨w6.heap.size,0,none⟩) (strOf B).size (grownCap w6 (strOf B).size 0 5));have hN1:=Rw.new (b:=b) tB (Nat.lt_of_lt_of_le HR1.o.row.lt hu6.2.2.2.1) 1 (.slice (some ⟨w6.heap.size,0,none⟩) (strOf B).size (grownCap w6 (strOf B).size 0 5));have hM01:=HN0.o.turn HR1.o.hi hu6 (strOf B) 1 (.slice (some ⟨w6.heap.size,0,none⟩) (strOf B).size (grownCap w6 (strOf B).size 0 5));obtain⟨d1,hd1⟩:∃d,Hid (grownCap w6 (strOf B).size 0 5=d):=⟨_,hid rfl⟩;rw[hd1.o] at hR2 hN1 hM01 ⊢;generalize (Lib.bytesWorld w6 5 (strOf B)).setCell ⟨w2.heap.size,1,none⟩ (.slice (some ⟨w6.heap.size,0,none⟩) (strOf B).size d1)=w7 at hR2 hN1 hM01 ⊢;obtain⟨p1,ig⟩:∃p,Hid (w6.heap.size=p):=⟨_,hid rfl⟩;rw[ig.o] at hR2 hN1 ⊢;simp only[List.set_cons_zero,List.set_cons_succ] at hR2;have HR2:=hid hR2;have HN1:=hid hN1;have HM01:=hid hM01;clear hR2 hN1 hM01 hE6 hu6 hc6 K6 y6 g6 HR1 HN0;rw[rounds_succ];go_wp2_with (go_at_call 50;((with_reducible refine(cC b w7 HR2.o.eye).mono ?_);rintro en w8 ⟨rfl,hE8,hu8⟩;have hc8:=hcv.o (strOf C) w8;have K8:=(HR2.o.row.but hu8 HR2.o.row.lt (by have:=HR2.o.hi;omega)).later (bytes_world w8 (strOf C));have y8:=K8.cell 2;have g8:=K8.frozen 2));have hR3:=HR2.o.turn hE8 hu8 (strOf C) 2 (.slice (some ⟨w8.heap.size,0,none⟩) (strOf C).size (grownCap w8 (strOf C).size 0 5));have hN2:=Rw.new (b:=b) tC (Nat.lt_of_lt_of_le HR2.o.row.lt hu8.2.2.2.1) 2 (.slice (some ⟨w8.heap.size,0,none⟩) (strOf C).size (grownCap w8 (strOf C).size 0 5));have hM02:=HM01.o.turn HR2.o.hi hu8 (strOf C) 2 (.slice (some ⟨w8.heap.size,0,none⟩) (strOf C).size (grownCap w8 (strOf C).size 0 5));have hM12:=HN1.o.turn HR2.o.hi hu8 (strOf C) 2 (.slice (some ⟨w8.heap.size,0,none⟩) (strOf C).size (grownCap w8 (strOf C).size 0 5));obtain⟨d2,hd2⟩:∃d,Hid (grownCap w8 (strOf C).size 0 5=d):=⟨_,hid rfl⟩;rw[hd2.o] at hR3 hN2 hM02 hM12 ⊢;generalize (Lib.bytesWorld w8 5 (strOf C)).setCell ⟨w2.heap.size,2,none⟩ (.slice (some ⟨w8.heap.size,0,none⟩) (strOf C).size d2)=w9 at hR3 hN2 hM02 hM12 ⊢;obtain⟨p2,dD⟩:∃p,Hid (w8.heap.size=p):=⟨_,hid rfl⟩;rw[dD.o] at hR3 hN2 ⊢;simp only[List.set_cons_zero,List.set_cons_succ] at hR3;have HR3:=hid hR3;have HN2:=hid hN2;have HM02:=hid hM02;have HM12:=hid hM12;clear hR3 hN2 hM02 hM12 hE8 hu8 hc8 K8 y8 g8 HR2 HM01 HN1;rw[rounds_succ];go_wp2;have HNE:Hid (w2.heap.size≠w.heap.size):=hid (by have:=HR3.o.lb;have:=HR3.o.hi;omega);refine plan.regionS (S:=fun w'=>But w9.heap.size w.heap.size w9 w') ?_;have hS:But w9.heap.size w.heap.size w9 w9.drew:=(But.refl _ _ w9).drewN 1;have cE:=end_any b e3 w9.drew (HR3.o.eye.later (below_drewN (Below.refl _ _) 1));refine plan.firstS 0 _ (.int .i64 (N:Int)) rfl (fun w' aJ=>kr_) hS ?_;refine plan.firstS 1 _ (.agg #[.slice (some ⟨p0,0,none⟩) (strOf A).size d0,.slice (some ⟨p1,0,none⟩) (strOf B).size d1,.slice (some ⟨p2,0,none⟩) (strOf C).size d2]) rfl (fun w' aJ=>schema.exec_load_at (b:=w2.heap.size) (off:=0) rfl (HR3.o.row.but aJ HR3.o.row.lt HNE.o).whole underlying48 rfl info3) hS ?_;refine plan.firstS 2 _ (.pointer (some ⟨b,0,none⟩)) rfl (fun w' aJ=>kr_) hS ?_;refine plan.callS 3 _ 51 #[.pointer (some ⟨b,0,none⟩)] rfl (cE.mono ?_);rintro en wd ⟨rfl,m,rfl⟩;have nH:But w9.heap.size w.heap.size w9 (w9.drew.drewN m):=hS.drewN m;have hRd:Block (w9.drew.drewN m) w.heap.size 48 [.slice none 0 0,.slice none 0 0,.slice none 0 0]:=HR3.o.res;refine⟨_,rfl,nH, ?_⟩;refine plan.oneS 4 _ (.int .i64 (N:Int)) rfl rfl nH ?_;refine plan.storeS 5 _ rfl rfl rfl (plan.exec_store_all (cells:=#[.slice (some ⟨p0,0,none⟩) (strOf A).size d0,.slice (some ⟨p1,0,none⟩) (strOf B).size d1,.slice (some ⟨p2,0,none⟩) (strOf C).size d2]) rfl hRd rfl info3 (by simp[Value.oneCell'])) (nH.setCells 0 _) ?_;refine plan.oneS (w1:=(w9.drew.drewN m).setCells w.heap.size 0 [.slice (some ⟨p0,0,none⟩) (strOf A).size d0,.slice (some ⟨p1,0,none⟩) (strOf B).size d1,.slice (some ⟨p2,0,none⟩) (strOf C).size d2]) 6 _ (.int .i64 (eEnd e3:Int)) rfl rfl (nH.setCells 0 _) ?_;refine plan.doneS ?_;have hB:=hRd.setCells (o:=0) (vs:=[.slice (some ⟨p0,0,none⟩) (strOf A).size d0,.slice (some ⟨p1,0,none⟩) (strOf B).size d1,.slice (some ⟨p2,0,none⟩) (strOf C).size d2]);rw[put_all _ _ (by rfl)] at hB;walk_nrm;have lJ:=nH.setCells 0 [.slice (some ⟨p0,0,none⟩) (strOf A).size d0,.slice (some ⟨p1,0,none⟩) (strOf B).size d1,.slice (some ⟨p2,0,none⟩) (strOf C).size d2];have sZ:=HR3.o.lb;have hhi:=HR3.o.hi;have q0:=HM02.o.2.2.but lJ HM02.o.2.1 (by have:=HM02.o.1;omega);have q1:=HM12.o.2.2.but lJ HM12.o.2.1 (by have:=HM12.o.1;omega);have q2:=HN2.o.2.2.but lJ HN2.o.2.1 (by have:=HN2.o.1;omega);have qo:Below w.heap.size w ((w9.drew.drewN m).setCells w.heap.size 0 [.slice (some ⟨p0,0,none⟩) (strOf A).size d0,.slice (some ⟨p1,0,none⟩) (strOf B).size d1,.slice (some ⟨p2,0,none⟩) (strOf C).size d2]):=
  below_setCells (below_drewN (below_drewN HR3.o.o 1) m) (Nat.le_refl _) 0 _
 simp only[strOf_size] at hB q0 q1 q2 qo ⊢;go_wp2;exact bodyPost_ret (results_mid (b:=w.heap.size) (o:=0) rfl rfl hB.whole underlying48 rfl info3) rfl ⟨_,_,_,_,_,_,rfl,q0,q1,q2,qo⟩
end link
theorem t111{P:Prop}(h:P:=by
 go_enter func7,ntmps7;go_wp2;go_ret;exact⟨rfl,HBL.o⟩):P:=h
theorem t102{P:Prop}(h:P:=by
 go_wp2;go_ret;exact⟨_,rfl,HBW.o⟩):P:=h
theorem t28{P:Prop}(h:P:=by
 go_enter func7,ntmps7;go_wp2_with (first | (go_at_call 19;((with_reducible refine cS.mono ?_);clear cS;rintro e w2 ⟨rfl,aj⟩;rw[hW.o] at aj;obtain⟨⟨k2,_⟩,_⟩:=bV.o _ aj;have z20:=k2.cell 0;have z21:=k2.cell 1;have z22:=k2.cell 2;have z23:=k2.cell 3;have z24:=k2.cell 4;clear k2)))
 exact t134):P:=h
namespace link
open Go.RowKit
open field (Gives newB)
open step (St Sp StL sps rightsE)
open schema (Fm FmL forms form_at)
set_option maxRecDepth 20000 in
theorem refRight_any(n v:Int)(fa:Option Addr)(fc:Nat)(F:List Fm)(oa:Option Addr)(oc:Nat)(O:List St)(ba:Option Addr)(bc:Nat)(B:List St)(w:World)(h:LkM w fa F oa O ba B):
  Calls prog 7 #[.agg #[.int .i64 n,.int .i64 v,.slice fa F.length fc,.slice oa O.length oc,.slice ba B.length bc]] w (Gives (.bool (decide (Right n v (forms F) (sps O) (sps B)))) w):=by
 obtain⟨W0,hW,bW,hsz,bV⟩:=boxes_name w [(27,[.int .i64 n,.int .i64 v,.slice fa F.length fc,.slice oa O.length oc,.slice ba B.length bc])];simp only[boxes] at hW;have h0:=h.below bW;have cS:=schema.refRight_any v fa fc F W0 h0.f h0.lf;have cO:=fun w' (hb:Below W0.heap.size W0 w')=>step.refRights_any oa oc O w' (h0.o.below hb) h0.lo
 have cB:=fun w' (hb:Below W0.heap.size W0 w')=>step.refRights_any ba bc B w' (h0.b.below hb) h0.lb
 obtain⟨r,hr⟩:∃r:Bool,Hid (decide (Right n v (forms F) (sps O) (sps B))=r):=⟨_,hid rfl⟩;have HR:Hid (r=(decide (1<=n) && decide (n<=65535) && decide (schema.Right v (forms F)) && (v != n) && decide (rightsE (sps O)=0) && decide (rightsE (sps B)=0))):=hid (by
  rw[<-hr.o,Bool.eq_iff_iff];simp only[decide_eq_true_eq,Bool.and_eq_true,bne_iff_ne,ne_eq];unfold Right;constructor
  ·exact t96
  ·rintro⟨⟨⟨⟨⟨a,b⟩,c⟩,d⟩,e⟩,f⟩;exact⟨⟨a,b⟩,c,d,e,f⟩)
 rw[hr.o];have HBW:=hid bW;have HBL:=hid bW;rw[<-hW.o] at cS HBL;generalize decide (schema.Right v (forms F))=sr at *;generalize rightsE (sps O)=so at *;generalize rightsE (sps B)=sb at *;unfold Gives at cS cO cB ⊢;clear h h0 bW hr;by_cases h1:1<=n
 ·have d1:decide (n≥1)=true:=decide_eq_true h1;by_cases h2:n<=65535
  ·have d2:decide (n<=65535)=true:=decide_eq_true h2;cases sr with
   | true=>
    by_cases h3:v=n
    ·have d3:(v != n)=false:=by simp[h3]
     clear h3;obtain rfl:r=false:=by rw[HR.o,d3];simp
     exact t28
    ·have d3:(v != n)=true:=by simp[h3]
     by_cases h4:so=0
     ·have d4:((so:Int) == 0)=true:=by simp[h4]
      obtain rfl:r=((sb:Int) == 0):=by rw[HR.o,decide_eq_true h1,d2,d3,decide_eq_true h4];by_cases h5:sb=0 <;> simp[h5]
      clear h4 HR;go_enter func7,ntmps7;go_wp2_with (first | (go_at_call 19;((with_reducible refine cS.mono ?_);clear cS;rintro e w2 ⟨rfl,aj⟩;rw[hW.o] at aj;obtain⟨⟨k2,_⟩,_⟩:=bV.o _ aj;have z20:=k2.cell 0;have z21:=k2.cell 1;have z22:=k2.cell 2;have z23:=k2.cell 3;have z24:=k2.cell 4;clear k2)) | (go_at_call 20;((with_reducible refine(cO _ aj).mono ?_);clear cO;rintro e w3 ⟨rfl,aK⟩;have dF:=aj.trans (aK.mono aj.size);obtain⟨⟨k3,_⟩,_⟩:=bV.o _ dF;have z30:=k3.cell 0;have z31:=k3.cell 1;have z32:=k3.cell 2;have z33:=k3.cell 3;have z34:=k3.cell 4;clear k3)) | (go_at_call 20;((with_reducible refine(cB _ dF).mono ?_);clear cB;rintro e w4 ⟨rfl,bY⟩;have kJ:=dF.trans (bY.mono dF.size))));go_ret
      exact t87
     ·have d4:((so:Int) == 0)=false:=by rw[beq_eq_false_iff_ne];omega
      obtain rfl:r=false:=by rw[HR.o,decide_eq_false h4];simp
      clear h4 HR;go_enter func7,ntmps7;go_wp2_with (first | (go_at_call 19;((with_reducible refine cS.mono ?_);clear cS;rintro e w2 ⟨rfl,aj⟩;rw[hW.o] at aj;obtain⟨⟨k2,_⟩,_⟩:=bV.o _ aj;have z20:=k2.cell 0;have z21:=k2.cell 1;have z22:=k2.cell 2;have z23:=k2.cell 3;have z24:=k2.cell 4;clear k2)) | (go_at_call 20;((with_reducible refine(cO _ aj).mono ?_);clear cO;rintro e w3 ⟨rfl,aK⟩;have dF:=aj.trans (aK.mono aj.size);obtain⟨⟨k3,_⟩,_⟩:=bV.o _ dF;have z30:=k3.cell 0;have z31:=k3.cell 1;have z32:=k3.cell 2;have z33:=k3.cell 3;have z34:=k3.cell 4;clear k3)));go_ret
      exact t86
   | false=>
    obtain rfl:r=false:=by rw[HR.o];simp
    exact t28
  ·have d2:decide (n<=65535)=false:=decide_eq_false h2;obtain rfl:r=false:=by rw[HR.o,d2];simp
   exact t111
 ·have d1:decide (n≥1)=false:=decide_eq_false h1;obtain rfl:r=false:=by rw[HR.o,decide_eq_false h1];simp
  exact t111
def Same(n v:Int)(F:List schema.Form)(O B:List Sp)(n' v':Int)(F':List schema.Form)(O' B':List Sp):Prop:=n=n'/\(v=v'/\F=F')/\O=O'/\B=B'
instance (n v:Int) (F:List schema.Form) (O B:List Sp) (n' v':Int) (F':List schema.Form) (O' B':List Sp):Decidable (Same n v F O B n' v' F' O' B'):=by unfold Same;infer_instance
set_option maxRecDepth 20000 in
theorem refSame_any(n v:Int)(fa:Option Addr)(fc:Nat)(F:List Fm)(oa:Option Addr)(oc:Nat)(O:List St)(ba:Option Addr)(bc:Nat)(B:List St)(n' v':Int)(fa':Option Addr)(fc':Nat)(F':List Fm)(oa':Option Addr)(oc':Nat)(O':List St)(ba':Option Addr)(bc':Nat)(B':List St)(w:World)(h:LkM w fa F oa O ba B)(h':LkM w fa' F' oa' O' ba' B'):
  Calls prog 11 #[.agg #[.int .i64 n,.int .i64 v,.slice fa F.length fc,.slice oa O.length oc,.slice ba B.length bc],.agg #[.int .i64 n',.int .i64 v',.slice fa' F'.length fc',.slice oa' O'.length oc',.slice ba' B'.length bc']] w (Gives (.bool (decide (Same n v (forms F) (sps O) (sps B) n' v' (forms F') (sps O') (sps B')))) w):=by
 obtain⟨W0,hW,bW,hsz,bV⟩:=boxes_name w [(27,[.int .i64 n,.int .i64 v,.slice fa F.length fc,.slice oa O.length oc,.slice ba B.length bc]),(27,[.int .i64 n',.int .i64 v',.slice fa' F'.length fc',.slice oa' O'.length oc',.slice ba' B'.length bc'])];simp only[boxes] at hW;have h0:=h.below bW;have jP:=h'.below bW;have cS:=schema.refSame_any v fa fc F v' fa' fc' F' W0 h0.f jP.f h0.lf jP.lf;have cO:=fun w' (hb:Below W0.heap.size W0 w')=>step.refSameList_any oa oc O oa' oc' O' w' (h0.o.below hb) (jP.o.below hb) h0.lo jP.lo
 have cB:=fun w' (hb:Below W0.heap.size W0 w')=>step.refSameList_any ba bc B ba' bc' B' w' (h0.b.below hb) (jP.b.below hb) h0.lb jP.lb
 obtain⟨r,hr⟩:∃r:Bool,Hid (decide (Same n v (forms F) (sps O) (sps B) n' v' (forms F') (sps O') (sps B'))=r):=⟨_,hid rfl⟩;have HR:Hid (r=((n == n') && decide (v=v'/\forms F=forms F') && decide (sps O=sps O') && decide (sps B=sps B'))):=hid (by
  rw[<-hr.o,Bool.eq_iff_iff];simp only[decide_eq_true_eq,Bool.and_eq_true,beq_iff_eq];unfold Same;constructor
  ·rintro⟨a,b,c,d⟩;exact⟨⟨⟨a,b⟩,c⟩,d⟩
  ·rintro⟨⟨⟨a,b⟩,c⟩,d⟩;exact⟨a,b,c,d⟩)
 rw[hr.o];have HBW:=hid bW;have HBL:=hid bW;rw[<-hW.o] at cS HBL;generalize decide (v=v'/\forms F=forms F')=sr at *;generalize decide (sps O=sps O')=so at *;generalize decide (sps B=sps B')=sb at *;unfold Gives at cS cO cB ⊢;clear h h0 h' jP bW hr;by_cases h1:n=n'
 ·have d1:(n == n')=true:=by simp[h1]
  clear h1;cases sr with
  | true=>
   cases so with
   | true=>
    obtain rfl:r=sb:=by rw[HR.o,d1];simp
    go_enter func11,ntmps11;go_wp2_with (first | (go_at_call 34;((with_reducible refine cS.mono ?_);clear cS;rintro e w2 ⟨rfl,aj⟩;rw[hW.o] at aj;obtain⟨⟨k2,j2,_⟩,_⟩:=bV.o _ aj;have z23:=k2.cell 3;have z24:=k2.cell 4;have y23:=j2.cell 3;have y24:=j2.cell 4;clear k2 j2)) | (go_at_call 35;((with_reducible refine(cO _ aj).mono ?_);clear cO;rintro e w3 ⟨rfl,aK⟩;have dF:=aj.trans (aK.mono aj.size);obtain⟨⟨k3,j3,_⟩,_⟩:=bV.o _ dF;have z33:=k3.cell 3;have z34:=k3.cell 4;have y33:=j3.cell 3;have y34:=j3.cell 4;clear k3 j3)) | (go_at_call 35;((with_reducible refine(cB _ dF).mono ?_);clear cB;rintro e w4 ⟨rfl,bY⟩;have kJ:=dF.trans (bY.mono dF.size))));go_ret
    exact t87
   | false=>
    obtain rfl:r=false:=by rw[HR.o];simp
    go_enter func11,ntmps11;go_wp2_with (first | (go_at_call 34;((with_reducible refine cS.mono ?_);clear cS;rintro e w2 ⟨rfl,aj⟩;rw[hW.o] at aj;obtain⟨⟨k2,j2,_⟩,_⟩:=bV.o _ aj;have z23:=k2.cell 3;have z24:=k2.cell 4;have y23:=j2.cell 3;have y24:=j2.cell 4;clear k2 j2)) | (go_at_call 35;((with_reducible refine(cO _ aj).mono ?_);clear cO;rintro e w3 ⟨rfl,aK⟩;have dF:=aj.trans (aK.mono aj.size);obtain⟨⟨k3,j3,_⟩,_⟩:=bV.o _ dF;have z33:=k3.cell 3;have z34:=k3.cell 4;have y33:=j3.cell 3;have y34:=j3.cell 4;clear k3 j3)));go_ret
    exact t86
  | false=>
   obtain rfl:r=false:=by rw[HR.o];simp
   go_enter func11,ntmps11;go_wp2_with (first | (go_at_call 34;((with_reducible refine cS.mono ?_);clear cS;rintro e w2 ⟨rfl,aj⟩;rw[hW.o] at aj;obtain⟨⟨k2,j2,_⟩,_⟩:=bV.o _ aj;have z23:=k2.cell 3;have z24:=k2.cell 4;have y23:=j2.cell 3;have y24:=j2.cell 4;clear k2 j2)))
   exact t134
 ·have d1:(n == n')=false:=by simp[h1]
  clear h1;obtain rfl:r=false:=by rw[HR.o,d1];simp
  go_enter func11,ntmps11;go_wp2;go_ret;exact⟨rfl,HBL.o⟩
set_option maxRecDepth 20000 in
theorem great_any(n v:Int)(fa:Option Addr)(fc:Nat)(F:List Fm)(oa:Option Addr)(oc:Nat)(O:List St)(ba:Option Addr)(bc:Nat)(B:List St)(w:World)(h:LkM w fa F oa O ba B):
  Calls prog 4 #[.agg #[.int .i64 n,.int .i64 v,.slice fa F.length fc,.slice oa O.length oc,.slice ba B.length bc]] w fun e w'=>∃r:Bool,e=.returned (.bool r)/\Below w.heap.size w w':=by
 have hml:(F.length:Int)<=9223372036854775807:=by have:=h.lf;unfold maxLen at this;omega
 obtain⟨W0,hW,bW,hsz,bV⟩:=boxes_name w [(27,[.int .i64 n,.int .i64 v,.slice fa F.length fc,.slice oa O.length oc,.slice ba B.length bc])];simp only[boxes] at hW;have h0:=h.below bW;have cO:=step.great_any oa oc O W0 h0.o h0.lo;have cB:=fun w' (hb:Below W0.heap.size W0 w')=>step.great_any ba bc B w' (h0.b.below hb) h0.lb
 generalize decide (step.GreatL (sps O))=go at *;generalize decide (step.GreatL (sps B))=gb at *;have HF:=hid h0.f;have HBW:=hid bW;unfold Gives at cO cB;clear h h0 bW;go_enter func4,ntmps4;go_wp2;rw[hW.o];go_loopw [3] (fun n wr=>∃k:Nat,k<=F.length/\k<=41/\n=.int .i64 (k:Int)/\W0=wr) (fun n _=>41 - (intOf n).toNat);case atStart=>exact⟨0,Nat.zero_le _,Nat.zero_le _,rfl,rfl⟩
 case round=>
  obtain⟨k,hk,gq,rfl,rfl⟩:=hrel;obtain⟨⟨k0,_⟩,aN⟩:=bV.o _ (Below.refl _ _);have z2:=k0.cell 2;have z3:=k0.cell 3;have z4:=k0.cell 4;clear k0 aN;by_cases h1:k<F.length
  ·by_cases h2:k<41
   ·obtain⟨b,off,p,rfl,bQ,hp,c0,c1,_,jc⟩:=form_at HF.o (Below.refl _ _) h1;have i1:(k:Int)<F.length:=by omega
    have i2:(k:Int)<41:=by omega
    have tH:(p.fL.length:Int)<=9223372036854775807:=by unfold maxLen at jc;omega
    clear hp c0;by_cases h3:40<p.fL.length
    ·have hd:decide ((p.fL.length:Int)>40)=true:=decide_eq_true om_
     exact t102
    ·have hd:decide ((p.fL.length:Int)>40)=false:=decide_eq_false om_;clear h3;go_wp2;exact⟨⟨k+1,by omega,by omega,by go_num,trivial⟩,by simp[intOf];omega⟩
   ·obtain rfl:k=41:=by omega
    have hd:decide ((F.length:Int)>40)=true:=decide_eq_true om_;have i1:(41:Int)<F.length:=by omega
    exact t102
  ·obtain rfl:k=F.length:=by omega
   by_cases h3:40<F.length
   ·have hd:decide ((F.length:Int)>40)=true:=decide_eq_true om_
    exact t102
   ·have hd:decide ((F.length:Int)>40)=false:=decide_eq_false om_;cases go with
    | true=>
     go_wp2_with (first
      | (go_at_call 12;((with_reducible refine cO.mono ?_);clear cO;rintro e w2 ⟨rfl,aj⟩;obtain⟨⟨k1,_⟩,q2⟩:=bV.o _ aj;have y4:=k1.cell 4)))
     go_ret;exact⟨_,rfl,q2⟩
    | false=>
     go_wp2_with (first
      | (go_at_call 12;((with_reducible refine cO.mono ?_);clear cO;rintro e w2 ⟨rfl,aj⟩;obtain⟨⟨k1,_⟩,q2⟩:=bV.o _ aj;have y4:=k1.cell 4))
      | (go_at_call 12;((with_reducible refine(cB _ aj).mono ?_);clear cB;rintro e w3 ⟨rfl,aK⟩)))
     go_ret;exact⟨_,rfl,q2.trans (aK.mono q2.size)⟩
end link
end Go.Proofs.YtogfefdlffmioaaGreat
