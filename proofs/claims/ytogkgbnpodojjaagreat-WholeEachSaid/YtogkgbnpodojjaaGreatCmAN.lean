/- Contracts and lemmas that claims of this seat share: WholeBegin. Each says its own conditions. -/
import Derived.Test.YtogkgbnpodojjaaGreatCmWord
import Derived.Test.YtogkgbnpodojjaaGreatCmE
import Derived.Test.YtogkgbnpodojjaaGreatCmJ
import Derived.Test.YtogkgbnpodojjaaGreatCmU
import Derived.Test.YtogkgbnpodojjaaGreatCmAK
import Derived.Test.YtogkgbnpodojjaaGreatCmAM
import Derived.Test.YtogkgbnpodojjaaGreatCmAH
set_option linter.unusedVariables false
namespace Go.Proofs.YtogkgbnpodojjaaGreat
open Go.Proofs.Tryz
theorem t69{P:Prop}(h:P:=by
 match j,hj with
 | 0,hj=>cases hj;exact (hb2.cell (p:=⟨gb,goff+k*2,none⟩) hgb).trans g0
 | 1,hj=>cases hj;exact (hb2.cell (p:=⟨gb,goff+k*2+1,none⟩) hgb).trans g1):P:=h
theorem t10{P:Prop}(h:P:=by
 have HFO:=hid hfo;have HKO:=hid hok;clear hfo hok cO HC;have hb57:Below wr.heap.size wr w7:=HN.o.trans (HS9.o.mono HN.o.size);have HB57:=hid hb57;have y0:=HZ7.o.cell 0;have y1:=HZ7.o.cell 1;clear hb57;by_cases h0:n=0
 ·subst h0;obtain ⟨_,hv3,_,_⟩:=HKO.o rfl;subst hv3;have HES:=hid (hES rfl);have HPT:=hid hPT;have HX7:=hid (HX.o.later HB57.o);have hN7:=ak w7 (.cells (zS v3 y5 H5.length yc5) 24);have HX8:=hid (HX7.o.later hN7);have HM8:Hid (Lie 2 (phC v3) (w7.alloc (.cells (zS v3 y5 H5.length yc5) 24)) (some ⟨w7.heap.size,0,none⟩) [⟨y5,yc5,H5⟩]):=hid (kP (C:=phC v3) (p:=⟨y5,yc5,H5⟩) (Block.new w7 _ _));have HR8:Hid (∀z∈[(⟨y5,yc5,H5⟩:Ph)],Kept (fun W=>PhR W z) (.slice (some ⟨gb,goff,none⟩) X.length xc) (w7.alloc (.cells (zS v3 y5 H5.length yc5) 24))):=hid (fun z hz=>by rw [List.mem_singleton.1 hz];exact (HK7.o rfl).later hN7);have HN8:Hid (X.length+[(⟨y5,yc5,H5⟩:Ph)].length<=1000000):=hid (by have:=HXL.o;simp only [List.length_singleton];omega);clear hN7 hES hET hPT;walk_nrm;go_wp2_with (at_builtin;refine kU rfl _ _ rfl [⟨y5,yc5,H5⟩] rfl _ _ rfl HX8 HM8 HR8 HN8 ?_;intro v' w' hG _;skip);exact ⟨⟨k+1,X++[⟨y5,yc5,H5⟩],by omega,by go_num,hG,hid (by rw [HPT.o,List.map_append,HXP.o,List.map_singleton,HFO.o]),hid HES.o⟩,by simp [intOf];omega⟩
 ·have HE:=hid (HE0.o n (hET h0) h0);have hne:(((n:Nat):Int) != 0)=true:=by simpa using h0
  have HN0:Hid (((n:Nat):Int)≠0):=hid om_;clear h0 hES hET hPT;walk_nrm;go_wp2;go_ret2;exact yh HE.o HN0.o (HBW.o.trans ((HBR.o.trans (HB57.o.mono HBR.o.size)).mono HBW.o.size))):P:=h
namespace whole
open Go Go.RowKit schema typing
open field (ak)
open item (It Its)
open step (Sp Lists St StL sps mr step_range kE)
theorem xw (w:World) (g o:Nat) (cs:List Value):w.grownBy (w.setCells g o cs) (some g):=by
 have h:=below_setCells (Below.refl (0:Nat) w) (Nat.zero_le g) o cs;refine ⟨h.os,h.tape,h.output,h.size,fun i hi hne=> ?_⟩;have:∀(cs:List Value) (w:World) (o:Nat),(w.setCells g o cs).heap[i]?=w.heap[i]?:=by
  intro cs;induction cs with
  | nil=>intro w o;rfl
  | cons c cs ih=>
   intro w o;show ((w.setCell ⟨g,o,none⟩ c).setCells g (o+1) cs).heap[i]?=_
   rw [ih];exact Below.heap_setCell w ⟨g,o,none⟩ c i (fun e=>hne (by rw [e]))
 exact this cs w o
theorem kG {o:Oper} {a:Act} {w:World} {x y:Operand} {b off len cap i:Nat} (ho:o.op=.indexAddr 58 x y) (hi:i<len) (hx:a.eval x=.slice (some ⟨b,off,none⟩) len cap:=by kernel_rfl) (hy:a.eval y=.int .i64 (i:Int):=by kernel_rfl):
  (execOp a.eval o).run prog w=.ok (.value (.pointer (some ⟨b,off+i*2,none⟩))) w:=by
 exact t37
def yX (v:Int) (F:List schema.Form) (L:List Sp) (n:Nat) (w:World) (e:Ending) (w':World):Prop:=
 ∃(X:List Ph) (u:Value),e=.returned (.tuple #[u,.int .i64 (cZ v F L n)])/\Phs v w X u w'/\(cZ v F L n=0->X.map (fun x=>forms x.F)=path v F L)/\(cZ v F L n≠0->X=[])
theorem yh {v:Int} {F:List schema.Form} {L:List Sp} {n:Nat} {E:Int} {w w':World} (hE:cZ v F L n=E) (h0:E≠0) (hb:Below w.heap.size w w'):yX v F L n w (.returned (.tuple #[.slice none 0 0,.int .i64 E])) w':=by
 subst hE;exact ⟨[],_,rfl,⟨World.ownsRow_nil _ _ _ _,hb,fun p hp=>by cases hp⟩,fun q=>absurd q h0,fun _=>rfl⟩
theorem Ip {v:Int} {F:List schema.Form} {L:List Sp} {n:Nat} {w w':World} {X:List Ph} {u:Value} (hE:cZ v F L n=0) (hX:Phs v w X u w') (hp:X.map (fun x=>forms x.F)=path v F L):yX v F L n w (.returned (.tuple #[u,.int .i64 0])) w':=
 ⟨X,u,by rw [hE],hX,fun _=>hp,fun q=>absurd hE q⟩
theorem xM (v:Int):∀(F:List schema.Form) (L:List Sp) (n:Nat) (s:Sp),L[n]?=some s->path v F (L.take (n+1))=path v F (L.take n)++[(on v (after v F (L.take n)) s).2.1]
 | F,[],n,s,h=>by simp at h
 | F,t :: r,0,s,h=>by simp at h;subst h;rfl
 | F,t :: r,n+1,s,h=>by
  simp only [List.take_succ_cons,path,after,List.cons_append];rw [<-xM v _ r n s (by simpa using h)]
theorem nZ {v:Int} {F:List schema.Form} {L:List Sp} {X:List Ph} {n:Nat} {p:Ph} (h:X.map (fun x=>forms x.F)=path v F L) (hn:n<=L.length) (hp:X[n]?=some p):forms p.F=after v F (L.take n):=by
 have h1:=yO v F L n hn;rw [<-h,List.getElem?_map,hp] at h1;exact Option.some.inj h1
set_option maxRecDepth 20000 in
set_option maxHeartbeats 3200000 in
theorem jI (v:Int) (a:Option Addr) (cc:Nat) (F:List Fm) (la:Option Addr) (lc:Nat) (L:List St) (ia:Option Addr) (ic:Nat) (I:List It) (w:World) (h:FmL w a F) (hF:Small w F) (hl:StL w la L) (hn:L.length<=60) (h40:∀p∈L,p.s.l.length<=40) (hi:I.length<=1000000):
  Calls prog 20 #[zS v a F.length cc,.slice la L.length lc,.slice ia I.length ic] w (yX v (forms F) (sps L) I.length w):=by
 have hml:(L.length:Int)<=60:=by omega
 have hmi:(I.length:Int)<=1000000:=by omega
 have hsl:(sps L).length=L.length:=by unfold sps;simp
 obtain ⟨W0,hW0,bW0,hs0,hB0⟩:=aS w [(24,zS v a F.length cc)];simp only [boxes] at hW0;have cR:=schema.aX v a cc F W0 (h.below bW0) (by have:=hF.1;unfold maxLen;omega);unfold field.Gives at cR;rw [<-hW0.o] at cR;by_cases hR:Right v (forms F)
 ·rw [decide_eq_true hR] at cR;have HE0:Hid (∀n,errs v (forms F) (sps L)=n->n≠0->cZ v (forms F) (sps L) I.length=(n:Nat)):=hid fun n q q0=>by
   unfold cZ;rw [if_neg (by simpa using hR),if_pos (by rw [q];exact q0),q]
  have HE1:Hid (errs v (forms F) (sps L)=0->cZ v (forms F) (sps L) I.length=if I.length*L.length>20000 then 21 else 0):=hid fun q=>by
   unfold cZ;rw [if_neg (by simpa using hR),if_neg (by rw [q];simp),hsl]
  have HL:=hid hl;have HL40:=hid h40;have HARG:Hid (∀w',Below w.heap.size w w'->FmL w' a F/\Small w' F):=hid fun w' hb=>⟨h.below hb,hF.below hb⟩
  have HSL:=hid hsl;clear h hF hl h40 hR hsl;go_enter func20,ntmps20;go_wp2_with (go_at_call 48;((with_reducible refine cR.mono ?_);rintro e w1 ⟨rfl,hb1⟩;rw [hW0.o] at hb1;obtain ⟨⟨k0,_⟩,hbw1⟩:=hB0.o _ hb1;have x0:=k0.cell 0;have x1:=k0.cell 1;have HBW:=hid hbw1;clear k0 hb1 hbw1));have hP1:Phs v w1 [⟨a,cc,F⟩] (.slice (some ⟨w1.heap.size,0,none⟩) 1 1) (w1.alloc (.cells (zS v a F.length cc) 24)):=by
   have hN:=ak w1 (.cells (zS v a F.length cc) 24);refine ⟨⟨rfl,.inr ⟨w1.heap.size,1,_,rfl,Nat.le_refl _,heap_alloc_new w1 _,Nat.le_refl _,by unfold maxLen;omega,rfl,rfl⟩⟩,hN,fun p hp=> ?_⟩;rw [List.mem_singleton.1 hp];exact Gx (w0:=w1) (fun w' hb=>HARG.o w' (HBW.o.trans (hb.mono HBW.o.size))) hN (fun g hg=>by cases hg;exact Nat.le_refl _)
  have HP1:=hid hP1;clear hP1 x0 x1 cR;generalize w1.alloc (.cells (zS v a F.length cc) 24)=w2 at *;go_loopw [8,23] (fun u n wr=>∃(k:Nat) (X:List Ph),k<=L.length/\n=.int .i64 (k:Int)/\Hid (Phs v w1 X u wr)/\Hid (X.map (fun x=>forms x.F)=path v (forms F) ((sps L).take k))/\Hid (errs v (forms F) ((sps L).take k)=0)) (fun _ n _=>L.length - (intOf n).toNat);case atStart=>exact ⟨0,_,Nat.zero_le _,rfl,HP1,hid rfl,hid rfl⟩
  case round=>
   obtain ⟨k,X,hk,rfl,HX,HXP,HOK⟩:=hrel;have HBR:=hid HX.o.low;have hXl:X.length=k+1:=by
    have:=congrArg List.length HXP.o;rw [List.length_map,fM,List.length_take,HSL.o] at this;omega
   obtain ⟨xa,xc,rfl,hXL,hxc,_⟩:=HX.o.form (tH v) om_;by_cases hlt:k<L.length
   ·obtain ⟨b,off,p,rfl,hbl,hp,hls,z0,z1,z2,z3,z4,z5,z6,z7,z8,z9,z10,z11,z12,z13,z14,z15⟩:=mr HL.o (HBW.o.trans (HBR.o.mono HBW.o.size)) hlt;have i1:(k:Int)<L.length:=by omega
    have hps:(sps L)[k]?=some p.s:=by unfold sps;rw [List.getElem?_map,hp];rfl
    obtain ⟨gb,goff,ph,rfl,hgb,hph,g0,g1⟩:=rY hXL (Below.refl _ _) (k:=k) om_;have hpf:forms ph.F=after v (forms F) ((sps L).take k):=by
     have h1:=yO v (forms F) ((sps L).take k) k (by rw [List.length_take,HSL.o];omega);rw [<-HXP.o,List.getElem?_map,hph,List.take_take,Nat.min_self] at h1;exact Option.some.inj h1
    have hphR:PhR wr ph:=(HX.o.each ph (List.mem_of_getElem? hph)).now;have hN:=ak wr (.cells (zP p.s p.ta p.tc p.la p.lc) 57);obtain ⟨W5,hW5⟩:∃x,Hid (wr.alloc (.cells (zP p.s p.ta p.tc p.la p.lc) 57)=x):=⟨_,hid rfl⟩;have hkS:Block W5 wr.heap.size 57 (zP p.s p.ta p.tc p.la p.lc):=by rw [<-hW5.o];exact Block.new wr _ _
    rw [hW5.o] at hN;have HC:Hid (∀w',Below W5.heap.size W5 w'->PhR w' ph/\Lists w' p.s p.ta p.la/\w'.rangeAt gb (goff+k*2) (zS v ph.a ph.F.length ph.c)/\w'.rangeAt wr.heap.size 0 (zP p.s p.ta p.tc p.la p.lc)):=hid fun w' hb=>by
     have hb2:=hN.trans (hb.mono hN.size);refine ⟨hphR.below hb2,hls.below hb2,fun j v hj=> ?_,(hkS.later hb).whole⟩
     exact t69
    have HHL:=hid (HL40.o p (List.mem_of_getElem? hp));have cO:=fun (w':World) (hb:Below W5.heap.size W5 w')=>on_any v ph.a ph.c ph.F p.s p.ta p.tc p.la p.lc w' (HC.o _ hb).1.1 (HC.o _ hb).1.2 (HC.o _ hb).2.1 HHL.o
    have hok:=fun h0=>jw (v:=v) (F:=forms ph.F) (s:=p.s) h0
    have HPS:=hid hps;have HPF:=hid hpf;have HLT:Hid (k<X.length):=hid om_;have HXL:=hid hXl;have HGO:Hid (∀gg,(Value.slice (some ⟨gb,goff,none⟩) X.length xc).ownBlock=some gg->gg<wr.heap.size):=hid fun gg hg=>(World.ownsRow.lt HX.o.own gg hg).2
    have hET:=fun h=>wY v (forms F) (sps L) k p.s HOK.o HPS.o h
    have hES:=fun h=>Ef v (forms F) (sps L) k p.s HOK.o HPS.o h
    have hPT:=xM v (forms F) (sps L) k p.s HPS.o;rw [<-HPF.o] at hET hES hPT;obtain ⟨r,hr⟩:∃r,on v (forms ph.F) p.s=r:=⟨_,rfl⟩;simp only [hr] at cO hok hET hES hPT;obtain ⟨v3,P,n⟩:=r;simp only at hok hET hES hPT;unfold lH at cO;have HN:=hid hN;clear hls hp hps hgb hph g0 g1 hpf hphR hkS hN hXL hXl hr hxc;go_wp2;rw [hW5.o];refine plan.bU (S:=fun w'=>Below W5.heap.size W5 w') ?_;have hS:Below W5.heap.size W5 W5.drew:=below_drewN (Below.refl _ _) 1;generalize W5.drew=wd at *;refine plan.af 0 _ (.slice (some ⟨gb,goff,none⟩) X.length xc) rfl (fun w' hS'=>kr_) hS ?_;refine plan.af 1 _ (.int .i64 (k:Int)) rfl (fun w' hS'=>kr_) hS ?_;refine plan.af 2 _ (.pointer (some ⟨gb,goff+k*2,none⟩)) rfl (fun w' hS'=>kG (b:=gb) (off:=goff) (len:=X.length) (cap:=xc) (i:=k) rfl HLT.o) hS ?_;refine plan.af 3 _ (zS v ph.a ph.F.length ph.c) rfl (fun w' hS'=>ax (b:=gb) (off:=goff+k*2) rfl (HC.o _ hS').2.2.1 underlying24 rfl jR.o) hS ?_;refine plan.af 4 _ (zP p.s p.ta p.tc p.la p.lc) rfl (fun w' hS'=>ax (b:=wr.heap.size) (off:=0) rfl (HC.o _ hS').2.2.2 underlying57 rfl qg.o) hS ?_;refine uj 5 9 ?_ ?_
    ·refine ⟨_,rfl,rfl,.inr ⟨49,#[zS v ph.a ph.F.length ph.c,zP p.s p.ta p.tc p.la p.lc],kr_,(cO wd hS).mono ?_⟩⟩;rintro e w5 ⟨y5,yc5,H5,rfl,hH,hfo,hfar,hb5⟩;have hS5:Below W5.heap.size W5 w5:=hS.trans (hb5.mono hS.size);refine ⟨_,rfl,hS5, ?_⟩;refine plan.af 6 _ (.tuple #[zS v3 y5 H5.length yc5,.int .i64 (n:Nat)]) rfl (fun w' hS'=>kr_) hS5 ?_;refine plan.af 7 _ (zS v3 y5 H5.length yc5) rfl (fun w' hS'=>kr_) hS5 ?_;refine plan.af 8 _ (.int .i64 (n:Nat)) rfl (fun w' hS'=>kr_) hS5 ?_;have hZ:=Block.new w5 24 [.int .i64 0,.slice none 0 0];have hS8:Below W5.heap.size W5 (w5.alloc (.cells #[.int .i64 0,.slice none 0 0] 24)):=hS5.alloc hS5.size _;refine plan.dZ (w1:=w5.alloc (.cells #[.int .i64 0,.slice none 0 0] 24)) 9 _ (.pointer (some ⟨w5.heap.size,0,none⟩)) rfl rfl hS8 ?_;have hN5:=field.ak w5 (.cells #[.int .i64 0,.slice none 0 0] 24);have hz5:=hS5.size;obtain ⟨w6,hw6⟩:∃x,x=w5.alloc (.cells #[.int .i64 0,.slice none 0 0] 24):=⟨_,rfl⟩;rw [<-hw6] at hS8 hZ hN5 ⊢;obtain ⟨g,hg⟩:∃x,x=w5.heap.size:=⟨_,rfl⟩;rw [<-hg] at hZ hz5 ⊢;have hS9:Below W5.heap.size W5 (w6.setCells g 0 (zS v3 y5 H5.length yc5)):=below_setCells hS8 hz5 0 _;refine plan.thenS (w1:=w6.setCells g 0 (zS v3 y5 H5.length yc5)) 10 _ rfl rfl rfl (plan.gK (cells:=(zS v3 y5 H5.length yc5)) rfl hZ rfl jR.o (by simp [Value.oneCell'])) hS9 ?_;have hZ7:Block (w6.setCells g 0 (zS v3 y5 H5.length yc5)) g 24 (zS v3 y5 H5.length yc5):=by have:=hZ.setCells (vs:=(zS v3 y5 H5.length yc5)) (o:=0);rwa [dS _ _ si_] at this
     have hN7:Below w5.heap.size w5 (w6.setCells g 0 (zS v3 y5 H5.length yc5)):=below_setCells hN5 (Nat.le_of_eq hg.symm) 0 _;have hv5:∀gg,(Value.slice (some ⟨gb,goff,none⟩) X.length xc).ownBlock=some gg->gg<wd.heap.size:=fun gg hg=>Nat.lt_of_lt_of_le (HGO.o gg hg) (Nat.le_trans HN.o.size hS.size)
     have HK7:Hid (n=0->Kept (fun W=>PhR W ⟨y5,yc5,H5⟩) (.slice (some ⟨gb,goff,none⟩) X.length xc) (w6.setCells g 0 (zS v3 y5 H5.length yc5))):=hid fun q=>by
      have hs:=sG (hH.below hN7) (v:=v) (by rw [hfo];exact (hok q).2.2.1);exact zC (hH.below hN7) ⟨hs.1,fun r hr=>(hs.2 r hr).2⟩ hfar hv5
     clear hv5 hH hfar hb5;generalize w6.setCells g 0 (zS v3 y5 H5.length yc5)=w7 at *;refine plan.dZ (w1:=w7) 11 _ (.int .i64 (n:Nat)) rfl rfl hS9 ?_;refine plan.gI ?_;have HS9:=hid hS9;have HZ7:=hid hZ7;clear hw6 hg hZ hZ7 hN5 hN7 hz5 hS8 hS9 hS5 hS
     exact t10
    ·refine ⟨_,rfl,rfl,.inl ⟨.pointer (some ⟨wd.heap.size,0,none⟩),wd.alloc (.cells #[.int .i64 0,.slice none 0 0] 24),kr_,(hS.alloc hS.size _), ?_⟩⟩;have hSa:Below W5.heap.size W5 (wd.alloc (.cells #[.int .i64 0,.slice none 0 0] 24)):=hS.alloc hS.size _;have hZ0:=Block.new wd 24 [.int .i64 0,.slice none 0 0];have hza:(wd.alloc (.cells #[.int .i64 0,.slice none 0 0] 24)).heap.size=wd.heap.size+1:=by simp
     obtain ⟨wa,hwa⟩:∃x,x=wd.alloc (.cells #[.int .i64 0,.slice none 0 0] 24):=⟨_,rfl⟩;rw [<-hwa] at hSa hZ0 hza ⊢;refine plan.dY 5 _ 49 #[zS v ph.a ph.F.length ph.c,zP p.s p.ta p.tc p.la p.lc] rfl ((cO wa hSa).mono ?_);rintro e w5 ⟨y5,yc5,H5,rfl,hH,hfo,hfar,hb5⟩;have hS8:Below W5.heap.size W5 w5:=hSa.trans (hb5.mono hSa.size);refine ⟨_,rfl,hS8, ?_⟩;refine plan.af 6 _ (.tuple #[zS v3 y5 H5.length yc5,.int .i64 (n:Nat)]) rfl (fun w' hS'=>kr_) hS8 ?_;refine plan.af 7 _ (zS v3 y5 H5.length yc5) rfl (fun w' hS'=>kr_) hS8 ?_;refine plan.af 8 _ (.int .i64 (n:Nat)) rfl (fun w' hS'=>kr_) hS8 ?_;have hZ:=hZ0.later hb5;have hz5:=hS.size;obtain ⟨g,hg⟩:∃x,x=wd.heap.size:=⟨_,rfl⟩;rw [<-hg] at hZ hz5 hza ⊢;have hS9:Below W5.heap.size W5 (w5.setCells g 0 (zS v3 y5 H5.length yc5)):=below_setCells hS8 hz5 0 _;refine plan.thenS (w1:=w5.setCells g 0 (zS v3 y5 H5.length yc5)) 10 _ rfl rfl rfl (plan.gK (cells:=(zS v3 y5 H5.length yc5)) rfl hZ rfl jR.o (by simp [Value.oneCell'])) hS9 ?_;have hZ7:Block (w5.setCells g 0 (zS v3 y5 H5.length yc5)) g 24 (zS v3 y5 H5.length yc5):=by have:=hZ.setCells (vs:=(zS v3 y5 H5.length yc5)) (o:=0);rwa [dS _ _ si_] at this
     have hv5:∀gg,(Value.slice (some ⟨gb,goff,none⟩) X.length xc).ownBlock=some gg->gg<wa.heap.size:=fun gg hg=>Nat.lt_of_lt_of_le (HGO.o gg hg) (Nat.le_trans HN.o.size hSa.size)
     have HK7:Hid (n=0->Kept (fun W=>PhR W ⟨y5,yc5,H5⟩) (.slice (some ⟨gb,goff,none⟩) X.length xc) (w5.setCells g 0 (zS v3 y5 H5.length yc5))):=hid fun q=>by
      have hf7:FmL (w5.setCells g 0 (zS v3 y5 H5.length yc5)) y5 H5:=zO (v:=.slice (some ⟨g,0,none⟩) 0 0) hH (fun y hy e=>by have h1:=hfar.1 y hy;have h2:y.block=g:=Option.some.inj e;omega) (fun r hr y hy e=>by have h1:=hfar.2 r hr y hy;have h2:y.block=g:=Option.some.inj e;omega) _ (xw w5 g 0 _);have hs:=sG hf7 (v:=v) (by rw [hfo];exact (hok q).2.2.1);exact zC hf7 ⟨hs.1,fun r hr=>(hs.2 r hr).2⟩ hfar hv5
     clear hv5 hH hfar hb5;generalize w5.setCells g 0 (zS v3 y5 H5.length yc5)=w7 at *;refine plan.dZ (w1:=w7) 11 _ (.int .i64 (n:Nat)) rfl rfl hS9 ?_;refine plan.gI ?_;have HS9:=hid hS9;have HZ7:=hid hZ7;clear hwa hg hZ hZ0 hZ7 hza hz5 hS8 hS9 hSa hS
     exact t10
   ·obtain rfl:k=L.length:=by omega
    clear hXl;have hok2:=HOK.o;have hxp2:=HXP.o;rw [List.take_of_length_le (by rw [HSL.o];exact Nat.le_refl _)] at hok2 hxp2;have hE:=HE1.o hok2;have HXP2:=hid hxp2;obtain ⟨N,hN⟩:∃N:Nat,I.length*L.length=N:=⟨_,rfl⟩;have hNi:(I.length:Int)*(L.length:Int)=(N:Int):=by rw [<-hN];exact (Int.natCast_mul _ _).symm
    have hNb:N<=60000000:=by rw [<-hN];exact Nat.le_trans (Nat.mul_le_mul hi hn) de_
    have hNz:(N:Int)<=60000000:=by omega
    rw [hN] at hE;clear hN hNb;by_cases hbig:N>20000
    ·rw [if_pos hbig] at hE;have HE:=hid hE;have d2:((N:Int)>20000):=by omega
     have d1:decide ((N:Int)>20000)=true:=decide_eq_true d2;clear hok2 hxp2 hE hbig;go_wp2;go_ret2;exact yh HE.o de_ (HBW.o.trans (HBR.o.mono HBW.o.size))
    ·rw [if_neg hbig] at hE;have HE:=hid hE;have d2:¬((N:Int)>20000):=by omega
     have d1:decide ((N:Int)>20000)=false:=decide_eq_false d2;clear hok2 hxp2 hE hbig;go_wp2;go_ret2;exact Ip HE.o (HX.o.of HBW.o) HXP2.o
 ·rw [decide_eq_false hR] at cR;have HE:Hid (cZ v (forms F) (sps L) I.length=2):=hid (by unfold cZ;rw [if_pos hR]);clear h hF hl h40 hR hsl;go_enter func20,ntmps20;go_wp2_with (go_at_call 48;((with_reducible refine cR.mono ?_);rintro e w1 ⟨rfl,hb1⟩;rw [hW0.o] at hb1;obtain ⟨_,hbw1⟩:=hB0.o _ hb1;have HBW:=hid hbw1;clear hb1 hbw1));go_ret2;exact yh HE.o de_ HBW.o
end whole
end Go.Proofs.YtogkgbnpodojjaaGreat
