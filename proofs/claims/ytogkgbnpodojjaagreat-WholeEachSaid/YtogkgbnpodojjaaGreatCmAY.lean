/- Contracts and lemmas that claims of this seat share: WholeOnP, WholeAwake, WholeGreat, WholeLawEach. Each says its own conditions. -/
import Derived.Test.YtogkgbnpodojjaaGreatCmWord
import Derived.Test.YtogkgbnpodojjaaGreatCmA
import Derived.Test.YtogkgbnpodojjaaGreatCmF
import Derived.Test.YtogkgbnpodojjaaGreatCmAE
import Derived.Test.YtogkgbnpodojjaaGreatCmAJ
import Derived.Test.YtogkgbnpodojjaaGreatCmAK
import Derived.Test.YtogkgbnpodojjaaGreatCmAU
import Derived.Test.YtogkgbnpodojjaaGreatCmAX
set_option linter.unusedVariables false
namespace Go.Proofs.YtogkgbnpodojjaaGreat
open Go.Proofs.Tryz
namespace whole
open Go Go.RowKit schema typing turn
open field (Va ak)
open step (Sp St StL sps)
open item (It Its bK itC)
theorem I8 {v j:Int}:∀ {n:Nat} {F:List schema.Form} {L:List Sp} {V:List Va},(up v j n F L V).1.length<=L.length
 | _,_,[],_=>by unfold up;simp
 | n,F,s :: r,V=>by
  have ih:=I8 (v:=v) (j:=j) (n:=n+1) (F:=(on v F s).2.1) (L:=r) (V:=(onR v F s j V).V);unfold up;split
  ·simp
  ·simp only [List.length_append,List.length_cons];split <;> simp <;> omega
theorem rD {v:Int} {F:List schema.Form} {L:List Sp} {e:Ent}:(applied v F L e).length<=L.length+1:=by
 have h:=I8 (v:=v) (j:=aK e.1) (n:=0) (F:=F) (L:=L) (V:=e.2);unfold applied;rw [List.length_append,List.length_map];split <;> simp <;> omega
noncomputable def made (v:Int) (F:List schema.Form) (L:List Sp) (E:List Ent):List It:=E.flatMap (applied v F L)
theorem Ai {v:Int} {F:List schema.Form} {L:List Sp}:∀E:List Ent,(made v F L E).length<=E.length*(L.length+1)
 | []=>by simp [made]
 | e :: E=>by
  have h:=Ai (v:=v) (F:=F) (L:=L) E;have h2:=rD (v:=v) (F:=F) (L:=L) (e:=e);unfold made at h ⊢;rw [List.flatMap_cons,List.length_append,List.length_cons,Nat.succ_mul];omega
def OnP (v:Int) (F:List schema.Form) (L:List Sp) (I:List It) (w:World) (e:Ending) (w':World):Prop:=
 ∃(M:List It) (u:Value) (E:Int),e=.returned (.tuple #[u,.int .i64 E])/\IRow w M u w'/\(E≠0->M=[])/\(cZ v F L I.length≠0->E=cZ v F L I.length)/\(cZ v F L I.length=0->¬(Fits v F I/\(bK I).length=I.length)->E=12)/\
  (cZ v F L I.length=0->Fits v F I->(bK I).length=I.length->E=0/\M.Perm (made v F L ((bK I).map (ent F)))/\M.Pairwise (fun a b=>a.key<=b.key))
theorem OnP.no {v:Int} {F:List schema.Form} {L:List Sp} {I:List It} {w w':World} {E:Int} (h0:E≠0) (h1:cZ v F L I.length≠0->E=cZ v F L I.length) (h2:cZ v F L I.length=0->¬(Fits v F I/\(bK I).length=I.length)/\E=12) (hb:Below w.heap.size w w'):OnP v F L I w (.returned (.tuple #[.slice none 0 0,.int .i64 E])) w':=
 ⟨[],_,E,rfl,⟨World.ownsRow_nil _ _ _ _,hb,fun p hp=>by cases hp⟩,fun _=>rfl,h1,fun q _=>(h2 q).2,fun q h3 h4=>absurd ⟨h3,h4⟩ (h2 q).1⟩
theorem OnP.yes {v:Int} {F:List schema.Form} {L:List Sp} {I:List It} {w w':World} {M:List It} {u:Value} (h0:cZ v F L I.length=0) (h1:Fits v F I) (h2:(bK I).length=I.length) (hM:IRow w M u w') (hp:M.Perm (made v F L ((bK I).map (ent F)))) (hs:M.Pairwise (fun a b=>a.key<=b.key)):OnP v F L I w (.returned (.tuple #[u,.int .i64 0])) w':=
 ⟨M,u,0,rfl,hM,fun q=>absurd rfl q,fun q=>absurd h0 q,fun _ q=>absurd ⟨h1,h2⟩ q,fun _ _ _=>⟨rfl,hp,hs⟩⟩
set_option maxRecDepth 20000 in
set_option maxHeartbeats 6400000 in
theorem IY (v:Int) (a:Option Addr) (cc:Nat) (F:List Fm) (la:Option Addr) (lc:Nat) (L:List St) (ia:Option Addr) (ic:Nat) (I:List It) (w:World) (hA:ArgOk w a F la L ia I):
  Calls prog 9 #[zS v a F.length cc,.slice la L.length lc,.slice ia I.length ic] w (OnP v (forms F) (sps L) I w):=by
 have hml:(L.length:Int)<=60:=by have:=hA.len;omega
 have hsl:(sps L).length=L.length:=by unfold sps;simp
 obtain ⟨W0,hW0,bW0,hs0,hB0⟩:=aS w [(24,zS v a F.length cc)];simp only [boxes] at hW0;have HARG:Hid (∀w',Below w.heap.size w w'->ArgOk w' a F la L ia I):=hid fun w' hb=>hA.below hb
 have HBW:=hid bW0;have cBg:=jI v a cc F la lc L ia ic I W0 (HARG.o W0 bW0).fml (HARG.o W0 bW0).small (HARG.o W0 bW0).stl hA.len hA.flds (by have:=hA.few;omega);rw [<-hW0.o] at cBg;have HSL:=hid hsl;obtain ⟨BE,hBE⟩:∃BE,cZ v (forms F) (sps L) I.length=BE:=⟨_,rfl⟩;unfold yX at cBg;rw [hBE] at cBg;by_cases hb0:BE=0
 ·subst hb0;obtain ⟨hRt,hOk,hW⟩:=zi hBE;have cB1:Calls prog 20 #[zS v a F.length cc,.slice la L.length lc,.slice ia I.length ic] (w.alloc (.cells (zS v a F.length cc) 24)) fun e w'=>∃(P:List Ph) (pa:Option Addr) (pc:Nat),e=.returned (.tuple #[.slice pa (L.length+1) pc,.int .i64 0])/\Lie 2 (phC v) w' pa P/\(∀x∈P,PhR w' x)/\P.map (fun x=>forms x.F)=path v (forms F) (sps L)/\Below W0.heap.size W0 w':=by
   exact t39
  have HOK:=hid hOk;have HRT:=hid hRt;have HBE:=hid hBE;have hI60:=hA.few;have HKEY:=hid hA.keys;have HFLD:=hid hA.flds;have cRd:=fun (W:World) (hb:Below w.heap.size w W)=>AB v a cc F ia ic I W (HARG.o W hb).fml (HARG.o W hb).small (HARG.o W hb).its om_ HKEY.o
  unfold qJ at cRd;have hmi:(I.length:Int)<=60:=by omega
  clear cBg hRt hOk hW hBE hA bW0 hsl;by_cases hfit:Fits v (forms F) I
  ·have hdf:decide (Fits v (forms F) I)=true:=decide_eq_true hfit;obtain ⟨E0,hE0⟩:∃E0,(bK I).map (ent (forms F))=E0:=⟨_,rfl⟩;have hEl:E0.length=(bK I).length:=by rw [<-hE0,List.length_map]
   have hml2:(bK I).length<=I.length:=List.length_filter_le ..;have HEO:Hid (pG (forms F) E0):=hid (by rw [<-hE0];exact FU hfit);have cRy:∀(W:World),Below w.heap.size w W->Calls prog 21 #[zS v a F.length cc,.slice ia I.length ic] W fun e w'=>∃(X:List En) (xa:Option Addr) (xc:Nat),e=.returned (.tuple #[.slice xa X.length xc,.bool true])/\Lie 3 enC w' xa X/\(∀x∈X,EnR w' x)/\X.map En.p=E0/\Below W.heap.size W w':=by
    intro W hb;refine (cRd W hb).mono ?_;rintro e w' ⟨X,u,rfl,hX,hXp,_⟩
    exact t75
   have HFIT:=hid hfit;have HE0:=hid hE0;have HCR:=hid cRy;by_cases hall:(bK I).length=I.length
   ·have hel:E0.length=I.length:=by omega
    have HALL:=hid hall;have HEL:=hid hel;clear hfit hdf hE0 hEl hml2 cRy cRd hall hel;go_enter func9,ntmps9;go_wp2_with (first
     | (go_at_call 20;((with_reducible refine cB1.mono ?_);rintro e w1 ⟨P,pa,pc,rfl,hPL,hPR,hPP,hb1⟩;have hbw1:=HBW.o.trans (hb1.mono HBW.o.size);obtain ⟨⟨k0,_⟩,_⟩:=hB0.o _ hb1;have x0:=k0.cell 0;have x1:=k0.cell 1;have cR1:=HCR.o w1 hbw1;have HPL:=hid hPL;have HPR:=hid hPR;have HPP:=hid hPP;have HBW1:=hid hbw1;clear hPL hPR hPP k0 hbw1 hb1))
     | (go_at_call 21;((with_reducible refine cR1.mono ?_);rintro e w2 ⟨X,xa,xc,rfl,hXL,hXR,hXP,hb2⟩;have hxl:X.length=I.length:=(by have:=congrArg List.length hXP;rw [List.length_map] at this;rw [this];exact HEL.o);have HXN:=hid hxl;have i1:¬((X.length:Int)<(I.length:Int)):=om_;have d1:decide ((X.length:Int)<(I.length:Int))=false:=decide_eq_false i1;have i3:¬(X.length<I.length):=om_;have d3:decide (X.length<I.length)=false:=decide_eq_false i3;have HBW2:=hid (HBW1.o.trans (hb2.mono HBW1.o.size));have HP2:Hid (Lie 2 (phC v) w2 pa P/\∀x∈P,PhR w2 x):=hid ⟨HPL.o.below hb2,fun x hx=>(HPR.o x hx).below hb2⟩;have HX2:Hid (Lie 3 enC w2 xa X/\∀x∈X,EnR w2 x):=hid ⟨hXL,hXR⟩;have HXP:=hid hXP;clear hb2 hXL hXR hXP hxl)))
    have hxi:(X.length:Int)<=60:=by have:=HXN.o;omega
    go_loopw [12,42] (fun u n wr=>∃(k:Nat),k<=X.length/\n=.int .i64 (k:Int)/\Hid (IRow w2 (made v (forms F) (sps L) ((X.take k).map En.p)) u wr)) (fun _ n _=>X.length - (intOf n).toNat);case atStart=>exact ⟨0,Nat.zero_le _,rfl,hid (Gath.nil w2)⟩
    case round=>
     obtain ⟨k,hk,rfl,HR⟩:=hrel;obtain ⟨M,hM⟩:∃M,made v (forms F) (sps L) ((X.take k).map En.p)=M:=⟨_,rfl⟩;rw [hM] at HR;have hMl:M.length<=3660:=by
      rw [<-hM];refine Nat.le_trans (Ai _) ?_;rw [List.length_map,List.length_take,HSL.o];exact Nat.le_trans (Nat.mul_le_mul (show min k X.length<=60 by omega) (show L.length+1<=61 by omega)) de_
     have HM:=hid hM;have HML:=hid hMl;obtain ⟨ua,uc,hu,_⟩:=HR.o.form iV om_;subst hu;have hbq:=HR.o.low;have hbwq:=HBW2.o.trans (hbq.mono HBW2.o.size);by_cases hlk:k<X.length
     ·obtain ⟨b,off,x,rfl,hbl,hp,c0,c1,c2⟩:=FT HX2.o.1 hbq hlk;have i2:(k:Int)<X.length:=by omega
      have hm:=List.mem_of_getElem? hp;obtain ⟨hk1,hk2⟩:=HEO.o x.p (by rw [<-HXP.o];exact List.mem_map_of_mem hm);obtain ⟨W5,hW5,bW5,hs5,hB5⟩:=aS wr [(68,[.int .u32 (x.key:Nat),.int .i64 (aK x.key),.slice x.a x.V.length x.c])];simp only [boxes] at hW5;have hbw5:=hbwq.trans (bW5.mono hbwq.size);have hbq5:=hbq.trans (bW5.mono hbq.size);have cA:=kC v (forms F) pa pc P la lc L x W5 (HP2.o.1.below hbq5) (fun z hz=>(HP2.o.2 z hz).below hbq5) HPP.o (HARG.o _ hbw5).stl (HARG.o _ hbw5).len HFLD.o ((HX2.o.2 x hm).below hbq5) hk1 HOK.o HRT.o hk2;have hal:=rD (v:=v) (F:=forms F) (L:=sps L) (e:=x.p);rw [HSL.o] at hal;have htk:made v (forms F) (sps L) ((X.take (k+1)).map En.p)=M++applied v (forms F) (sps L) x.p:=by
       rw [item.aH hp,List.map_append,<-hM];unfold made;rw [List.flatMap_append,List.map_singleton,List.flatMap_singleton]
      have HTK:=hid htk;obtain ⟨AM,hAM⟩:∃AM,applied v (forms F) (sps L) x.p=AM:=⟨_,rfl⟩;rw [hAM] at cA hal HTK;unfold JG at cA;have HR5:=hid (HR.o.later bW5);have HN9:Hid (M.length+AM.length<=1000000):=hid (by have:=HML.o;omega);obtain ⟨fk,hfk⟩:∃fk,aK x.key=fk:=⟨_,rfl⟩;rw [hfk] at hW5 cA c1;rw [<-hW5.o] at cA;clear hp hm hbq hbwq hbw5 hbq5 hk1 hk2 hal htk hAM hM hMl hfk hlk;go_wp2_with (first
       | (go_at_call 22;((with_reducible refine cA.mono ?_);rintro e w6 ⟨u6,rfl,hu6⟩;rw [hW5.o] at hu6;obtain ⟨ma,mc,rfl,hmL,_⟩:=hu6.form iV om_;have HR6:=hid (HR5.o.later hu6.low);have HM6:=hid (jG hmL);clear hu6 hmL))
       | (at_builtin;refine iK rfl _ _ rfl AM rfl _ _ rfl HR6 HM6 HN9 ?_;intro v' w' hG _;skip))
      exact ⟨⟨k+1,by omega,by go_num,hid (by rw [HTK.o];exact hG.o)⟩,by simp [intOf];omega⟩
     ·obtain rfl:k=X.length:=by omega
      have HAT:Hid (M=made v (forms F) (sps L) E0):=hid (by rw [<-HM.o,List.take_of_length_le (Nat.le_refl _),HXP.o]);have cSo:=EX HR.o om_;unfold FC at cSo;clear hbq hbwq hM hMl hlk;go_wp2_with (go_at_call 23;((with_reducible refine cSo.mono ?_);rintro e w6 ⟨rfl,N,hN1,hN2,hN3⟩;have HN1:=hid hN1;have HN2:=hid hN2;have HN3:=hid hN3;clear hN1 hN2 hN3 cSo));go_ret2;exact OnP.yes HBE.o HFIT.o HALL.o (HN3.o.of HBW2.o) (by rw [HE0.o,<-HAT.o];exact HN1.o) HN2.o
   ·have hel:E0.length<I.length:=by omega
    have HALL:=hid hall;have HEL:=hid hel;clear hfit hdf hE0 hEl hml2 cRy cRd hall hel;go_enter func9,ntmps9;go_wp2_with (first
     | (go_at_call 20;((with_reducible refine cB1.mono ?_);rintro e w1 ⟨P,pa,pc,rfl,_,_,_,hb1⟩;have hbw1:=HBW.o.trans (hb1.mono HBW.o.size);obtain ⟨⟨k0,_⟩,_⟩:=hB0.o _ hb1;have x0:=k0.cell 0;have x1:=k0.cell 1;have cR1:=HCR.o w1 hbw1;have HBW1:=hid hbw1;clear k0 hbw1 hb1))
     | (go_at_call 21;((with_reducible refine cR1.mono ?_);rintro e w2 ⟨X,xa,xc,rfl,hXL,hXR,hXP,hb2⟩;have hxl:X.length<I.length:=(by have:=congrArg List.length hXP;rw [List.length_map] at this;rw [this];exact HEL.o);have i1:((X.length:Int)<(I.length:Int)):=om_;have d1:decide ((X.length:Int)<(I.length:Int))=true:=decide_eq_true i1;have i3:X.length<I.length:=hxl;have d3:decide (X.length<I.length)=true:=decide_eq_true i3;have HBW2:=hid (HBW1.o.trans (hb2.mono HBW1.o.size));clear hb2 hXL hXR hXP hxl)))
    go_ret2;exact OnP.no de_ (fun q=>absurd HBE.o q) (fun _=>⟨fun q=>HALL.o q.2,rfl⟩) HBW2.o
  ·have hdf:decide (Fits v (forms F) I)=false:=decide_eq_false hfit;have cRy:∀(W:World),Below w.heap.size w W->Calls prog 21 #[zS v a F.length cc,.slice ia I.length ic] W fun e w'=>∃u,e=.returned (.tuple #[u,.bool false])/\Below W.heap.size W w':=by
    intro W hb;refine (cRd W hb).mono ?_;rintro e w' ⟨X,u,rfl,hX,_,_⟩;rw [hdf];exact ⟨u,rfl,hX.low⟩
   have HFIT:=hid hfit;have HCR:=hid cRy;clear hfit hdf cRy cRd;go_enter func9,ntmps9;go_wp2_with (first
    | (go_at_call 20;((with_reducible refine cB1.mono ?_);rintro e w1 ⟨P,pa,pc,rfl,_,_,_,hb1⟩;have hbw1:=HBW.o.trans (hb1.mono HBW.o.size);obtain ⟨⟨k0,_⟩,_⟩:=hB0.o _ hb1;have x0:=k0.cell 0;have x1:=k0.cell 1;have cR1:=HCR.o w1 hbw1;have HBW1:=hid hbw1;clear k0 hbw1 hb1))
    | (go_at_call 21;((with_reducible refine cR1.mono ?_);rintro e w2 ⟨xu,rfl,hb2⟩;have HBW2:=hid (HBW1.o.trans (hb2.mono HBW1.o.size));clear hb2)))
   go_ret2;exact OnP.no de_ (fun q=>absurd HBE.o q) (fun _=>⟨fun q=>HFIT.o q.1,rfl⟩) HBW2.o
 ·have cB1:=cBg.mono (R':=fun e w'=>∃u,e=.returned (.tuple #[u,.int .i64 BE])/\Below W0.heap.size W0 w') (fun e w' ⟨P,u,he,hG,_,_⟩=>⟨u,he,by rw [hW0.o] at hG;exact hG.low⟩);have HBE:=hid hBE;have HB0':=hid hb0;have hne:(BE != 0)=true:=by simpa using hb0
  clear cBg hb0 hBE hA bW0 hsl;go_enter func9,ntmps9;go_wp2_with (go_at_call 20;((with_reducible refine cB1.mono ?_);rintro e w1 ⟨u,rfl,hb1⟩;have HB1:=hid (HBW.o.trans (hb1.mono HBW.o.size));clear hb1));go_ret2;exact OnP.no HB0'.o (fun _=>HBE.o.symm) (fun q=>absurd (HBE.o.symm.trans q) HB0'.o) HB1.o
end whole
namespace whole
open Go Go.RowKit schema typing turn
open field (Va ak bytesOf)
open step (Sp St StL sps Lists)
open item (It Its bK sides itC)
open record (dJ)
def fW:field.Fd:=⟨0,2,0,0,0⟩
def sW:Sp:=⟨10,1,0,0,0,0,0,step.fd0,step.va0,[],[]⟩
def iW:It:=⟨65536,⟨#[1]⟩⟩
def jW:It:=⟨16842752,⟨#[1]⟩⟩
def FW:List schema.Form:=[(1,[fW])]
theorem onW:on 1 FW sW=(1,[],0):=by decide+kernel
theorem KQ:cZ 1 FW [sW] 1=0:=by decide+kernel
theorem Lu:fH FW 1 [vn 1]:=⟨[fW],by decide+kernel,by decide+kernel⟩
theorem Ld:strOf (dJ (fieldsOf FW 1) [vn 1])=⟨#[1]⟩:=by decide+kernel
theorem LC:onR 1 FW sW 1 [vn 1]=⟨0,[],true,true,⟨#[1]⟩,0⟩:=by
 unfold onR;rw [onW,if_neg de_,if_neg (by simpa using Lu),if_neg de_,if_pos de_,Ld]
theorem Lp:(bK [iW]).map (ent FW)=[(65536,[vn 1])]:=by decide+kernel
theorem Lr:Fits 1 FW [iW]:=by decide+kernel
theorem Le:made 1 FW [sW] ((bK [iW]).map (ent FW))=[jW]:=by
 rw [Lp];unfold made;rw [List.flatMap_singleton];unfold applied;have e:aK ((65536,[vn 1]):Ent).1=1:=by decide
 rw [e];unfold up;rw [show ((65536,[vn 1]):Ent).2=[vn 1] from rfl,LC];rfl
theorem KO:aV 1 FW [sW] [jW]=([iW],0):=by
 have h1:Fits 1 (after 1 FW [sW]) [jW]:=by
  show Fits 1 (on 1 FW sW).2.1 [jW]
  rw [onW];exact ⟨by decide,by decide+kernel,by decide⟩
 have h2:∀p∈sides [jW],Removed [sW] p.key:=by
  intro p hp;have:sides [jW]=[jW]:=by decide+kernel
  rw [this] at hp;rw [List.mem_singleton.1 hp];exact ⟨by decide,sW,by decide+kernel,by decide,.inr rfl⟩
 have h3:(bK [jW]).map (ent (after 1 FW [sW]))=[]:=by decide
 have h4:sides [jW]=[jW]:=by decide+kernel
 have h5:undoneE 1 FW sW 0 [jW] []=0:=by
  unfold undoneE;rw [if_neg (by simp [fP]),if_pos (show sW.op=10 from rfl)];decide+kernel
 have h6:undone 1 FW sW 0 [jW] []=[(65536,[vn 1])]:=by
  unfold undone;rw [if_pos (show sW.op=10 from rfl)];have h7:fU 1 FW sW 0 [jW] []++regained 1 FW sW 0 [jW]=[(65536,[vn 1])]:=by
   have h8:fU 1 FW sW 0 [jW] []=[]:=rfl;rw [h8,List.nil_append];unfold regained;decide+kernel
  rw [h7];exact List.mergeSort_singleton _
 have h9:downs 1 [jW] 0 FW [sW] []=([(65536,[vn 1])],0):=by
  rw [gJ];have h10:downs 1 [jW] (0+1) (on 1 FW sW).2.1 [] []=([],0):=rfl;rw [h10,if_neg si_];simp only;rw [h5,h6,if_neg si_]
 unfold aV;rw [show [jW].length=1 from rfl,KQ,if_neg si_,if_neg (by simpa using ⟨h1,h2⟩),h3,h4,h9,if_neg si_];have h11:laid FW (65536,[vn 1])=iW:=by
  unfold laid;rw [show aK ((65536,[vn 1]):Ent).1=1 from by decide,Ld];rfl
 simp [h11]
set_option maxRecDepth 20000 in
set_option maxHeartbeats 3200000 in
theorem DZ (w:World):Calls prog 8 #[] w (Yes w):=by
 obtain ⟨q,hq⟩:∃q:Fm,Hid (q=⟨1,some ⟨w.heap.size,0,none⟩,1,[fW]⟩):=⟨_,hid rfl⟩;obtain ⟨sp,hsp⟩:∃sp:St,Hid (sp=⟨sW,none,0,none,0⟩):=⟨_,hid rfl⟩;obtain ⟨W0,hW0,bW0,hs0,hB0⟩:=aS w [(52,[.int .i64 0,.int .i64 2,.int .i64 0,.int .i64 0,.int .i64 0]),(49,[.int .i64 1,.slice (some ⟨w.heap.size,0,none⟩) 1 1]),(24,[.int .i64 1,.slice (some ⟨w.heap.size+1,0,none⟩) 1 1]),(57,[.int .i64 10,.int .i64 1,.int .i64 0,.int .i64 0,.int .i64 0,.int .i64 0,.int .i64 0,.int .i64 0,.int .i64 0,.int .i64 0,.int .i64 0,.int .i64 0,.int .i64 0,.string ⟨#[]⟩,.slice none 0 0,.slice none 0 0]),(43,[.int .u32 65536,.string ⟨#[1]⟩])];simp only [boxes] at hW0;obtain ⟨⟨kF,kM,kS,kT,kI,_⟩,_⟩:=hB0.o W0 (Below.refl _ _);have hfd:field.Fds W0 (some ⟨w.heap.size,0,none⟩) [fW]:=by
  refine .inr ⟨w.heap.size,0,rfl,kF.lt,fun i p hp=> ?_⟩;cases i with
  | zero=>simp at hp;subst hp;exact ⟨kF.cell 0,kF.cell 1,kF.cell 2,kF.cell 3,kF.cell 4⟩
  | succ i=>simp at hp
 have hfm:FmL W0 (some ⟨w.heap.size+1,0,none⟩) [q]:=by
  refine ⟨.inr ⟨w.heap.size+1,0,rfl,kM.lt,fun i p hp=> ?_⟩,fun p hp=> ?_⟩
  ·cases i with
   | zero=>simp at hp;subst hp;rw [hq.o];exact ⟨kM.cell 0,kM.cell 1⟩
   | succ i=>simp at hp
  ·rw [List.mem_singleton.1 hp,hq.o];exact ⟨hfd,Nat.le_refl 1,by show (1:Nat)<=maxLen;unfold maxLen;omega⟩
 have hsm:Small W0 [q]:=⟨by simp,fun p hp=>by rw [List.mem_singleton.1 hp,hq.o];exact ⟨hfd,by simp⟩⟩;have hst:StL W0 (some ⟨w.heap.size+1+1+1,0,none⟩) [sp]:=by
  refine ⟨.inr ⟨w.heap.size+1+1+1,0,rfl,kT.lt,fun i p hp j u hj=> ?_⟩,fun p hp=> ?_⟩
  ·cases i with
   | zero=>
    simp at hp;subst hp;rw [hsp.o] at hj;have:=kT.cell j;rw [show (0+0*16+j)=j by omega,this];exact hj
   | succ i=>simp at hp
  ·rw [List.mem_singleton.1 hp,hsp.o];exact ⟨.inl rfl,.inl rfl,Nat.zero_le _,Nat.zero_le _⟩
 have hit:Its W0 (some ⟨w.heap.size+1+1+1+1,0,none⟩) [iW]:=jG (kP (C:=itC) (p:=iW) (g:=w.heap.size+1+1+1+1) (t:=43) kI);have hfo:forms [q]=FW:=by rw [hq.o];rfl
 have hso:sps [sp]=[sW]:=by rw [hsp.o];rfl
 have hA:∀W,Below W0.heap.size W0 W->∀ia I,Its W ia I->I.length<=60->(∀p∈I,p.key<4294967296)->ArgOk W (some ⟨w.heap.size+1,0,none⟩) [q] (some ⟨w.heap.size+1+1+1,0,none⟩) [sp] ia I:=fun W hb ia I hI hl hk=>
  ⟨hfm.below hb,hsm.below hb,hst.below hb,by simp,fun p hp=>by rw [List.mem_singleton.1 hp,hsp.o];simp [sW],fun p hp=>by rw [List.mem_singleton.1 hp,hsp.o];simp [sW],hI,hl,hk⟩
 have cO:=IY 1 (some ⟨w.heap.size+1,0,none⟩) 1 [q] (some ⟨w.heap.size+1+1+1,0,none⟩) 1 [sp] (some ⟨w.heap.size+1+1+1+1,0,none⟩) 1 [iW] W0 (hA W0 (Below.refl _ _) _ _ hit si_ (by simp [iW]));rw [hfo,hso] at cO;have cO1:Calls prog 9 #[.agg #[.int .i64 1,.slice (some ⟨w.heap.size+1,0,none⟩) 1 1],.slice (some ⟨w.heap.size+1+1+1,0,none⟩) 1 1,.slice (some ⟨w.heap.size+1+1+1+1,0,none⟩) 1 1] W0 fun e w'=>∃b off mc,e=.returned (.tuple #[.slice (some ⟨b,off,none⟩) 1 mc,.int .i64 0])/\Its w' (some ⟨b,off,none⟩) [jW]/\w'.cell? ⟨b,off,none⟩=some (.int .u32 16842752)/\b<w'.heap.size/\Below W0.heap.size W0 w':=by
  refine Calls.mono (P:=prog) (f:=9) cO ?_;rintro e w' ⟨M,u,E,rfl,hM,_,_,_,hE⟩;obtain ⟨rfl,hp,_⟩:=hE KQ Lr de_;rw [Le] at hp;obtain rfl:=List.perm_singleton.1 hp;obtain ⟨ma,mc,rfl,hLie,_⟩:=hM.form iV om_;have hI:=jG hLie;obtain ⟨b,off,p,rfl,hlt,hp1,c0,c1⟩:=hI.at (i:=0) si_;simp at hp1;subst hp1;exact ⟨b,off,mc,rfl,hI,by simpa [jW] using c0,hlt,hM.low⟩
 have cB:∀(W:World) (b off mc:Nat),Below W0.heap.size W0 W->Its W (some ⟨b,off,none⟩) [jW]->Calls prog 14 #[.agg #[.int .i64 1,.slice (some ⟨w.heap.size+1,0,none⟩) 1 1],.slice (some ⟨w.heap.size+1+1+1,0,none⟩) 1 1,.slice (some ⟨b,off,none⟩) 1 mc] W fun e w'=>∃b off mc,e=.returned (.tuple #[.slice (some ⟨b,off,none⟩) 1 mc,.int .i64 0])/\w'.cell? ⟨b,off,none⟩=some (.int .u32 65536)/\w'.cell? ⟨b,off+1,none⟩=some (.string ⟨#[1]⟩)/\Below W.heap.size W w':=by
  intro W b off mc hb hI;have k:=pJ 1 (some ⟨w.heap.size+1,0,none⟩) 1 [q] (some ⟨w.heap.size+1+1+1,0,none⟩) 1 [sp] (some ⟨b,off,none⟩) mc [jW] W (hA W hb _ _ hI si_ (by simp [jW]));rw [hfo,hso,KO] at k;refine Calls.mono (P:=prog) (f:=14) k ?_;rintro e w' ⟨u,rfl,hM⟩;obtain ⟨ma,mc,rfl,hLie,_⟩:=hM.form iV om_;obtain ⟨b,off,p,rfl,hlt,hp1,c0,c1⟩:=(jG hLie).at (i:=0) si_;simp at hp1;subst hp1;exact ⟨b,off,mc,rfl,by simpa [iW] using c0,by simpa [iW] using c1,hM.low⟩
 have HCB:=hid cB;rw [<-hW0.o] at cO1;clear kF kM kS kT kI hfd hfm hsm hst hit hfo hso hA cO cB hq hsp;go_enter func8,ntmps8;go_wp2_with (first
  | (go_at_call 9;((with_reducible refine cO1.mono ?_);rintro e w1 ⟨b,off,mc,rfl,hI,c0,hbl,hb1⟩;rw [hW0.o] at hb1;obtain ⟨⟨_,_,kS,_⟩,_⟩:=hB0.o _ hb1;have s0:=kS.cell 0;have s1:=kS.cell 1;have cB1:=HCB.o w1 b off mc hb1 hI;have HB1:=hid hb1;have HC0:=hid c0;have HBL:=hid hbl;clear kS hI hb1 c0 hbl))
  | (go_at_call 14;((with_reducible refine cB1.mono ?_);rintro e w2 ⟨b2,off2,mc2,rfl,e0,e1,hb2⟩;have c0:=(hb2.cell (p:=⟨b,off,none⟩) HBL.o).trans HC0.o;have HE:=hid (hB0.o _ (HB1.o.trans (hb2.mono HB1.o.size))).2;clear hb2)))
 go_ret;exact ⟨rfl,HE.o⟩
end whole
namespace whole
open Go Go.RowKit schema
open field (ak)
open step (Sp St StL sps jA nV)
open item (It Its itC)
def uJ (F:List schema.Form) (L:List Sp) (I:List It):Bool:=kW F || (decide (jA L) || decide (60<I.length))
theorem Eh {w:World} {a:Option Addr} {F:List Fm} {la:Option Addr} {L:List St} {ia:Option Addr} {I:List It} (h:FmL w a F) (hl:StL w la L) (hi:Its w ia I) (hk:∀p∈I,p.key<4294967296) (hg:uJ (forms F) (sps L) I=false):ArgOk w a F la L ia I:=by
 unfold uJ at hg;simp only [Bool.or_eq_false_iff,decide_eq_false_iff_not] at hg;obtain ⟨h1,h2⟩:=typing.Ht (L:=L) h (by rw [hg.1];simpa using hg.2.1);obtain ⟨h3,h4⟩:=nV hg.2.1;have hsl:(sps L).length=L.length:=by unfold sps;simp
 exact ⟨h,h1,hl,by omega,h2,fun p hp=>by have:=(h4 p.s (List.mem_map_of_mem hp)).1;omega,hi,by have:=hg.2.2;omega,hk⟩
set_option maxRecDepth 20000 in
theorem qP (v:Int) (sa:Option Addr) (sc:Nat) (F:List Fm) (la:Option Addr) (lc:Nat) (L:List St) (ia:Option Addr) (ic:Nat) (I:List It) (w:World) (h:FmL w sa F) (hF:F.length<=maxLen) (hl:StL w la L) (hL:L.length<=maxLen) (hI:I.length<=maxLen):
  Calls prog 7 #[.agg #[.int .i64 v,.slice sa F.length sc,.slice la L.length lc,.slice ia I.length ic]] w (Gives (.bool (uJ (forms F) (sps L) I)) w):=by
 have hml:(F.length:Int)<=9223372036854775807:=by unfold maxLen at hF;omega
 have hmv:(I.length:Int)<=9223372036854775807:=by unfold maxLen at hI;omega
 obtain ⟨W0,hW,bW,hsz,hBX⟩:=aS w [(28,[.int .i64 v,.slice sa F.length sc,.slice la L.length lc,.slice ia I.length ic])];simp only [boxes] at hW;have HF:=hid (h.below bW);have HL:=hid (aF F);have cG:=step.qP la lc L W0 (hl.below bW) hL;obtain ⟨g,hg⟩:∃g:Bool,Hid (decide (jA (sps L))=g):=⟨_,hid rfl⟩;rw [hg.o] at cG;obtain ⟨z,hz⟩:∃z:Bool,Hid (decide (60<I.length)=z):=⟨_,hid rfl⟩;unfold uJ;rw [hg.o,hz.o];obtain ⟨r,hr⟩:∃r:Bool,Hid ((kW (forms F) || (g || z))=r):=⟨_,hid rfl⟩;rw [hr.o];have HBW:=hid bW;unfold field.Gives at cG;unfold Gives;clear h hF hl hL hI bW;go_enter func7,ntmps7;go_wp2;rw [hW.o];go_loopw [3] (fun n wr=>∃k:Nat,k<=F.length/\k<=41/\n=.int .i64 (k:Int)/\W0=wr/\Hid (((forms F).take k).any big=false)) (fun n _=>41 - (intOf n).toNat);case atStart=>exact ⟨0,Nat.zero_le _,Nat.zero_le _,rfl,rfl,hid si_⟩
 case round=>
  obtain ⟨k,hk,hk2,rfl,rfl,hno⟩:=hrel;obtain ⟨⟨k0,_⟩,hbo⟩:=hBX.o _ (Below.refl _ _);have HBO:=hid hbo;have z1:=k0.cell 1;have z2:=k0.cell 2;have z3:=k0.cell 3;clear hbo k0;by_cases h1:k<F.length
  ·by_cases h2:k<41
   ·obtain ⟨b,off,p,rfl,hbl,hp,c0,c1,_,hfl⟩:=pV HF.o (Below.refl _ _) h1;have i1:(k:Int)<F.length:=by omega
    have i2:(k:Int)<41:=by omega
    have hpl:(p.fL.length:Int)<=9223372036854775807:=by unfold maxLen at hfl;omega
    have hstep:((forms F).take (k+1)).any big=(((forms F).take k).any big || big p.p):=by
     rw [aH (fF hp)];simp
    rw [hno.o,Bool.false_or] at hstep;have HST:=hid hstep;have HBG:Hid (big p.p=true->kW (forms F)=true):=hid fun hb=>by
     unfold kW;rw [show ((forms F).take 41).any big=true from ?_,Bool.true_or];rw [List.any_eq_true];exact ⟨p.p,List.mem_of_getElem? (i:=k) (by rw [List.getElem?_take,if_pos h2];exact fF hp),hb⟩
    clear hstep hp c0;by_cases h3:40<p.fL.length
    ·obtain rfl:true=r:=by rw [<-hr.o,HBG.o (by unfold big;exact decide_eq_true h3)];rfl
     have hd:decide ((p.fL.length:Int)>40)=true:=decide_eq_true om_;go_wp2;go_ret;exact ⟨rfl,HBO.o⟩
    ·have HNO:=hid (show big p.p=false by unfold big;exact decide_eq_false h3);have hd:decide ((p.fL.length:Int)>40)=false:=decide_eq_false om_;clear h3;go_wp2;exact ⟨⟨k+1,by omega,by omega,by go_num,trivial,hid (by rw [HST.o];exact HNO.o)⟩,by simp [intOf];omega⟩
   ·obtain rfl:k=41:=by omega
    obtain rfl:true=r:=by rw [<-hr.o];unfold kW;rw [show decide (40<(forms F).length)=true from decide_eq_true (by rw [aF];omega),Bool.or_true];rfl
    have hd:decide ((F.length:Int)>40)=true:=decide_eq_true om_;have i1:(41:Int)<F.length:=by omega
    go_wp2;go_ret;exact ⟨rfl,HBO.o⟩
  ·obtain rfl:k=F.length:=by omega
   have hgb:kW (forms F)=decide (40<F.length):=by
    unfold kW;have:=hno.o;rw [List.take_of_length_le (by rw [aF];exact Nat.le_refl _)] at this;rw [List.take_of_length_le (by rw [aF];exact hk2),this,Bool.false_or,aF]
   by_cases h4:40<F.length
   ·obtain rfl:true=r:=by rw [<-hr.o,hgb,decide_eq_true h4];rfl
    have hd:decide ((F.length:Int)>40)=true:=decide_eq_true om_;have i3:(40:Int)<F.length:=by omega
    clear h4 hgb;go_wp2;go_ret;exact ⟨rfl,HBO.o⟩
   ·have hr2:(g || z)=r:=by rw [<-hr.o,hgb,decide_eq_false h4];rfl
    have hd:decide ((F.length:Int)>40)=false:=decide_eq_false om_;have i3:¬(40:Int)<F.length:=by omega
    have hzd:decide ((I.length:Int)>60)=z:=by rw [<-hz.o];exact decide_eq_decide.2 om_
    have HR2:=hid hr2;have HZD:=hid hzd;clear h4 hgb hr2 hzd;cases g
    ·have hzz:=HR2.o;simp only [Bool.false_or] at hzz;subst hzz;have hzd:=HZD.o;go_wp2_with (first
      | (go_at_call 19;((with_reducible refine cG.mono ?_);rintro e w2 ⟨rfl,hb2⟩;obtain ⟨⟨k0,_⟩,hbw⟩:=hBX.o _ hb2;have z3:=k0.cell 3;have HBZ:=hid hbw;clear k0 hbw)))
     go_ret;exact ⟨rfl,HBZ.o⟩
    ·have hzz:=HR2.o;simp only [Bool.true_or] at hzz;subst hzz;go_wp2_with (first
      | (go_at_call 19;((with_reducible refine cG.mono ?_);rintro e w2 ⟨rfl,hb2⟩;obtain ⟨⟨k0,_⟩,hbw⟩:=hBX.o _ hb2;have HBZ:=hid hbw;clear k0 hbw)))
     go_ret;exact ⟨rfl,HBZ.o⟩
theorem J4 (a:Option Addr) (c:Nat) (L:List It) (k:Nat) (w:World) (h:Its w a L) (hL:L.length<=100000) (hk:k<4294967296):
  Calls prog 17 #[.slice a L.length c,.int .u32 (k:Int)] w fun e w'=>∃u,e=.returned u/\IRow w (eG k L) u w':=by
 have hml:(L.length:Int)<=100000:=by omega
 have HF:=hid h;obtain ⟨R,hR⟩:∃R,Hid (eG k L=R):=⟨_,hid rfl⟩;rw [hR.o];clear h;go_enter func17,ntmps17;go_wp2;go_loopw [5,6] (fun u n wr=>∃(m:Nat),m<=L.length/\n=.int .i64 (m:Int)/\Hid (IRow w (eG k (L.take m)) u wr)) (fun _ n _=>L.length - (intOf n).toNat);case atStart=>exact ⟨0,Nat.zero_le _,rfl,hid (Gath.nil w)⟩
 case round=>
  obtain ⟨m,hm,rfl,HR⟩:=hrel;obtain ⟨M,hM⟩:∃M,eG k (L.take m)=M:=⟨_,rfl⟩;rw [hM] at HR;have hMl:M.length<=m:=by rw [<-hM];refine Nat.le_trans (List.length_filter_le ..) ?_;rw [List.length_take];omega
  obtain ⟨ua,uc,hu,_⟩:=HR.o.form iV om_;subst hu;have HML:=hid hMl;have HM:=hid hM;by_cases hlt:m<L.length
  ·obtain ⟨b,off,p,rfl,hbl,hp,c0,c1⟩:=item.qj HF.o HR.o.low hlt;have i1:(m:Int)<L.length:=by omega
   obtain ⟨q,hq⟩:∃q:Nat,p.key % 16777216=q:=⟨_,rfl⟩;have e1:(p.key:Int) % 16777216=(q:Int):=by omega
   have HP:=hid hp;have HQ:=hid hq;by_cases hqk:q=k
   ·have d1:((q:Int) == (k:Int))=true:=by simp [hqk]
    have HYES:Hid (eG k (L.take (m+1))=M++[p]):=hid (by rw [<-hM];unfold eG;exact item.lQ hp (by simp [hq,hqk]));have hN:=ak wr (.cells #[.int .u32 (p.key:Nat),.string p.data] 43);have HR6:=hid (HR.o.later hN);have HM6:Hid (Its (wr.alloc (.cells #[.int .u32 (p.key:Nat),.string p.data] 43)) (some ⟨wr.heap.size,0,none⟩) [p]):=hid (jG (kP (C:=itC) (p:=p) (Block.new wr 43 [.int .u32 (p.key:Nat),.string p.data])));have HN9:Hid (M.length+[p].length<=1000000):=hid (by have:=HML.o;simp only [List.length_singleton];omega);clear hp hq hqk hM hMl hN hlt;go_wp2_with (at_builtin;refine iK rfl _ _ rfl [p] rfl _ _ rfl HR6 HM6 HN9 ?_;intro v' w' hG _;skip);exact ⟨⟨m+1,by omega,by go_num,hid (by rw [HYES.o];exact hG.o)⟩,by simp [intOf];omega⟩
   ·have d1:((q:Int) == (k:Int))=false:=by simp;omega
    have HNO:Hid (eG k (L.take (m+1))=M):=hid (by rw [<-hM];unfold eG;exact item.nR hp (by simp [hq,hqk]));clear hp hq hqk hM hMl hlt;go_wp2;exact ⟨⟨m+1,by omega,by go_num,hid (by rw [HNO.o];exact HR.o)⟩,by simp [intOf];omega⟩
  ·obtain rfl:m=L.length:=by omega
   obtain rfl:R=M:=by rw [<-hR.o,<-hM,List.take_of_length_le (Nat.le_refl _)]
   clear hM hMl hlt;go_wp2;go_ret;exact ⟨_,rfl,HR.o⟩
end whole
theorem t24{P:Prop}(h:P:=by
 go_wp2_with (first
  | (go_at_call 18;((with_reducible refine cF1w.mono ?_);rintro e w5 ⟨rfl,hb5⟩;have cF2w:=HCF2.o w5 hb5;have HB5:=hid (HS4.o.trans (hb5.mono HS4.o.size));clear hb5 cF1w))
  | (go_at_call 18;((with_reducible refine cF2w.mono ?_);rintro e w6 ⟨rfl,hb6⟩;have HB6:=hid (HB5.o.trans (hb6.mono HB5.o.size));clear hb6 cF2w))
  | (go_at_call 8;((with_reducible refine (HCA.o _).mono ?_);rintro e w8 ⟨rfl,hb8⟩;have HE:=hid (hB0.o _ (HB6.o.trans (hb8.mono HB6.o.size))).2;clear hb8)))
 go_ret;exact ⟨rfl,HE.o⟩):P:=h
namespace wholeEach
open Go Go.RowKit schema typing whole
open field (ak)
open step (Sp St StL sps)
open item (It Its itC)
theorem DY {w:World} {a:Option Addr} {F:List Fm} {la:Option Addr} {L:List St} {ia ja:Option Addr} {I:List It} (k:Nat) (h:ArgOk w a F la L ia I) (hJ:Its w ja (eG k I)):ArgOk w a F la L ja (eG k I):=
 ⟨h.fml,h.small,h.stl,h.len,h.flds,h.tabs,hJ,Nat.le_trans (List.length_filter_le ..) h.few,fun p hp=>h.keys p (List.mem_filter.1 hp).1⟩
theorem FO {w:World} {b:Nat} {t:TypeId} {v0 v1 v2 v3:Value} (h:Block w b t [v0,v1,v2,v3]):w.rangeAt b 0 [v0,v1]:=fun j u hj=>by
 match j,hj with
 | 0,hj=>cases hj;exact h.cell 0
 | 1,hj=>cases hj;exact h.cell 1
set_option maxRecDepth 20000 in
set_option maxHeartbeats 3200000 in
theorem Lm (v:Int) (sa:Option Addr) (sc:Nat) (F:List Fm) (la:Option Addr) (lc:Nat) (L:List St) (ia:Option Addr) (ic:Nat) (I:List It) (k0:Nat) (w:World) (h:FmL w sa F) (hF:F.length<=maxLen) (hl:StL w la L) (hL:L.length<=maxLen) (hi:Its w ia I) (hI:I.length<=maxLen) (hk:∀p∈I,p.key<4294967296) (hk0:k0<4294967296):
  Calls prog 6 #[.agg #[.int .i64 v,.slice sa F.length sc,.slice la L.length lc,.slice ia I.length ic],.int .u32 (k0:Int)] w (Yes w):=by
 obtain ⟨W0,hW0,bW0,hs0,hB0⟩:=aS w [(28,[.int .i64 v,.slice sa F.length sc,.slice la L.length lc,.slice ia I.length ic])];simp only [boxes] at hW0;have cG:=qP v sa sc F la lc L ia ic I W0 (h.below bW0) hF (hl.below bW0) hL hI;have cA:=fun w'=>DZ w'
 obtain ⟨g,hg⟩:∃g:Bool,uJ (forms F) (sps L) I=g:=⟨_,rfl⟩;rw [hg] at cG;unfold Gives at cG;unfold Yes at cA ⊢;cases g
 rotate_left
 ·clear h hF hl hL hi hI hk hk0 bW0 hg;obtain ⟨⟨kk,_⟩,_⟩:=hB0.o W0 (Below.refl _ _);have z0:=kk.cell 0;have z1:=kk.cell 1;have z2:=kk.cell 2;have z3:=kk.cell 3;rw [<-hW0.o] at cG z0 z1 z2 z3;clear kk;go_enter func6,ntmps6;go_wp2_with (first
   | (go_at_call 7;((with_reducible refine cG.mono ?_);rintro e w1 ⟨rfl,hb1⟩;rw [hW0.o] at hb1;clear cG))
   | (go_at_call 8;((with_reducible refine (cA _).mono ?_);rintro e w8 ⟨rfl,hb8⟩;skip)))
  go_ret;exact ⟨rfl,(hB0.o _ (hb1.trans (hb8.mono hb1.size))).2⟩
 ·have hA:=Eh h hl hi hk hg;have HARG:Hid (∀w',Below w.heap.size w w'->ArgOk w' sa F la L ia I):=hid fun w' hb=>hA.below hb
  have HBW:=hid bW0;obtain ⟨k,hkk⟩:∃k:Nat,k0 % 16777216=k:=⟨_,rfl⟩;have hk24:k<16777216:=by omega
  have ek:(k0:Int) % 16777216=(k:Int):=by omega
  have hmi:I.length<=60:=hA.few;have cB:=fun (ja:Option Addr) (jc:Nat) (J:List It) (W:World) (hj:ArgOk W sa F la L ja J)=>pJ v sa sc F la lc L ja jc J W hj
  unfold tY at cB;have hE:=fun q=>each (v:=v) (F:=forms F) (L:=sps L) (I:=I) hk24 q
  have hN:=fun q=>E8 (v:=v) (F:=forms F) (L:=sps L) (I:=I) q
  obtain ⟨R,hR⟩:∃R,aV v (forms F) (sps L) I=R:=⟨_,rfl⟩;obtain ⟨Q,hQ⟩:∃Q,aV v (forms F) (sps L) (eG k I)=Q:=⟨_,rfl⟩;obtain ⟨⟨kk,_⟩,_⟩:=hB0.o W0 (Below.refl _ _);have z0:=kk.cell 0;have z1:=kk.cell 1;have z2:=kk.cell 2;have z3:=kk.cell 3;rw [hR,hQ] at hE;rw [hR] at hN;obtain ⟨B,E⟩:=R;obtain ⟨Y,E2⟩:=Q;simp only at hE hN;have HR:=hid hR;have HQ:=hid hQ;have HCB:=hid cB;rw [<-hW0.o] at cG z0 z1 z2 z3;clear h hF hl hL hi hI hk hk0 bW0 hg hA kk hR hQ hkk cB;have cB1:∀W,Below w.heap.size w W->Calls prog 14 #[zS v sa F.length sc,.slice la L.length lc,.slice ia I.length ic] W fun e w'=>∃ba bc,e=.returned (.tuple #[.slice ba B.length bc,.int .i64 E])/\Its w' ba B/\Below W.heap.size W w'/\B.length<=maxLen:=by
   intro W hb;refine Calls.mono (P:=prog) (f:=14) (HCB.o ia ic I W (HARG.o W hb)) ?_;rintro e w' ⟨u,rfl,hM⟩;rw [HR.o] at hM ⊢;obtain ⟨ba,bc,rfl,hLie,h1,h2⟩:=hM.form iV om_;exact ⟨ba,bc,rfl,jG hLie,hM.low,Nat.le_trans h1 h2⟩
  have HC1:=hid cB1;by_cases hE0:E=0
  ·subst hE0;obtain ⟨q1,q2,q3,q4⟩:=hE rfl;subst q1;have cB2:∀(W:World) (ja:Option Addr) (jc:Nat),Below w.heap.size w W->Its W ja (eG k I)->Calls prog 14 #[zS v sa F.length sc,.slice la L.length lc,.slice ja (eG k I).length jc] W fun e w'=>∃ba bc,e=.returned (.tuple #[.slice ba Y.length bc,.int .i64 0])/\Its w' ba Y/\Below W.heap.size W w':=by
    intro W ja jc hb hj;refine Calls.mono (P:=prog) (f:=14) (HCB.o ja jc (eG k I) W (DY k (HARG.o W hb) hj)) ?_;rintro e w' ⟨u,rfl,hM⟩;rw [HQ.o] at hM ⊢;obtain ⟨ba,bc,rfl,hLie,_⟩:=hM.form iV om_;exact ⟨ba,bc,rfl,jG hLie,hM.low⟩
   have HC2:=hid cB2;have cW:=fun (W:World) (hb:Below w.heap.size w W)=>J4 ia ic I k W (HARG.o W hb).its om_ om_
   have HCW:=hid cW;have HQ3:=hid q3;have HQ4:=hid q4;obtain ⟨O,hO⟩:∃O,item.find k B=O:=⟨_,rfl⟩;have HO:=hid hO;have hyl:(Y.length:Int)<=1:=by omega
   clear hE hN cB1 cB2 cW q3 q4 hO;go_enter func6,ntmps6;go_wp2_with (first
    | (go_at_call 7;((with_reducible refine cG.mono ?_);rintro e w1 ⟨rfl,hb1⟩;rw [hW0.o] at hb1;obtain ⟨⟨kk,_⟩,hbw1⟩:=hB0.o _ hb1;have y0:=kk.cell 0;have y1:=kk.cell 1;have y2:=kk.cell 2;have y3:=kk.cell 3;have cB3:=HC1.o w1 hbw1;have HB1:=hid hb1;clear kk hbw1 hb1 cG))
    | (go_at_call 14;((with_reducible refine cB3.mono ?_);rintro e w2 ⟨ba,bc,rfl,hbI,hb2,hbl⟩;have HLEN:=hid hbl;have HB2:=hid (HB1.o.trans (hb2.mono HB1.o.size));have HBI:=hid hbI;clear hb2 hbI hbl cB3)))
   refine plan.bU (S:=fun w'=>Below W0.heap.size W0 w') ?_;have hS:Below W0.heap.size W0 w2.drew:=aJ HB2.o;have HBI3:=hid (HBI.o.below (show Below w2.heap.size w2 w2.drew from aJ (Below.refl _ _)));generalize w2.drew=wd at *;have hbwd:=HBW.o.trans (hS.mono HBW.o.size);refine plan.af 0 _ (.pointer (some ⟨w.heap.size,0,none⟩)) rfl (fun w' hS'=>kr_) hS ?_;refine plan.af 1 _ (zS v sa F.length sc) rfl (fun w' hS'=>ax (b:=w.heap.size) (off:=0) rfl (FO (hB0.o _ hS').1.1) underlying24 rfl jR.o) hS ?_;refine plan.af 2 _ (.pointer (some ⟨w.heap.size,2,none⟩)) rfl (fun w' hS'=>kr_) hS ?_;refine plan.af 3 _ (.slice la L.length lc) rfl (fun w' hS'=>aG rfl ((hB0.o _ hS').1.1.cell 2) isAgg25) hS ?_;refine plan.af 4 _ (.pointer (some ⟨w.heap.size,3,none⟩)) rfl (fun w' hS'=>kr_) hS ?_;refine plan.af 5 _ (.slice ia I.length ic) rfl (fun w' hS'=>aG rfl ((hB0.o _ hS').1.1.cell 3) isAgg26) hS ?_;refine plan.af 6 _ (.int .u32 (k:Int)) rfl (fun w' hS'=>kr_) hS ?_;refine plan.dY 7 _ 17 #[.slice ia I.length ic,.int .u32 (k:Int)] rfl ((HCW.o wd hbwd).mono ?_);rintro e w3 ⟨ju,rfl,hJ⟩;obtain ⟨ja,jc,rfl,hJL,_⟩:=hJ.form iV om_;have hS3:Below W0.heap.size W0 w3:=hS.trans (hJ.low.mono hS.size);refine ⟨_,rfl,hS3, ?_⟩;have hbw3:=HBW.o.trans (hS3.mono HBW.o.size);have HBI4:=hid (HBI3.o.below hJ.low);refine plan.dY 8 _ 14 #[zS v sa F.length sc,.slice la L.length lc,.slice ja (eG k I).length jc] rfl ((HC2.o w3 ja jc hbw3 (jG hJL)).mono ?_);rintro e w4 ⟨ya,yc,rfl,hY,hb4⟩;have hS4:Below W0.heap.size W0 w4:=hS3.trans (hb4.mono hS3.size);refine ⟨_,rfl,hS4, ?_⟩;refine plan.af 9 _ (.tuple #[.slice ya Y.length yc,.int .i64 0]) rfl (fun w' hS'=>kr_) hS4 ?_;refine plan.af 10 _ (.slice ya Y.length yc) rfl (fun w' hS'=>kr_) hS4 ?_;refine plan.af 11 _ (.int .i64 0) rfl (fun w' hS'=>kr_) hS4 ?_;refine plan.af 12 _ (.slice ya Y.length yc) rfl (fun w' hS'=>kr_) hS4 ?_;refine plan.af 13 _ (.int .i64 0) rfl (fun w' hS'=>kr_) hS4 ?_;refine plan.gI ?_;have HS4:=hid hS4;have HB4:=hid (HBI4.o.below hb4);have HY:=hid hY;clear hS hbwd hJ hJL hS3 hbw3 hb4 hS4 hY HBI HBI3 HBI4 HC1 HC2 HCW HCB;have cF1:=fun (W:World) (hb:Below w4.heap.size w4 W) (hl:B.length<=maxLen)=>item.sD ba bc B k W (HB4.o.below hb) hl
   have cF2:=fun (W:World) (hb:Below w4.heap.size w4 W)=>item.sD ya yc Y k W (HY.o.below hb) (by unfold maxLen;omega)
   unfold item.Finds at cF1 cF2;rw [HO.o] at cF1;rw [HQ4.o,HO.o] at cF2;have hBl:B.length<=maxLen:=HLEN.o;have cF1:=fun W hb=>cF1 W hb hBl
   have HCF2:=hid cF2;have HCA:=hid cA;have cF1w:=cF1 w4 (Below.refl _ _);clear cF1 cF2 hBl;generalize item.data O=od at *;generalize O.isSome=os at *;walk_nrm;by_cases hy0:Y.length=0
   ·have i1:¬((Y.length:Int)>1):=by omega
    have d1:decide ((Y.length:Int)>1)=false:=decide_eq_false i1;have d2:((Y.length:Int) == 1)=false:=by simp;omega
    clear hy0
    exact t24
   ·have hy1:Y.length=1:=by omega
    have i1:¬((Y.length:Int)>1):=by omega
    have d1:decide ((Y.length:Int)>1)=false:=decide_eq_false i1;have d2:((Y.length:Int) == 1)=true:=by simp;omega
    have i0:(0:Int)<(Y.length:Int):=by omega
    obtain ⟨yb,yoff,p,rfl,hyb,hp,c0,c1⟩:=HY.o.at (i:=0) om_;have hpk:=HQ3.o p (List.mem_of_getElem? hp);have c0':w4.cell? ⟨yb,yoff,none⟩=some (.int .u32 (k:Nat)):=by rw [<-hpk];simpa using c0
    clear c0 c1 hp hpk hy1
    exact t24
  ·have hB:B=[]:=hN hE0;subst hB;have hne:(E != 0)=true:=by simpa using hE0
   clear hE hN cB1 hE0;go_enter func6,ntmps6;go_wp2_with (first
    | (go_at_call 7;((with_reducible refine cG.mono ?_);rintro e w1 ⟨rfl,hb1⟩;rw [hW0.o] at hb1;obtain ⟨⟨kk,_⟩,hbw1⟩:=hB0.o _ hb1;have y0:=kk.cell 0;have y1:=kk.cell 1;have y2:=kk.cell 2;have y3:=kk.cell 3;have cB3:=HC1.o w1 hbw1;have HB1:=hid hbw1;clear kk hbw1 hb1 cG))
    | (go_at_call 14;((with_reducible refine cB3.mono ?_);rintro e w2 ⟨ba,bc,rfl,_,hb2,_⟩;have HB2:=hid (HB1.o.trans (hb2.mono HB1.o.size));clear hb2 cB3))
    | (go_at_call 8;((with_reducible refine (cA _).mono ?_);rintro e w8 ⟨rfl,hb8⟩;have HE:=hid (HB2.o.trans (hb8.mono HB2.o.size));clear hb8)))
   go_ret;exact ⟨rfl,HE.o⟩
theorem walk (x:Ca) (k:Nat) (w:World) (hx:x.Good w) (hk:k<4294967296):Calls prog 6 #[x.val,.int .u32 (k:Int)] w (Yes w):=
 Lm x.p.ver x.p.f x.p.fCap x.p.fL x.l x.lc x.L x.i x.ic x.I k w ⟨hx.p.rf,fun y hy=>(hx.p.mf y hy).ok⟩ (Nat.le_trans hx.p.cf hx.p.df) ⟨hx.l,fun y hy=>(hx.ml y hy).lists⟩ (Nat.le_trans hx.cl hx.dl) hx.i (Nat.le_trans hx.ci hx.di) (fun y hy=>(hx.mi y hy).bkey) hk
end wholeEach
end Go.Proofs.YtogkgbnpodojjaaGreat
