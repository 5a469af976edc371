/- Contracts and lemmas that claims of this seat share: StepRefTable, DeleteV, TurnOne, TypingApplied, TypingOnMath, PairMath, PairKit, SchemaRefAt. Each says its own conditions. -/
import Derived.Test.YtdnegbkhndekpaaGreatCmWord
import Derived.Conc.WalkWords
import Derived.Test.YtdnegbkhndekpaaGreatCmC
import Derived.Test.YtdnegbkhndekpaaGreatCmG
import Derived.Test.YtdnegbkhndekpaaGreatCmE
import Derived.Test.YtdnegbkhndekpaaGreatCmF
import Derived.Test.YtdnegbkhndekpaaGreatCmM
import Derived.Test.YtdnegbkhndekpaaGreatCmN
import Derived.Test.YtdnegbkhndekpaaGreatCmB
import Derived.Test.YtdnegbkhndekpaaGreatCmQ
import Derived.Test.YtdnegbkhndekpaaGreatCmR
set_option linter.unusedVariables false
namespace Go.Proofs.YtdnegbkhndekpaaGreat
open Go.Proofs.Tryz
namespace step
open Go.RowKit
open field (Gives aC aj)
open schema (aT aY)
theorem Gm {L:List Int} {k:Nat} {x q:Int} (h:L[k]?=some q) (hn:x∉L.take k) (hq:¬q=x):x∉L.take (k+1):=by
 rw [aT h];intro hm;rcases List.mem_append.1 hm with h1 | h1
 ·exact hn h1
 ·exact hq (List.mem_singleton.1 h1).symm
theorem Gl {L:List Int} {j k:Nat} {q:Int} (h:L[j]?=some q) (hj:j<k):q∈L.take k:=by
 have:=(List.getElem?_take_of_lt (l:=L) hj).trans h;exact List.mem_of_getElem? this
theorem Ak {w w':World} {b off k:Nat} {p:Int} {L:List Int} (h:Ins w (some ⟨b,off,none⟩) L) (hb:Below w.heap.size w w') (hp:L[k]?=some p):w'.cell? ⟨b,off+k,none⟩=some (.int .i64 p):=by
 rcases h.below hb with rfl | ⟨b',off',he,hlt,hc⟩
 ·simp at hp
 ·injection he with e
  injection e with e1 e2
  subst e1 e2;exact hc k p hp
theorem EO {w w':World} {b off k:Nat} {p:Int} {L:List Int} (h:Ins w (some ⟨b,off,none⟩) L) (hb:Below w.heap.size w w') (hp:L[k]?=some p):b<w'.heap.size:=by
 rcases h.below hb with rfl | ⟨b',off',he,hlt,hc⟩
 ·simp at hp
 ·injection he with e
  injection e with e1 e2
  subst e1 e2;exact hlt
set_option maxRecDepth 20000 in
theorem rX (a:Option Addr) (cap:Nat) (L:List Int) (lim:Int) (h1:1<=lim) (h2:lim<=1000) (w:World) (h:Ins w a L) (hL:L.length<=maxLen):
  Calls prog 105 #[.slice a L.length cap,.int .i64 lim] w (Gives (.bool (decide (Table L lim))) w):=by
 have hml:(L.length:Int)<=9223372036854775807:=by unfold maxLen at hL;omega
 obtain ⟨v,hv⟩:∃v:Bool,Hid (decide (Table L lim)=v):=⟨_,rfl⟩;rw [hv.o];have cV:=fun n (w':World)=>fM n 0 (lim - 1) w'
 unfold Gives at cV ⊢;have HF:=hid h;clear h hL;go_enter func105,ntmps105;go_wp2;go_loopw [5] (fun n wr=>∃k:Nat,k<=L.length/\n=.int .i64 (k:Int)/\Hid (tq lim (L.take k))/\Hid (Below w.heap.size w wr)) (fun n _=>L.length - (intOf n).toNat);case atStart=>exact ⟨0,Nat.zero_le _,rfl,hid ⟨by simp,by simp⟩,hid (Below.refl _ _)⟩
 case round=>
  obtain ⟨k,hk,rfl,HOK,HB⟩:=hrel;by_cases hlt:k<L.length
  ·obtain ⟨b,off,p,rfl,hbl,hp,c0⟩:=wZ HF.o HB.o hlt;have i1:(k:Int)<L.length:=by omega
   have HP:=hid hp;have HNO:=hid (Hz (lim:=lim) hp);have HSUC:=hid (xG (lim:=lim) hp);have cs:=fun w'=>cV p w'
   clear hp;by_cases hr:0<=p/\p<=lim - 1
   ·rw [decide_eq_true hr] at cs;have HR:=hid hr;clear hr;go_wp2_with (go_at_call 64;((with_reducible refine (cs _).mono ?_);rintro e w3 ⟨rfl,hb3⟩;have HB3:=hid (HB.o.trans (hb3.mono HB.o.size));clear hb3));clear c0 hbl;go_loopw [6] (fun n wr=>∃j:Nat,j<=k/\n=.int .i64 (j:Int)/\Hid (p∉L.take j)/\Hid (Below w.heap.size w wr)) (fun n _=>k - (intOf n).toNat);case atStart=>exact ⟨0,Nat.zero_le _,rfl,hid si_,HB3⟩
    case round=>
     obtain ⟨j,hj,rfl,HNI,HB4⟩:=hrel;by_cases hlt2:j<k
     ·have hq0:=List.getElem?_eq_getElem (show j<L.length by omega);generalize L[j]'(show j<L.length by omega)=q at hq0;have d0:=Ak HF.o HB4.o hq0;have c1:=Ak HF.o HB4.o HP.o;have hbl:=EO HF.o HB4.o hq0;have i2:(j:Int)<k:=by omega
      have i3:(j:Int)<L.length:=by omega
      have hq:=hq0;clear hq0;have HQ:=hid hq;clear hq;by_cases hpq:q=p
      ·obtain rfl:false=v:=by
        rw [<-hv.o];exact (decide_eq_false (fun h=>(HSUC.o.1 (BN h.2 _)).2.2 (by rw [<-hpq];exact Gl HQ.o hlt2))).symm
       subst hpq
       go_wp2
       go_quiet (fail)
       go_wp2
       go_ret
       exact ⟨rfl,below_drewN HB4.o _⟩
      ·have hd:(q == p)=false:=by rw [beq_eq_false_iff_ne];exact hpq
       have HPQ:=hid hpq;clear hpq;go_wp2;go_quiet (fail);go_wp2;exact ⟨⟨j+1,by omega,by go_num,hid (Gm HQ.o HNI.o HPQ.o),hid (below_drewN HB4.o _)⟩,by simp [intOf];omega⟩
     ·obtain rfl:j=k:=by omega
      go_wp2;exact ⟨⟨j+1,by omega,by go_num,hid (HSUC.o.2 ⟨HOK.o,HR.o,HNI.o⟩),hid HB4.o⟩,by simp [intOf];omega⟩
   ·obtain rfl:false=v:=by rw [<-hv.o];exact (decide_eq_false (fun h=>HNO.o (fun h=>hr h.1) h.2)).symm
    rw [decide_eq_false hr] at cs;clear hr;go_wp2_with (go_at_call 64;((with_reducible refine (cs _).mono ?_);rintro e w3 ⟨rfl,hb3⟩));go_ret;exact ⟨rfl,HB.o.trans (hb3.mono HB.o.size)⟩
  ·obtain rfl:k=L.length:=by omega
   have HT:=HOK.o;rw [List.take_of_length_le (Nat.le_refl _)] at HT;have HT:=hid HT;by_cases h3:1<=L.length
   ·have hd3:decide ((L.length:Int)≥1)=true:=decide_eq_true om_;by_cases h4:L.length<=64
    ·have hd4:decide ((L.length:Int)<=64)=true:=decide_eq_true om_;obtain rfl:true=v:=by rw [<-hv.o];exact (decide_eq_true ⟨⟨h3,h4⟩,HT.o⟩).symm
     go_wp2;go_ret;exact ⟨rfl,HB.o⟩
    ·have hd4:decide ((L.length:Int)<=64)=false:=decide_eq_false om_;obtain rfl:false=v:=by rw [<-hv.o];exact (decide_eq_false (fun h=>h4 h.1.2)).symm
     go_wp2;go_ret;exact ⟨rfl,HB.o⟩
   ·have hd3:decide ((L.length:Int)≥1)=false:=decide_eq_false om_;obtain rfl:false=v:=by rw [<-hv.o];exact (decide_eq_false (fun h=>h3 h.1.1)).symm
    go_wp2;go_ret;exact ⟨rfl,HB.o⟩
end step
theorem t76{P:Prop}(h:P:=by
 rw [gY _ _ _ _ (Nat.le_refl _) (by rw [HL3.o];have:=HNC.o;omega)];have:=gW C (i*2) X2 (by rw [HCS.o];have:=HNC.o;omega);rw [HX2l.o,<-Nat.add_mul,g3] at this;exact this):P:=h
namespace schema
open Go.RowKit rows
def KT (base:Nat) (ob:Option Nat) (n:Nat) (ys:List Value) (w:World) (e:Ending) (w':World):Prop:=∃v',e=.returned v'/\w'.ownsRow base 28 2 v' n ys/\w.grownBy w' ob/\v'.ownBlock=ob
set_option maxRecDepth 20000 in
theorem BK (base N i:Nat) (v:Value) (xs:List Value) (w:World) (hown:w.ownsRow base 28 2 v (N+1) xs) (hi:i<=N) (hx1:∀u∈xs,u.oneCell'=true) (hn:N<=1000):
  Calls prog 53 #[v,.int .i64 i,.int .i64 ((i:Int)+1)] w (KT base v.ownBlock N (xs.take (i*2)++xs.drop ((i+1)*2)) w):=by
 obtain ⟨i0,hi0,hz0,hz1,hz2⟩:=record.dO;have hxl:=hown.1;rcases hown.2 with ⟨_,h0⟩ | ⟨b,cap,cur,rfl,hbb,hB,hnc,hcm,hcs,htake⟩
 ·omega
 ·obtain ⟨C,rfl⟩:∃C:List Value,cur=C.toArray:=⟨cur.toList,by simp⟩;simp only [List.size_toArray] at hcs;have htk:C.take ((N+1)*2)=xs:=by simpa using htake
  have hX1:C.take (i*2)=xs.take (i*2):=by rw [<-htk,List.take_take,Nat.min_eq_left (Nat.mul_le_mul_right _ om_)]
  have hX2l:(xs.drop ((i+1)*2)).length=(N - i)*2:=by rw [List.length_drop,hxl,<-Nat.sub_mul];congr 1;omega
  have hX2c:∀j u,(xs.drop ((i+1)*2))[j]?=some u->C[(i+1)*2+j]?=some u:=fun j u hj=>by
   exact t118
  have hX21:∀u∈xs.drop ((i+1)*2),u.oneCell'=true:=fun u hu=>hx1 u (List.mem_of_mem_drop hu)
  obtain ⟨X2,hX2⟩:∃X2,xs.drop ((i+1)*2)=X2:=⟨_,rfl⟩;rw [hX2] at hX2l hX2c hX21 ⊢;rw [<-hX1];have hOB:(Value.slice (some ⟨b,0,none⟩) (N+1) cap).ownBlock=some b:=rfl;rw [hOB];clear hOB;have c1:(i:Int)<=N:=by omega
  have c2:¬((i:Int)=(i:Int)+1):=by omega
  have c3:¬(cap=N):=by omega
  have c4:¬(cap=i):=by omega
  have hcm':cap<=9223372036854775807:=by unfold maxLen at hcm;omega
  have b2:(N:Int)<=1000:=by omega
  have t1:((i:Int)+1).toNat=i+1:=by omega
  have t2:((N:Int)+1).toNat=N+1:=by omega
  have p1:(0:Int)<=(i:Int)+1:=by omega
  have hBB:Block w b 28 C:=hB;have hz1c:∀u∈(Value.cells (.agg #[.int .i64 0,.string ⟨#[]⟩])).toList,u.oneCell'=true:=by simp [Value.cells];try decide
  have h0z:0<2:=by omega
  have g3:i+(N - i)=N:=by omega
  have HB:=hid hBB;have HCS:=hid hcs;have HX2l:=hid hX2l;have HX2c:=hid hX2c;have HX21:=hid hX21;have HCM:=hid hcm;have HBB:=hid hbb;have HNC:Hid ((N+1)*2<=cap*2):=Nat.mul_le_mul_right _ hnc;clear hown hxl hx1 htake htk hX1 hX2 hX2l hX2c hX21 hB hBB hcs hcm hbb;by_cases c5:cap=i+1
  ·obtain rfl:i=N:=by omega
   subst c5;go_enter func53,ntmps53;go_wp2;refine tail.region 6 kr_ kr_ ?_;simp only [List.take_succ_cons,List.take_zero,List.drop_succ_cons,List.drop_zero];repeat (go_big_quiet_step (fail))
   refine wpQuiet_nil ?_;rintro _ ⟨nq,rfl⟩;refine eP rfl _ _ 33 rfl 28 i0 2 underlying33 hi0 hz1 b _ _ rfl C (HB.o.drewN nq) _ 0 _ rfl X2 (by have:=HX2l.o;simpa using this) (fun h=>absurd h om_) HX21.o om_ (by rw [HX2l.o,HCS.o];have:=HNC.o;omega) ?_;intro w3 h3;have HL3:Hid ((splice C (i*2) X2).length=(i+1)*2):=hid (by rw [length_splice _ _ _ (by rw [HX2l.o,HCS.o];have:=HNC.o;omega),HCS.o]);go_wp2_with (refine eF rfl _ 33 rfl 28 i0 _ 2 underlying33 hi0 hz0 (by simp [Value.cells]) hz1c h0z _ 1 _ rfl b (i*2) (splice C (i*2) X2) 28 h3.o.1 (fun _=>by simp) (by rw [HL3.o];have:=HNC.o;omega) ?_);intro Z w4 h4;go_wp2;go_ret;have hl2:(splice (splice C (i*2) X2) (i*2) Z).take (i*2)=C.take (i*2)++X2:=by
    exact t76
   refine ⟨_,rfl,iE h4.o.2.1 HBB.o om_ HCM.o (by rw [length_splice _ _ _ (by rw [HL3.o,h4.o.1];have:=HNC.o;omega),HL3.o]) hl2, ?_,rfl⟩;exact dF (v:=.slice (some ⟨b,0,none⟩) i (i+1)) (But.trans (But.drewN h3.o.2.1 0) (h4.o.2.2.1.mono (by have:=h3.o.2.2;simp at this;omega))) rfl
  ·go_enter func53,ntmps53;go_wp2;refine tail.region 6 kr_ kr_ ?_;simp only [List.take_succ_cons,List.take_zero,List.drop_succ_cons,List.drop_zero];repeat (go_big_quiet_step (fail))
   refine wpQuiet_nil ?_;rintro _ ⟨nq,rfl⟩;refine eP rfl _ _ 33 rfl 28 i0 2 underlying33 hi0 hz1 b _ _ rfl C (HB.o.drewN nq) _ (N - i) _ (by rfl) X2 HX2l.o (fun h=>⟨⟨b,(i+1)*2,none⟩,rfl,fun j u hj=>by rw [Addr.add_lit,(HB.o.drewN nq).cell];exact HX2c.o j u hj⟩) HX21.o om_ (by rw [HX2l.o,HCS.o];have:=HNC.o;omega) ?_;intro w3 h3;rw [g3];have HL3:Hid ((splice C (i*2) X2).length=cap*2):=hid (by rw [length_splice _ _ _ (by rw [HX2l.o,HCS.o];have:=HNC.o;omega),HCS.o]);go_wp2_with (refine eF rfl _ 33 rfl 28 i0 _ 2 underlying33 hi0 hz0 (by simp [Value.cells]) hz1c h0z _ 1 _ rfl b (N*2) (splice C (i*2) X2) 28 h3.o.1 (fun _=>by simp) (by rw [HL3.o];have:=HNC.o;omega) ?_);intro Z w4 h4;go_wp2;go_ret;have hl2:(splice (splice C (i*2) X2) (N*2) Z).take (N*2)=C.take (i*2)++X2:=by
    exact t76
   refine ⟨_,rfl,iE h4.o.2.1 HBB.o om_ HCM.o (by rw [length_splice _ _ _ (by rw [HL3.o,h4.o.1];have:=HNC.o;omega),HL3.o]) hl2, ?_,rfl⟩;exact dF (v:=.slice (some ⟨b,0,none⟩) N cap) (But.trans (But.drewN h3.o.2.1 0) (h4.o.2.2.1.mono (by have:=h3.o.2.2;simp at this;omega))) rfl
end schema
theorem t143{P:Prop}(h:P:=by
 simp only;have:=kP (a:=s.a) hb.1 hb.2;split <;> omega):P:=h
theorem t139{P:Prop}(h:P:=by
 rcases h.op with h | h | h | h | h | h <;> rw [h] <;> rfl):P:=h
theorem t131{P:Prop}(h:P:=by
 have:=(Prod.mk.inj hb).2;simp at this):P:=h
namespace turn
open Go.RowKit schema step typing
open field (Va bytesOf jK jJ)
open record (cu Has eY sJ qp nS)
theorem jO {f:field.Fd} (h:f.kind=1):f.great=f.hi:=by unfold field.Fd.great;rw [if_pos h]
theorem oh {f:field.Fd} (h:f.kind=3):f.great=f.most - 1:=by
 unfold field.Fd.great;rw [if_neg (by rw [h];decide),if_neg (by rw [h];decide),if_pos h]
theorem EC {f:field.Fd} (h:f.kind≠4):f.long=0:=by unfold field.Fd.long;rw [if_neg h]
theorem su {f:field.Fd} (hr:f.Right) (hk:f.kind≠4) (n:Int) (h1:f.lo<=n) (h2:n<=f.great):f.Has (vn n):=
 ⟨hr,⟨h1,h2⟩,by rw [EC hk];exact Int.le_refl _⟩
structure Suit (s:Sp) (x:field.Fd):Prop where
 op:s.op=2\/s.op=3\/s.op=4\/s.op=5\/s.op=6\/s.op=8
 right:x.Right
 c2:s.op=2->x.Has s.v
 c3:s.op=3->x.Wider s.f
 c4:s.op=4->x.kind=1/\s.a≠0
 c5:s.op=5->x.kind=3/\x.most=s.t.length/\Table s.t s.a
 c6:s.op=6->x.kind=1/\x.lo=0/\2<=s.a
def zU (s:Sp) (x:field.Fd) (y:Va):ByteArray:=if s.op=2 then strOf (x.dA y) else ⟨#[]⟩
def dG (s:Sp) (x:field.Fd):List field.Fd:=dX ⟨s,0,[],false,0,x⟩
theorem qZ {s:Sp} {x:field.Fd} (h:Suit s x):(dG s x).length=many s:=by
 unfold dG dX many;simp only
 exact t139
theorem Cj {s:Sp} {x:field.Fd} (h:Suit s x) (y:Va):(dw s y).length=many s:=by
 unfold dw many
 exact t139
theorem kP {a n lo hi:Int} (h1:lo<=n) (h2:n<=hi):(a*lo<=a*n/\a*n<=a*hi)\/(a*hi<=a*n/\a*n<=a*lo):=by
 rcases Int.le_total 0 a with h | h
 ·exact .inl ⟨Int.mul_le_mul_of_nonneg_left h1 h,Int.mul_le_mul_of_nonneg_left h2 h⟩
 ·exact .inr ⟨Int.mul_le_mul_of_nonpos_left h h2,Int.mul_le_mul_of_nonpos_left h h1⟩
theorem JJ {s:Sp} {x:field.Fd} {y:Va} (h:Suit s x) (hy:x.Has y) (hr:∀f∈dG s x,f.Right):cu (dG s x) (dw s y)/\ig s x (dw s y) (zU s x y) (decide (s.op=2))=(y,0):=by
 have hb:=hy.2.1;rcases h.op with h2 | h3 | h4 | h5 | h6 | h8
 ·have e1:dG s x=[]:=by unfold dG dX;simp only;rw [if_pos h2]
  have e2:dw s y=[]:=by unfold dw;rw [if_pos h2]
  have e3:zU s x y=strOf (x.dA y):=by unfold zU;rw [if_pos h2]
  rw [e1,e2,e3];refine ⟨trivial, ?_⟩;have ht:=(field.Fd.ny hy []).1;rw [List.append_nil] at ht;unfold ig;rw [if_pos h2,if_pos (by simp [h2]),jJ (field.Fd.DR x y),ht,if_pos ⟨rfl,rfl⟩];simp only;rw [jK]
 ·have e1:dG s x=[s.f]:=by unfold dG dX;simp only;rw [h3];rfl
  have e2:dw s y=[y]:=by unfold dw;rw [h3];rfl
  rw [e1,e2];refine ⟨ni.2 ((h.c3 h3).has hy), ?_⟩;unfold ig;rw [if_neg om_,if_neg om_,if_neg om_,if_neg om_,if_neg om_];exact zC hy
 ·have e1:dG s x=[{ x with lo:=low ⟨s,0,[],false,0,x⟩,hi:=high ⟨s,0,[],false,0,x⟩}]:=by unfold dG dX;simp only;rw [h4];rfl
  have e2:dw s y=[vn (s.a*y.n+s.b)]:=by unfold dw;rw [h4];rfl
  obtain ⟨hk,ha⟩:=h.c4 h4;rw [jO hk] at hb;have hys:=qO hy om_;rw [e1] at hr;have hr1:=hr _ (List.mem_singleton_self _);rw [e1,e2];constructor
  ·refine ni.2 (su hr1 (by show x.kind≠4;omega) _ ?_ ?_)
   ·show low _<=_
    unfold low scA scB
    exact t143
   ·rw [jO (show ({ x with lo:=low ⟨s,0,[],false,0,x⟩,hi:=high ⟨s,0,[],false,0,x⟩}:field.Fd).kind=1 from hk)];show _<=high _
    unfold high scA scB
    exact t143
  ·unfold ig;rw [if_neg om_,if_neg om_,if_pos h4];simp only [List.getD_cons_zero];have e:(vn (s.a*y.n+s.b)).n - s.b=s.a*y.n:=by show s.a*y.n+s.b - s.b=_;omega
   rw [e,if_neg si_,Int.mul_tdiv_cancel_left _ ha,<-hys];exact zC hy
 ·have e1:dG s x=[{ x with most:=s.a}]:=by unfold dG dX;simp only;rw [h5];rfl
  have e2:dw s y=[vn (s.t.getD y.n.toNat 0)]:=by unfold dw;rw [h5];rfl
  obtain ⟨hk,hm,ht1,ht2,ht3⟩:=h.c5 h5;have hxr:=h.right;unfold field.Fd.Right at hxr;rw [oh hk] at hb;have hys:=qO hy om_;rw [e1] at hr;have hr1:=hr _ (List.mem_singleton_self _);have hlo:x.lo=0:=by omega
  have hn:y.n.toNat<s.t.length:=by omega
  have hg:s.t.getD y.n.toNat 0=s.t[y.n.toNat]:=by rw [List.getD_eq_getElem?_getD,List.getElem?_eq_getElem hn];rfl
  have hmem:s.t.getD y.n.toNat 0∈s.t:=by rw [hg];exact List.getElem_mem hn
  have hbt:=ht2 _ hmem;rw [e1,e2];constructor
  ·refine ni.2 (su hr1 (by show x.kind≠4;omega) _ ?_ ?_)
   ·show x.lo<=_;omega
   ·rw [oh (show ({ x with most:=s.a}:field.Fd).kind=3 from hk)];show _<=s.a - 1
    omega
  ·unfold ig;rw [if_neg om_,if_neg om_,if_neg om_,if_pos h5];simp only [List.getD_cons_zero];have e:(vn (s.t.getD y.n.toNat 0)).n=s.t.getD y.n.toNat 0:=rfl;have hi:s.t.idxOf (s.t.getD y.n.toNat 0)=y.n.toNat:=by rw [hg];exact List.Nodup.idxOf_getElem ht3 ..
   rw [e,if_pos hmem,hi,show ((y.n.toNat:Nat):Int)=y.n by omega,<-hys];exact zC hy
 ·have e1:dG s x=[{ x with hi:=Int.tdiv x.hi s.a},⟨s.tt,1,0,mn (s.a - 1) x.hi,0⟩]:=by unfold dG dX;simp only;rw [h6];rfl
  have e2:dw s y=[vn (y.n.tdiv s.a),vn (y.n.tmod s.a)]:=by unfold dw;rw [h6];rfl
  obtain ⟨hk,hlo,ha⟩:=h.c6 h6;rw [jO hk] at hb;have hys:=qO hy om_;rw [e1] at hr;have hr1:=hr _ (List.mem_cons_self ..);have hr2:=hr _ (List.mem_cons_of_mem _ (List.mem_cons_self ..));have hn0:0<=y.n:=by omega
  have d1:y.n.tdiv s.a=y.n / s.a:=Int.tdiv_eq_ediv_of_nonneg hn0;have d2:x.hi.tdiv s.a=x.hi / s.a:=Int.tdiv_eq_ediv_of_nonneg om_;have d3:y.n.tmod s.a=y.n % s.a:=Int.tmod_eq_emod_of_nonneg hn0;have m1:=Int.emod_nonneg y.n (show s.a≠0 by omega);have m2:=Int.emod_lt_of_pos y.n (show 0<s.a by omega);have m3:0<=y.n / s.a:=Int.ediv_nonneg hn0 om_;have m4:y.n / s.a<=x.hi / s.a:=Int.ediv_le_ediv om_ hb.2;have m5:=Int.mul_ediv_add_emod y.n s.a;have m6:0<=s.a*(y.n / s.a):=Int.mul_nonneg om_ m3;rw [e1,e2];constructor
  ·refine ⟨su hr1 (by show x.kind≠4;omega) _ ?_ ?_,su hr2 (by show (1:Int)≠4;omega) _ ?_ ?_,trivial⟩
   ·show x.lo<=_;rw [d1];omega
   ·rw [jO (show ({ x with hi:=Int.tdiv x.hi s.a}:field.Fd).kind=1 from hk)];show _<=x.hi.tdiv s.a
    rw [d1,d2];exact m4
   ·show 0<=_;rw [d3];exact m1
   ·show _<=mn (s.a - 1) x.hi
    rw [d3];unfold mn;split <;> omega
  ·unfold ig;rw [if_neg om_,if_neg om_,if_neg om_,if_neg om_,if_pos h6];simp only [List.getD_cons_zero,List.getD_cons_succ];have e:(vn (y.n.tdiv s.a)).n*s.a+(vn (y.n.tmod s.a)).n=y.n:=by
    show y.n.tdiv s.a*s.a+y.n.tmod s.a=y.n
    rw [d1,d3,Int.mul_comm];exact m5
   rw [e,<-hys];exact zC hy
 ·have e1:dG s x=[{ x with id:=s.tt}]:=by unfold dG dX;simp only;rw [h8];rfl
  have e2:dw s y=[y]:=by unfold dw;rw [h8];rfl
  rw [e1] at hr;have hr1:=hr _ (List.mem_singleton_self _);rw [e1,e2];refine ⟨ni.2 ⟨hr1,hy.2.1,hy.2.2⟩, ?_⟩;unfold ig;rw [if_neg om_,if_pos h8];rfl
theorem FM {x1 x2:field.Fd} {G:List Va} (h:cu [x1,x2] G):∃z1 z2,G=[z1,z2]/\x1.Has z1/\x2.Has z2:=by
 match G,h with
 | [z1,z2],h=>exact ⟨z1,z2,rfl,h.1,h.2.1⟩
theorem mG {x1:field.Fd} {G:List Va} (h:cu [x1] G):∃z1,G=[z1]/\x1.Has z1:=by
 match G,h with
 | [z1],h=>exact ⟨z1,rfl,h.1⟩
theorem FI {G:List Va} (h:cu [] G):G=[]:=by
 match G,h with
 | [],h=>rfl
theorem Gs {s:Sp} {x:field.Fd} {y:Va} {G:List Va} {lost:ByteArray} {has:Bool} (h:Suit s x) (hG:cu (dG s x) G) (hb:ig s x G lost has=(y,0)):x.Has y/\dw s y=G:=by
 unfold ig at hb;rcases h.op with h2 | h3 | h4 | h5 | h6 | h8
 ·have e1:dG s x=[]:=by unfold dG dX;simp only;rw [if_pos h2]
  have e2:dw s y=[]:=by unfold dw;rw [if_pos h2]
  rw [e1] at hG;rw [e2,FI hG];refine ⟨?_,rfl⟩;rw [if_pos h2] at hb;cases has with
  | true=>
   rw [if_pos rfl] at hb;by_cases ht:(x.take (bytesOf lost)).e=0/\(x.take (bytesOf lost)).c=(bytesOf lost).length
   ·rw [if_pos ht] at hb;cases hb
    exact (field.Fd.vZ (field.jG lost) ht.1).1
   ·rw [if_neg ht] at hb
    exact t131
  | false=>
   rw [if_neg si_] at hb;cases hb
   exact h.c2 h2
 ·have e1:dG s x=[s.f]:=by unfold dG dX;simp only;rw [h3];rfl
  have e2:dw s y=[y]:=by unfold dw;rw [h3];rfl
  rw [e1] at hG;obtain ⟨z,rfl,hz⟩:=mG hG;rw [if_neg om_,if_neg om_,if_neg om_,if_neg om_,if_neg om_] at hb;obtain ⟨k1,k2⟩:=vk hb;rw [e2];exact ⟨k1,by rw [<-k2];rfl⟩
 ·have e1:dG s x=[{ x with lo:=low ⟨s,0,[],false,0,x⟩,hi:=high ⟨s,0,[],false,0,x⟩}]:=by unfold dG dX;simp only;rw [h4];rfl
  have e2:dw s y=[vn (s.a*y.n+s.b)]:=by unfold dw;rw [h4];rfl
  obtain ⟨hk,ha⟩:=h.c4 h4;rw [e1] at hG;obtain ⟨z,rfl,hz⟩:=mG hG;have hzs:=qO hz (by show x.kind≠4;omega);rw [if_neg om_,if_neg om_,if_pos h4] at hb;simp only [List.getD_cons_zero] at hb;by_cases hm:(z.n - s.b).tmod s.a=0
  ·rw [if_neg (by simpa using hm)] at hb;obtain ⟨k1,k2⟩:=vk hb;rw [e2,<-k2];refine ⟨k2 ▸ k1, ?_⟩;have:s.a*((z.n - s.b).tdiv s.a)=z.n - s.b:=Int.mul_tdiv_cancel_of_tmod_eq_zero hm;show [vn (s.a*((z.n - s.b).tdiv s.a)+s.b)]=[z]
   rw [this,hzs];show [vn ((vn z.n).n - s.b+s.b)]=_
   rw [show (vn z.n).n - s.b+s.b=z.n by show z.n - s.b+s.b=z.n;omega]
  ·rw [if_pos hm] at hb
   exact t131
 ·have e1:dG s x=[{ x with most:=s.a}]:=by unfold dG dX;simp only;rw [h5];rfl
  have e2:dw s y=[vn (s.t.getD y.n.toNat 0)]:=by unfold dw;rw [h5];rfl
  obtain ⟨hk,hm,ht1,ht2,ht3⟩:=h.c5 h5;rw [e1] at hG;obtain ⟨z,rfl,hz⟩:=mG hG;have hzs:=qO hz (by show x.kind≠4;omega);rw [if_neg om_,if_neg om_,if_neg om_,if_pos h5] at hb;simp only [List.getD_cons_zero] at hb;by_cases hmem:z.n∈s.t
  ·rw [if_pos hmem] at hb;obtain ⟨k1,k2⟩:=vk hb;rw [e2,<-k2];refine ⟨k2 ▸ k1, ?_⟩;have hl:=List.idxOf_lt_length_of_mem hmem;show [vn (s.t.getD (((s.t.idxOf z.n:Nat):Int)).toNat 0)]=[z]
   rw [Int.toNat_natCast,List.getD_eq_getElem?_getD,List.getElem?_eq_getElem hl,List.getElem_idxOf];conv=>rhs;rw [hzs]
   rfl
  ·rw [if_neg hmem] at hb
   exact t131
 ·have e1:dG s x=[{ x with hi:=Int.tdiv x.hi s.a},⟨s.tt,1,0,mn (s.a - 1) x.hi,0⟩]:=by unfold dG dX;simp only;rw [h6];rfl
  have e2:dw s y=[vn (y.n.tdiv s.a),vn (y.n.tmod s.a)]:=by unfold dw;rw [h6];rfl
  obtain ⟨hk,hlo,ha⟩:=h.c6 h6;rw [e1] at hG;obtain ⟨z1,z2,rfl,hz1,hz2⟩:=FM hG;have hs1:=qO hz1 (by show x.kind≠4;omega);have hs2:=qO hz2 (by show (1:Int)≠4;omega);have hb1:=hz1.2.1;have hb2:=hz2.2.1;rw [jO (show ({ x with hi:=Int.tdiv x.hi s.a}:field.Fd).kind=1 from hk)] at hb1;rw [jO (show (⟨s.tt,1,0,mn (s.a - 1) x.hi,0⟩:field.Fd).kind=1 from rfl)] at hb2;simp only at hb1 hb2;have hmn:mn (s.a - 1) x.hi<=s.a - 1:=by unfold mn;split <;> omega
  rw [if_neg om_,if_neg om_,if_neg om_,if_neg om_,if_pos h6] at hb;simp only [List.getD_cons_zero,List.getD_cons_succ] at hb;obtain ⟨k1,k2⟩:=vk hb;rw [e2,<-k2];refine ⟨k2 ▸ k1, ?_⟩;have h0:0<=z1.n*s.a:=Int.mul_nonneg om_ om_;have d1:(z1.n*s.a+z2.n).tdiv s.a=z1.n:=by
   rw [Int.tdiv_eq_ediv_of_nonneg om_,Int.add_comm,Int.add_mul_ediv_right _ _ om_,Int.ediv_eq_zero_of_lt om_ om_];omega
  have d2:(z1.n*s.a+z2.n).tmod s.a=z2.n:=by
   rw [Int.tmod_eq_emod_of_nonneg om_,Int.add_comm,Int.add_mul_emod_self_right,Int.emod_eq_of_lt om_ om_]
  show [vn ((z1.n*s.a+z2.n).tdiv s.a),vn ((z1.n*s.a+z2.n).tmod s.a)]=[z1,z2]
  rw [d1,d2,<-hs1,<-hs2]
 ·have e1:dG s x=[{ x with id:=s.tt}]:=by unfold dG dX;simp only;rw [h8];rfl
  have e2:dw s y=[y]:=by unfold dw;rw [h8];rfl
  rw [e1] at hG;obtain ⟨z,rfl,hz⟩:=mG hG;rw [if_neg om_,if_pos h8] at hb;cases hb
  rw [e2];exact ⟨⟨h.right,hz.2.1,hz.2.2⟩,rfl⟩
end turn
theorem t178{P:Prop}(h:P:=by
 refine plan.bI (w1:=w3) 10 _ (zS c.s.fm ya c.s.l.length yc) rfl rfl hA3.k0 ?_
 exact t149):P:=h
theorem t149{P:Prop}(h:P:=by
 have hA4:=hA3.later (aC w3 (.cells (zS c.s.fm ya c.s.l.length yc) 57));refine plan.bI (w1:=w3.alloc (.cells (zS c.s.fm ya c.s.l.length yc) 57)) 11 _ (.slice (some ⟨w3.heap.size,0,none⟩) 1 1) rfl rfl hA4.k0 ?_
 exact t2):P:=h
theorem t104{P:Prop}(h:P:=by
 exact below_setCells (below_setCells e3 om_ 0 [_]) om_ 1 [_]):P:=h
theorem t62{P:Prop}(h:P:=by
 have h1:=aC w (.cells (zH c ta tc la lc fa fc) 93);have h2:=h1.alloc h1.size (.cells (zS v a F.length cc) 24);exact h2.alloc h2.size _):P:=h
theorem t56{P:Prop}(h:P:=by
 have:=(Block.new ((w.alloc (.cells (zH c ta tc la lc fa fc) 93))) 24 (zS v a F.length cc)).alloc (.cells #[.int .i64 0,.slice none 0 0] 24);simpa using this):P:=h
theorem t2{P:Prop}(h:P:=by
 have hq:qK (w.heap.size+3) (w3.alloc (.cells (zS c.s.fm ya c.s.l.length yc) 57)) ⟨c.s.fm,ya,yc,c.s.l⟩:=(dV ho3 (by have:=hA2.low;exact this.2)).alloc _;have cI:=mr (w.heap.size+3) G.length P w3.heap.size 0 1 (fmC ⟨c.s.fm,ya,yc,c.s.l⟩) 57 (.slice x G.length xc) (fmV G) (fmC ⟨c.s.fm,ya,yc,c.s.l⟩) (w3.alloc (.cells (zS c.s.fm ya c.s.l.length yc) 57)) hA4.row hA4.low.2 om_ rfl (Block.new w3 _ _) (by simp [fmC]) (fun e=>by have:=(World.ownsRow.lt hA3.row _ e).2;omega) (fun j u hj=>by rw [Nat.zero_add];exact hj) (by intro u hu;simp [fmC] at hu;rcases hu with rfl | rfl <;> rfl) (nO G) (by have:=HF40.o;omega);unfold BB at cI;refine plan.fJ 12 _ 87 #[.slice x G.length xc,.int .i64 (P:Int),.slice (some ⟨w3.heap.size,0,none⟩) 1 1] rfl (cI.mono ?_);rintro e w4 ⟨v4,rfl,ho4,hg4⟩;obtain ⟨x4,xc4,rfl,_⟩:=aB ho4;have ho4':w4.ownsRow (w.heap.size+3) 57 2 (.slice x4 (G.length+1) xc4) (G.length+1) (fmV (G.take P++([⟨c.s.fm,ya,yc,c.s.l⟩]++G.drop P))):=by
  rw [dS,dS,<-pG,<-pR];exact ho4
 have hh:=hA4.hold hg4;have hA5:=hA4.put hg4 ho4' (fun p hp=>by
  rcases List.mem_append.1 hp with h | h
  ·exact hA4.each p (List.mem_of_mem_take h)
  ·rcases List.mem_append.1 h with h2 | h2
   ·rw [List.mem_singleton.1 h2];exact hq
   ·exact hA4.each p (List.mem_of_mem_drop h2))
 have hk0:Block w4 w.heap.size 93 (zH c ta tc la lc fa fc):=(hg4.block _ hA4.k0.lt (fun e=>by have:=(World.ownsRow.lt hA4.row _ e.symm).1;omega)).trans hA4.k0;refine ⟨_,rfl,hk0, ?_⟩;refine plan.bI (w1:=w4) 13 _ (.pointer (some ⟨w.heap.size+1,1,none⟩)) rfl rfl hk0 ?_;obtain ⟨w5,hw5⟩:∃w5,Hid (w4.setCell ⟨w.heap.size+1,1,none⟩ (.slice x4 (G.length+1) xc4)=w5):=⟨_,rfl⟩;rw [hw5.o] at hA5;have hrun:=fun (o:Oper) (act:Act) (q1:o.op=.store 22 (.tmp 43) (.tmp 42)) (q2:act.eval (.tmp 43)=.pointer (some ⟨w.heap.size+1,1,none⟩)) (q3:act.eval (.tmp 42)=.slice x4 (G.length+1) xc4)=>iI (o:=o) (a:=act) q1 q2 q3 (hh.cell 1) (hh.frozen 1)
 rw [hw5.o] at hrun;refine plan.iQ (w1:=w5) 14 _ rfl rfl rfl (hrun _ _ rfl kr_ kr_) hA5.k0 ?_;have HA5:=hid hA5;clear hA5 hA4 hA3 hA2 hq cI ho4 ho4' hg4 hh hk0 hrun hw5 hGl ho3 hb3 hS cC;have z10:=HA5.o.k1.cell 0;have z11:=HA5.o.k1.cell 1;have q20:=HA5.o.k2.cell 0;have q21:=HA5.o.k2.cell 1;have r20:=HA5.o.k2.frozen 0;have r21:=HA5.o.k2.frozen 1;walk_nrm;go_wp2;have hR:=(HA5.o.k2.setCell 0 (.int .i64 v)).setCell 1 (.slice x4 (G.length+1) xc4);refine bodyPost_ret (aO (b:=w.heap.size+1+1) (o:=0) rfl rfl hR.whole underlying24 rfl (bT _ _)) rfl ?_;have hd:=HA5.o.done rfl;rw [HFE.o _ rfl] at hd;exact hd):P:=h
namespace typing
open Go.RowKit schema rows
open field (Gives aC aj)
theorem pG (L:List Fm) (i:Nat):(fmV L).take (i*2)=fmV (L.take i):=by
 by_cases h:i<=L.length
 ·conv=>lhs;rw [<-List.take_append_drop i L,dS]
  exact List.take_left' (by rw [iV,List.length_take,Nat.min_eq_left h])
 ·rw [List.take_of_length_le (by rw [iV];omega),List.take_of_length_le om_]
theorem pR (L:List Fm) (i:Nat):(fmV L).drop (i*2)=fmV (L.drop i):=by
 by_cases h:i<=L.length
 ·conv=>lhs;rw [<-List.take_append_drop i L,dS]
  exact List.drop_left' (by rw [iV,List.length_take,Nat.min_eq_left h])
 ·rw [List.drop_of_length_le (by rw [iV];omega),List.drop_of_length_le om_];rfl
structure Ap (T B0:Nat) (K:List Value) (v:Int) (u:Value) (n:Nat) (G:List Fm) (w w2:World):Prop where
 k0:Block w2 B0 93 K
 k1:Block w2 (B0+1) 24 [.int .i64 v,u]
 k2:Block w2 (B0+1+1) 24 [.int .i64 0,.slice none 0 0]
 row:w2.ownsRow T 57 2 u n (fmV G)
 each:∀p∈G,qK T w2 p
 below:Below B0 w w2
 low:B0+3<=T/\T<=w2.heap.size
variable {T B0 n:Nat} {K:List Value} {v:Int} {u:Value} {G:List Fm} {w w2 w3:World}
theorem Ap.len (h:Ap T B0 K v u n G w w2):n=G.length:=by
 have:=h.row.1;rw [iV] at this;omega
theorem Ap.later (h:Ap T B0 K v u n G w w2) (hb:Below w2.heap.size w2 w3):Ap T B0 K v u n G w w3:=
 ⟨h.k0.later hb,h.k1.later hb,h.k2.later hb,aK h.row hb,fun p hp=>aK (h.each p hp) hb,h.below.trans (hb.mono (by have:=h.low;omega)),⟨h.low.1,Nat.le_trans h.low.2 hb.size⟩⟩
theorem Ap.put {m:Nat} {u':Value} {G':List Fm} (h:Ap T B0 K v u n G w w2) (hg:w2.grownBy w3 u.ownBlock) (ho:w3.ownsRow T 57 2 u' m (fmV G')) (hG:∀p∈G',qK T w2 p):Ap T B0 K v u' m G' w (w3.setCell ⟨B0+1,1,none⟩ u'):=by
 have hlt:=fun j hj=>World.ownsRow.lt h.row j hj
 have hl:=h.low;have hbk:∀j,j<T->w3.heap[j]?=w2.heap[j]?:=fun j hj=>hg.block j om_ (fun e=>by have:=hlt j e.symm;omega)
 have e0:Block w3 B0 93 K:=(hbk B0 om_).trans h.k0;have e1:Block w3 (B0+1) 24 [.int .i64 v,u]:=(hbk _ om_).trans h.k1;have e2:Block w3 (B0+1+1) 24 [.int .i64 0,.slice none 0 0]:=(hbk _ om_).trans h.k2;have hsy:=rq 26 h.row hg H9;refine ⟨e0.apart _ _ _ om_,e1.setCell 1 u',e2.apart _ _ _ om_,aZ ho om_,fun p hp=>aZ (hsy.row (hG p hp)) om_, ?_,⟨h.low.1,Nat.le_trans h.low.2 (by simpa using hg.size)⟩⟩;exact below_setCells (h.below.grown hg om_ (fun j hj=>by have:=hlt j hj;omega)) om_ 1 [u']
theorem Ap.hold (h:Ap T B0 K v u n G w w2) (hg:w2.grownBy w3 u.ownBlock):Block w3 (B0+1) 24 [.int .i64 v,u]:=by
 have hl:=h.low;exact (hg.block _ om_ (fun e=>by have:=World.ownsRow.lt h.row _ e.symm;omega)).trans h.k1
theorem Ap.done (h:Ap T B0 K v u n G w w2) (hw:w.heap.size=B0):iP v (forms G) w (.returned (.agg #[.int .i64 v,u])) ((w2.setCell ⟨B0+1+1,0,none⟩ (.int .i64 v)).setCell ⟨B0+1+1,1,none⟩ u):=by
 have hl:=h.low;refine ⟨u,G,rfl, ?_,fun p hp=> ?_,rfl, ?_⟩
 ·rw [hw,<-h.len];exact dV (aZ (aZ h.row om_) om_) om_
 ·rw [hw];exact dV (aZ (aZ (h.each p hp) om_) om_) om_
 ·rw [hw];exact below_setCells (below_setCells h.below om_ 0 [_]) om_ 1 [_]
theorem dn {o:Oper} {a:Act} {w:World} {x y:Operand} {b off len cap i:Nat} (ho:o.op=.indexAddr 22 x y) (hi:i<len) (hx:a.eval x=.slice (some ⟨b,off,none⟩) len cap:=by kernel_rfl) (hy:a.eval y=.int .i64 (i:Int):=by kernel_rfl):
  (execOp a.eval o).run prog w=.ok (.value (.pointer (some ⟨b,off+i*2,none⟩))) w:=by
 exact t44
theorem iI {o:Oper} {a:Act} {w:World} {x y:Operand} {ad:Addr} {v:Value} {p:Option Addr} {n c:Nat} (ho:o.op=.store 22 x y) (hx:a.eval x=.pointer (some ad)) (hy:a.eval y=.slice p n c) (hc:w.cell? ad=some v) (hf:w.frozen? ad=false):(execOp a.eval o).run prog w=.ok .skip (w.setCell ad (.slice p n c)):=by
 exact t44
theorem Ap.set {g cap P:Nat} {p q:Fm} (h:Ap T B0 K v (.slice (some ⟨g,0,none⟩) n cap) n G w w2) (hp:G[P]?=some p) (hq:q.id=p.id) (ho:qK T w2 q):
  Ap T B0 K v (.slice (some ⟨g,0,none⟩) n cap) n (G.set P q) w (w2.setCell ⟨g,P*2+1,none⟩ (.slice q.f q.fL.length q.fCap)):=by
 have hg:=World.ownsRow.lt h.row g rfl;have hl:=h.low;have hst:=h.row.stored (P*2+1) (.slice q.f q.fL.length q.fCap);rw [zi G P p q _ hp hq rfl] at hst;have hsy:jR 26 w2 (w2.setCell ⟨g,P*2+1,none⟩ (.slice q.f q.fL.length q.fCap)):=by
  rcases h.row.2 with ⟨hv,_⟩ | ⟨g',cap',cur,hv,_,hh,_⟩
  ·cases hv
  ·exact t120
 refine ⟨h.k0.apart _ _ _ om_,h.k1.apart _ _ _ om_,h.k2.apart _ _ _ om_,hst.1,fun r hr=> ?_,below_setCells h.below om_ _ [_],⟨hl.1,by simpa using hl.2⟩⟩;rcases List.mem_or_eq_of_mem_set hr with h1 | rfl
 ·exact hsy.row (h.each r h1)
 ·exact hsy.row ho
theorem uw (G:List Fm) (i:Nat):forms (G.take i)=(forms G).take i:=by unfold forms;rw [List.map_take]
theorem uo (G:List Fm) (i:Nat):forms (G.drop i)=(forms G).drop i:=by unfold forms;rw [List.map_drop]
theorem nV (A D:List Fm):forms (A++D)=forms A++forms D:=by unfold forms;rw [List.map_append]
set_option maxRecDepth 20000 in
set_option maxHeartbeats 3200000 in
theorem qx (c:Ch) (ta:Option Addr) (tc:Nat) (la:Option Addr) (lc:Nat) (fa:Option Addr) (fc:Nat) (w:World) (v:Int) (a:Option Addr) (cc:Nat) (F:List Fm) (hm:Fms w a F) (hF:Small w F) (hs:Sorted (forms F)) (h10:c.s.op=10) (hk:named (forms F) c.s.fm≠none):
  Calls prog 46 #[zH c ta tc la lc fa fc,zS v a F.length cc] w (iP v (applied (forms F) c) w):=by
 have hbw:Below w.heap.size w ((((w.alloc (.cells (zH c ta tc la lc fa fc) 93))).alloc (.cells (zS v a F.length cc) 24)).alloc (.cells #[.int .i64 0,.slice none 0 0] 24)):=by
  exact t62
 have hsz:(((((w.alloc (.cells (zH c ta tc la lc fa fc) 93))).alloc (.cells (zS v a F.length cc) 24)).alloc (.cells #[.int .i64 0,.slice none 0 0] 24))).heap.size=w.heap.size+3:=by simp
 have HX:Hid (∀w',Below (((((w.alloc (.cells (zH c ta tc la lc fa fc) 93))).alloc (.cells (zS v a F.length cc) 24)).alloc (.cells #[.int .i64 0,.slice none 0 0] 24))).heap.size ((((w.alloc (.cells (zH c ta tc la lc fa fc) 93))).alloc (.cells (zS v a F.length cc) 24)).alloc (.cells #[.int .i64 0,.slice none 0 0] 24)) w'->Block w' w.heap.size 93 (zH c ta tc la lc fa fc)/\Block w' (w.heap.size+1) 24 (zS v a F.length cc)/\Block w' (w.heap.size+1+1) 24 [.int .i64 0,.slice none 0 0]/\Below w.heap.size w w'):=hid (fun w' hb=>by
  refine ⟨(((Block.new w _ _).alloc _).alloc _).later hb,Block.later (w:=((((w.alloc (.cells (zH c ta tc la lc fa fc) 93))).alloc (.cells (zS v a F.length cc) 24)).alloc (.cells #[.int .i64 0,.slice none 0 0] 24))) ?_ hb,Block.later (w:=((((w.alloc (.cells (zH c ta tc la lc fa fc) 93))).alloc (.cells (zS v a F.length cc) 24)).alloc (.cells #[.int .i64 0,.slice none 0 0] 24))) ?_ hb,hbw.trans (hb.mono om_)⟩
  ·exact t56
  ·have:=Block.new (((w.alloc (.cells (zH c ta tc la lc fa fc) 93))).alloc (.cells (zS v a F.length cc) 24)) 24 [.int .i64 0,.slice none 0 0];simpa using this)
 have cCl:=iT v a cc F ((((w.alloc (.cells (zH c ta tc la lc fa fc) 93))).alloc (.cells (zS v a F.length cc) 24)).alloc (.cells #[.int .i64 0,.slice none 0 0] 24)) (hm.below hbw) (hF.below hbw);unfold iP at cCl;have h40:=hF.1;have HAP:Hid (∀(w1:World) (x:Option Addr) (xc:Nat) (G:List Fm),Below (((((w.alloc (.cells (zH c ta tc la lc fa fc) 93))).alloc (.cells (zS v a F.length cc) 24)).alloc (.cells #[.int .i64 0,.slice none 0 0] 24))).heap.size ((((w.alloc (.cells (zH c ta tc la lc fa fc) 93))).alloc (.cells (zS v a F.length cc) 24)).alloc (.cells #[.int .i64 0,.slice none 0 0] 24)) w1->w1.ownsRow (((((w.alloc (.cells (zH c ta tc la lc fa fc) 93))).alloc (.cells (zS v a F.length cc) 24)).alloc (.cells #[.int .i64 0,.slice none 0 0] 24))).heap.size 57 2 (.slice x G.length xc) G.length (fmV G)->(∀p∈G,qK (((((w.alloc (.cells (zH c ta tc la lc fa fc) 93))).alloc (.cells (zS v a F.length cc) 24)).alloc (.cells #[.int .i64 0,.slice none 0 0] 24))).heap.size w1 p)->
   Ap (w.heap.size+3) w.heap.size (zH c ta tc la lc fa fc) v (.slice x G.length xc) G.length G w ((w1.setCell ⟨w.heap.size+1,0,none⟩ (.int .i64 v)).setCell ⟨w.heap.size+1,1,none⟩ (.slice x G.length xc))):=hid (fun w1 x xc G hb ho he=>by
  obtain ⟨e0,e1,e2,e3⟩:=HX.o w1 hb;rw [hsz] at ho he;refine ⟨(e0.apart _ _ _ om_).apart _ _ _ om_,(e1.setCell 0 (.int .i64 v)).setCell 1 (.slice x G.length xc),(e2.apart _ _ _ om_).apart _ _ _ om_,aZ (aZ ho om_) om_,fun p hp=>aZ (aZ (he p hp) om_) om_, ?_, ?_⟩
  ·exact t104
  ·have:=hb.size;rw [hsz] at this;simpa using this)
 have HS:=hid hs;have HF40:=hid h40;clear hbw hsz hm hs h40;have d9:=bf (show ¬c.s.op=9 by omega);have d10:=bt h10;have hlt:pos (forms F) c.s.fm<F.length:=by
  obtain ⟨p,hp⟩:=Option.ne_none_iff_exists'.1 hk;obtain ⟨h1,h2⟩:=cZ hp;have:=pos_at HS.o h1;rw [h2] at this;have:=(List.getElem?_eq_some_iff.1 this).1;rwa [aF] at this
 have hap:applied (forms F) c=(forms F).take (pos (forms F) c.s.fm)++(forms F).drop (pos (forms F) c.s.fm+1):=by unfold applied;rw [if_neg om_,if_pos h10]
 rw [hap];clear h10 hk hap;obtain ⟨P,hP⟩:∃P,Hid (pos (forms F) c.s.fm=P):=⟨_,rfl⟩;rw [hP.o] at hlt ⊢;obtain ⟨N,hN⟩:∃N,Hid (F.length=N+1):=⟨F.length - 1,hid om_⟩;have hPN:P<=N:=by have:=hN.o;omega
 have hN40:N<=40:=by have:=hN.o;have:=HF40.o;omega
 have hPi:(P:Int)<=40:=by omega
 have n1:w.heap.size≠w.heap.size+1:=by omega
 have n2:w.heap.size+1≠w.heap.size+1+1:=by omega
 clear hlt;go_enter func46,ntmps46;go_wp2_with (first
   | (go_at_call 83;((with_reducible refine cCl.mono ?_);rintro e w1 ⟨u,G,rfl,hou,heach,heq,hb1⟩;obtain ⟨x,xc,rfl,hxc⟩:=aB hou;obtain ⟨b0,b1,b2,hbo⟩:=HX.o w1 hb1;have y1:=b0.cell 1;have y10:=b1.cell 0;have y11:=b1.cell 1;have f10:=b1.frozen 0;have f11:=b1.frozen 1;have HAP1:=hid (HAP.o w1 x xc G hb1 hou heach);have HEQ:=hid heq;have cSe:=rM x xc G c.s.fm _ (qC HAP1.o.row).1 (by have:=congrArg List.length heq;rw [aF,aF] at this;have:=HF40.o;omega) (by rw [heq];exact HS.o);rw [heq,hP.o] at cSe;clear hou heach heq hb1 b0 b1 b2 hbo))
   | (go_at_call 84;((with_reducible refine cSe.mono ?_);rintro e w2 ⟨b,rfl,hb2⟩;have HA2:=hid (HAP1.o.later hb2);have z10:=HA2.o.k1.cell 0;have z11:=HA2.o.k1.cell 1;have zop:=HA2.o.k0.cell 0;have g11:=HA2.o.k1.frozen 1;have q20:=HA2.o.k2.cell 0;have q21:=HA2.o.k2.cell 1;have r20:=HA2.o.k2.frozen 0;have r21:=HA2.o.k2.frozen 1;clear hb2))
   | (go_at_call 88;(have hGl:G.length=N+1:=(by have:=congrArg List.length HEQ.o;rw [aF,aF,hN.o] at this;exact this));(have cD:=Bv (w.heap.size+3) N P (.slice x G.length xc) (fmV G) w2 (by rw [<-hGl];exact HA2.o.row) om_ (nO G) om_);unfold LessM at cD;((with_reducible refine cD.mono ?_);rintro e w3 ⟨v3,rfl,ho3,hg3,hob⟩;obtain ⟨x3,xc3,rfl,hx3⟩:=aB ho3;rw [pG,pR,<-dS] at ho3;have hh:=HA2.o.hold hg3;have p11:=hh.cell 1;have g11':=hh.frozen 1;have HA5:=hid (HA2.o.put hg3 ho3 (fun p hp=>HA2.o.each p ((List.mem_append.1 hp).elim (fun h=>List.mem_of_mem_take h) (fun h=>List.mem_of_mem_drop h))));have z10:=HA5.o.k1.cell 0;have z11:=HA5.o.k1.cell 1;have q20:=HA5.o.k2.cell 0;have q21:=HA5.o.k2.cell 1;have r20:=HA5.o.k2.frozen 0;have r21:=HA5.o.k2.frozen 1;clear ho3 hg3 hob hh hGl)))
 have hR:=(HA5.o.k2.setCell 0 (.int .i64 v)).setCell 1 (.slice x3 N xc3);refine bodyPost_ret (aO (b:=w.heap.size+1+1) (o:=0) rfl rfl hR.whole underlying24 rfl (bT _ _)) rfl ?_;have hd:=HA5.o.done rfl;rw [nV,uw,uo,HEQ.o] at hd;exact hd
set_option maxRecDepth 20000 in
set_option maxHeartbeats 3200000 in
theorem xQ (c:Ch) (ta:Option Addr) (tc:Nat) (la:Option Addr) (lc:Nat) (fa:Option Addr) (fc:Nat) (w:World) (v:Int) (a:Option Addr) (cc:Nat) (F:List Fm) (hm:Fms w a F) (hF:Small w F) (hs:Sorted (forms F)) (h9:¬c.s.op=9) (h10:¬c.s.op=10) (p0:schema.Form) (hk:named (forms F) c.s.fm=some p0) (hfa:field.Fds w fa c.L) (hL:c.L.length<=40) (hp:Places c) (hb4:c.s.op=4->Bd c) (hb6:c.s.op=6->Bq c):
  Calls prog 46 #[zH c ta tc la lc fa fc,zS v a F.length cc] w (iP v (applied (forms F) c) w):=by
 have hbw:Below w.heap.size w ((((w.alloc (.cells (zH c ta tc la lc fa fc) 93))).alloc (.cells (zS v a F.length cc) 24)).alloc (.cells #[.int .i64 0,.slice none 0 0] 24)):=by
  exact t62
 have hsz:(((((w.alloc (.cells (zH c ta tc la lc fa fc) 93))).alloc (.cells (zS v a F.length cc) 24)).alloc (.cells #[.int .i64 0,.slice none 0 0] 24))).heap.size=w.heap.size+3:=by simp
 have HX:Hid (∀w',Below (((((w.alloc (.cells (zH c ta tc la lc fa fc) 93))).alloc (.cells (zS v a F.length cc) 24)).alloc (.cells #[.int .i64 0,.slice none 0 0] 24))).heap.size ((((w.alloc (.cells (zH c ta tc la lc fa fc) 93))).alloc (.cells (zS v a F.length cc) 24)).alloc (.cells #[.int .i64 0,.slice none 0 0] 24)) w'->Block w' w.heap.size 93 (zH c ta tc la lc fa fc)/\Block w' (w.heap.size+1) 24 (zS v a F.length cc)/\Block w' (w.heap.size+1+1) 24 [.int .i64 0,.slice none 0 0]/\Below w.heap.size w w'):=hid (fun w' hb=>by
  refine ⟨(((Block.new w _ _).alloc _).alloc _).later hb,Block.later (w:=((((w.alloc (.cells (zH c ta tc la lc fa fc) 93))).alloc (.cells (zS v a F.length cc) 24)).alloc (.cells #[.int .i64 0,.slice none 0 0] 24))) ?_ hb,Block.later (w:=((((w.alloc (.cells (zH c ta tc la lc fa fc) 93))).alloc (.cells (zS v a F.length cc) 24)).alloc (.cells #[.int .i64 0,.slice none 0 0] 24))) ?_ hb,hbw.trans (hb.mono om_)⟩
  ·exact t56
  ·have:=Block.new (((w.alloc (.cells (zH c ta tc la lc fa fc) 93))).alloc (.cells (zS v a F.length cc) 24)) 24 [.int .i64 0,.slice none 0 0];simpa using this)
 have cCl:=iT v a cc F ((((w.alloc (.cells (zH c ta tc la lc fa fc) 93))).alloc (.cells (zS v a F.length cc) 24)).alloc (.cells #[.int .i64 0,.slice none 0 0] 24)) (hm.below hbw) (hF.below hbw);unfold iP at cCl;have h40:=hF.1;have HAP:Hid (∀(w1:World) (x:Option Addr) (xc:Nat) (G:List Fm),Below (((((w.alloc (.cells (zH c ta tc la lc fa fc) 93))).alloc (.cells (zS v a F.length cc) 24)).alloc (.cells #[.int .i64 0,.slice none 0 0] 24))).heap.size ((((w.alloc (.cells (zH c ta tc la lc fa fc) 93))).alloc (.cells (zS v a F.length cc) 24)).alloc (.cells #[.int .i64 0,.slice none 0 0] 24)) w1->w1.ownsRow (((((w.alloc (.cells (zH c ta tc la lc fa fc) 93))).alloc (.cells (zS v a F.length cc) 24)).alloc (.cells #[.int .i64 0,.slice none 0 0] 24))).heap.size 57 2 (.slice x G.length xc) G.length (fmV G)->(∀p∈G,qK (((((w.alloc (.cells (zH c ta tc la lc fa fc) 93))).alloc (.cells (zS v a F.length cc) 24)).alloc (.cells #[.int .i64 0,.slice none 0 0] 24))).heap.size w1 p)->
   Ap (w.heap.size+3) w.heap.size (zH c ta tc la lc fa fc) v (.slice x G.length xc) G.length G w ((w1.setCell ⟨w.heap.size+1,0,none⟩ (.int .i64 v)).setCell ⟨w.heap.size+1,1,none⟩ (.slice x G.length xc))):=hid (fun w1 x xc G hb ho he=>by
  obtain ⟨e0,e1,e2,e3⟩:=HX.o w1 hb;rw [hsz] at ho he;refine ⟨(e0.apart _ _ _ om_).apart _ _ _ om_,(e1.setCell 0 (.int .i64 v)).setCell 1 (.slice x G.length xc),(e2.apart _ _ _ om_).apart _ _ _ om_,aZ (aZ ho om_) om_,fun p hp=>aZ (aZ (he p hp) om_) om_, ?_, ?_⟩
  ·exact t104
  ·have:=hb.size;rw [hsz] at this;simpa using this)
 have HS:=hid hs;have HF40:=hid h40;clear hbw hsz hm hs h40;have d9:=bf h9;have d10:=bf h10;have hat:(forms F)[pos (forms F) c.s.fm]?=some p0:=by
  obtain ⟨h1,h2⟩:=cZ hk;have:=pos_at HS.o h1;rwa [h2] at this
 have hlt:pos (forms F) c.s.fm<F.length:=by
  have:=(List.getElem?_eq_some_iff.1 hat).1;rwa [aF] at this
 have hap:applied (forms F) c=(forms F).set (pos (forms F) c.s.fm) (c.s.fm,fields c):=by unfold applied;rw [if_neg h9,if_neg h10,zQ HS.o hk]
 rw [hap];have hp01:=(cZ hk).2;clear h9 h10 hk hap;obtain ⟨P,hP⟩:∃P,Hid (pos (forms F) c.s.fm=P):=⟨_,rfl⟩;rw [hP.o] at hlt hat ⊢;have HAT:=hid hat;have hPi:(P:Int)<=40:=by have:=HF40.o;omega
 have hPL:(P:Int)<F.length:=by omega
 have n1:w.heap.size≠w.heap.size+1:=by omega
 have n2:w.heap.size+1≠w.heap.size+1+1:=by omega
 have cFl:=fun (w':World) (hb:Below w.heap.size w w')=>BQ c ta tc la lc fa fc w' (hfa.below hb) hL hp hb4 hb6
 unfold jk at cFl;clear hat hfa hp hb4 hb6;obtain ⟨FL,hFL⟩:∃FL,Hid (fields c=FL):=⟨_,rfl⟩;rw [hFL.o] at cFl ⊢;go_enter func46,ntmps46;go_wp2_with (first
   | (go_at_call 83;((with_reducible refine cCl.mono ?_);rintro e w1 ⟨u,G,rfl,hou,heach,heq,hb1⟩;obtain ⟨x,xc,rfl,hxc⟩:=aB hou;obtain ⟨b0,b1,b2,hbo⟩:=HX.o w1 hb1;have y1:=b0.cell 1;have y10:=b1.cell 0;have y11:=b1.cell 1;have f10:=b1.frozen 0;have f11:=b1.frozen 1;have HAP1:=hid (HAP.o w1 x xc G hb1 hou heach);have HEQ:=hid heq;have cSe:=rM x xc G c.s.fm _ (qC HAP1.o.row).1 (by have:=congrArg List.length heq;rw [aF,aF] at this;have:=HF40.o;omega) (by rw [heq];exact HS.o);rw [heq,hP.o] at cSe;clear hou heach heq hb1 b0 b1 b2 hbo))
   | (go_at_call 84;((with_reducible refine cSe.mono ?_);rintro e w2 ⟨b,rfl,hb2⟩;have HA2:=hid (HAP1.o.later hb2);have z10:=HA2.o.k1.cell 0;have z11:=HA2.o.k1.cell 1;have zop:=HA2.o.k0.cell 0;have g11:=HA2.o.k1.frozen 1;have q20:=HA2.o.k2.cell 0;have q21:=HA2.o.k2.cell 1;have r20:=HA2.o.k2.frozen 0;have r21:=HA2.o.k2.frozen 1;clear hb2)))
 have hGl:G.length=F.length:=by have:=congrArg List.length HEQ.o;rwa [aF,aF] at this
 obtain ⟨g,rfl⟩:∃g,x=some ⟨g,0,none⟩:=by
  rcases HA2.o.row.2 with ⟨hv,h0⟩ | ⟨g,_,_,hv,_⟩
  ·omega
  ·cases hv;exact ⟨g,rfl⟩
 have hS:Block w2.drew w.heap.size 93 (zH c ta tc la lc fa fc)/\Block w2.drew (w.heap.size+1) 24 (zS v (some ⟨g,0,none⟩) G.length xc):=⟨HA2.o.k0,HA2.o.k1⟩;have hgT:=(World.ownsRow.lt HA2.o.row g rfl).1;refine plan.bD (S:=fun w'=>Block w' w.heap.size 93 (zH c ta tc la lc fa fc)/\Block w' (w.heap.size+1) 24 (zS v (some ⟨g,0,none⟩) G.length xc)) ?_;refine plan.af 0 _ (.pointer (some ⟨w.heap.size+1,1,none⟩)) rfl (fun w' hS'=>kr_) hS ?_;refine plan.af 1 _ (.slice (some ⟨g,0,none⟩) G.length xc) rfl (fun w' hS'=>aQ (ad:=⟨w.heap.size+1,1,none⟩) rfl (hS'.2.cell 1) isAgg22) hS ?_;refine plan.af 2 _ (.int .i64 (P:Int)) rfl (fun w' hS'=>kr_) hS ?_;refine plan.af 3 _ (zH c ta tc la lc fa fc) rfl (fun w' hS'=>ak (b:=w.heap.size) (off:=0) rfl hS'.1.whole underlying93 rfl fC) hS ?_;refine plan.fJ 4 _ 89 #[zH c ta tc la lc fa fc] rfl ((cFl w2.drew (aI HA2.o.below)).mono ?_);rintro e w3 ⟨y,rfl,ho3,hb3⟩;obtain ⟨ya,yc,rfl,_⟩:=aB ho3;have hA3:=HA2.o.later (w3:=w3) ((aI (Below.refl _ _)).trans hb3);refine ⟨_,rfl,⟨hA3.k0,hA3.k1⟩, ?_⟩;obtain ⟨p,hp⟩:∃p,G[P]?=some p:=⟨_,List.getElem?_eq_getElem om_⟩;have hpid:p.id=c.s.fm:=by
  have:=dR hp;rw [HEQ.o,HAT.o] at this;have:=Option.some.inj this;rw [<-hp01,this];rfl
 have c1:w3.cell? ⟨g,0+P*2+1,none⟩=some (.slice p.f p.fL.length p.fCap):=by
  have:=hA3.row.cells (g:=g) rfl (P*2+1) _ (xH G P p 1 hp om_);rwa [Addr.add_lit,<-Nat.add_assoc] at this
 have hfz:w3.frozen? ⟨g,0+P*2+1,none⟩=false:=hA3.row.frozenAt _;have hoq:qK (w.heap.size+3) w3 ⟨c.s.fm,ya,yc,FL⟩:=dV ho3 (by have:=HA2.o.low;exact this.2);have hA5:=hA3.set (q:=⟨c.s.fm,ya,yc,FL⟩) hp hpid.symm hoq;have hA5':Ap (w.heap.size+3) w.heap.size (zH c ta tc la lc fa fc) v (.slice (some ⟨g,0,none⟩) G.length xc) G.length (G.set P ⟨c.s.fm,ya,yc,FL⟩) w (w3.setCell ⟨g,0+P*2+1,none⟩ (.slice ya FL.length yc)):=by rw [Nat.zero_add];exact hA5
 refine plan.bI (w1:=w3) 5 _ (.pointer (some ⟨g,0+P*2,none⟩)) rfl rfl (hv:=(dn (b:=g) (off:=0) (len:=G.length) (cap:=xc) (i:=P) rfl om_)) ⟨hA3.k0,hA3.k1⟩ ?_;refine plan.bI (w1:=w3) 6 _ (.pointer (some ⟨g,0+P*2+1,none⟩)) rfl rfl ⟨hA3.k0,hA3.k1⟩ ?_;obtain ⟨w5,hw5⟩:∃w5,Hid (w3.setCell ⟨g,0+P*2+1,none⟩ (.slice ya FL.length yc)=w5):=⟨_,rfl⟩;rw [hw5.o] at hA5';have hrun:=fun (o:Oper) (act:Act) (q1:o.op=.store 30 (.tmp 27) (.tmp 25)) (q2:act.eval (.tmp 27)=.pointer (some ⟨g,0+P*2+1,none⟩)) (q3:act.eval (.tmp 25)=.slice ya FL.length yc)=>mF (o:=o) (a:=act) q1 (hx:=q2) (hy:=q3) c1 hfz
 rw [hw5.o] at hrun;refine plan.iQ (w1:=w5) 7 _ rfl rfl rfl (hrun _ _ rfl kr_ kr_) ⟨hA5'.k0,hA5'.k1⟩ ?_;have HA5:=hid hA5';have HFE:Hid (forms (G.set P ⟨c.s.fm,ya,yc,FL⟩)=(forms F).set P (c.s.fm,FL)):=hid (by unfold forms;rw [List.map_set];show (forms G).set P _=_;rw [HEQ.o];rfl);clear hA5 hA5' hA3 hoq c1 hfz hp hS ho3 hb3 cFl hrun hw5 hGl;have z10:=HA5.o.k1.cell 0;have z11:=HA5.o.k1.cell 1;have q20:=HA5.o.k2.cell 0;have q21:=HA5.o.k2.cell 1;have r20:=HA5.o.k2.frozen 0;have r21:=HA5.o.k2.frozen 1;walk_nrm;go_wp2;have hR:=(HA5.o.k2.setCell 0 (.int .i64 v)).setCell 1 (.slice (some ⟨g,0,none⟩) G.length xc);refine bodyPost_ret (aO (b:=w.heap.size+1+1) (o:=0) rfl rfl hR.whole underlying24 rfl (bT _ _)) rfl ?_;have hd:=HA5.o.done rfl;rw [HFE.o] at hd;exact hd
set_option maxRecDepth 20000 in
set_option maxHeartbeats 3200000 in
theorem zA (c:Ch) (ta:Option Addr) (tc:Nat) (la:Option Addr) (lc:Nat) (fa:Option Addr) (fc:Nat) (w:World) (v:Int) (a:Option Addr) (cc:Nat) (F:List Fm) (hm:Fms w a F) (hF:Small w F) (hs:Sorted (forms F)) (h9:c.s.op=9) (hla:field.Fds w la c.s.l) (hL:c.s.l.length<=40):
  Calls prog 46 #[zH c ta tc la lc fa fc,zS v a F.length cc] w (iP v (applied (forms F) c) w):=by
 have hbw:Below w.heap.size w ((((w.alloc (.cells (zH c ta tc la lc fa fc) 93))).alloc (.cells (zS v a F.length cc) 24)).alloc (.cells #[.int .i64 0,.slice none 0 0] 24)):=by
  exact t62
 have hsz:(((((w.alloc (.cells (zH c ta tc la lc fa fc) 93))).alloc (.cells (zS v a F.length cc) 24)).alloc (.cells #[.int .i64 0,.slice none 0 0] 24))).heap.size=w.heap.size+3:=by simp
 have HX:Hid (∀w',Below (((((w.alloc (.cells (zH c ta tc la lc fa fc) 93))).alloc (.cells (zS v a F.length cc) 24)).alloc (.cells #[.int .i64 0,.slice none 0 0] 24))).heap.size ((((w.alloc (.cells (zH c ta tc la lc fa fc) 93))).alloc (.cells (zS v a F.length cc) 24)).alloc (.cells #[.int .i64 0,.slice none 0 0] 24)) w'->Block w' w.heap.size 93 (zH c ta tc la lc fa fc)/\Block w' (w.heap.size+1) 24 (zS v a F.length cc)/\Block w' (w.heap.size+1+1) 24 [.int .i64 0,.slice none 0 0]/\Below w.heap.size w w'):=hid (fun w' hb=>by
  refine ⟨(((Block.new w _ _).alloc _).alloc _).later hb,Block.later (w:=((((w.alloc (.cells (zH c ta tc la lc fa fc) 93))).alloc (.cells (zS v a F.length cc) 24)).alloc (.cells #[.int .i64 0,.slice none 0 0] 24))) ?_ hb,Block.later (w:=((((w.alloc (.cells (zH c ta tc la lc fa fc) 93))).alloc (.cells (zS v a F.length cc) 24)).alloc (.cells #[.int .i64 0,.slice none 0 0] 24))) ?_ hb,hbw.trans (hb.mono om_)⟩
  ·exact t56
  ·have:=Block.new (((w.alloc (.cells (zH c ta tc la lc fa fc) 93))).alloc (.cells (zS v a F.length cc) 24)) 24 [.int .i64 0,.slice none 0 0];simpa using this)
 have cCl:=iT v a cc F ((((w.alloc (.cells (zH c ta tc la lc fa fc) 93))).alloc (.cells (zS v a F.length cc) 24)).alloc (.cells #[.int .i64 0,.slice none 0 0] 24)) (hm.below hbw) (hF.below hbw);unfold iP at cCl;have h40:=hF.1;have HAP:Hid (∀(w1:World) (x:Option Addr) (xc:Nat) (G:List Fm),Below (((((w.alloc (.cells (zH c ta tc la lc fa fc) 93))).alloc (.cells (zS v a F.length cc) 24)).alloc (.cells #[.int .i64 0,.slice none 0 0] 24))).heap.size ((((w.alloc (.cells (zH c ta tc la lc fa fc) 93))).alloc (.cells (zS v a F.length cc) 24)).alloc (.cells #[.int .i64 0,.slice none 0 0] 24)) w1->w1.ownsRow (((((w.alloc (.cells (zH c ta tc la lc fa fc) 93))).alloc (.cells (zS v a F.length cc) 24)).alloc (.cells #[.int .i64 0,.slice none 0 0] 24))).heap.size 57 2 (.slice x G.length xc) G.length (fmV G)->(∀p∈G,qK (((((w.alloc (.cells (zH c ta tc la lc fa fc) 93))).alloc (.cells (zS v a F.length cc) 24)).alloc (.cells #[.int .i64 0,.slice none 0 0] 24))).heap.size w1 p)->
   Ap (w.heap.size+3) w.heap.size (zH c ta tc la lc fa fc) v (.slice x G.length xc) G.length G w ((w1.setCell ⟨w.heap.size+1,0,none⟩ (.int .i64 v)).setCell ⟨w.heap.size+1,1,none⟩ (.slice x G.length xc))):=hid (fun w1 x xc G hb ho he=>by
  obtain ⟨e0,e1,e2,e3⟩:=HX.o w1 hb;rw [hsz] at ho he;refine ⟨(e0.apart _ _ _ om_).apart _ _ _ om_,(e1.setCell 0 (.int .i64 v)).setCell 1 (.slice x G.length xc),(e2.apart _ _ _ om_).apart _ _ _ om_,aZ (aZ ho om_) om_,fun p hp=>aZ (aZ (he p hp) om_) om_, ?_, ?_⟩
  ·exact t104
  ·have:=hb.size;rw [hsz] at this;simpa using this)
 have HS:=hid hs;have HF40:=hid h40;clear hbw hsz hm hs h40;have d9:=bt h9;have hle:pos (forms F) c.s.fm<=F.length:=by have:=Dp (forms F) c.s.fm;rwa [aF] at this
 have hap:applied (forms F) c=(forms F).take (pos (forms F) c.s.fm)++([(c.s.fm,c.s.l)]++(forms F).drop (pos (forms F) c.s.fm)):=by unfold applied;rw [if_pos h9]
 rw [hap];clear h9 hap;obtain ⟨P,hP⟩:∃P,Hid (pos (forms F) c.s.fm=P):=⟨_,rfl⟩;rw [hP.o] at hle ⊢;have hPi:(P:Int)<=40:=by have:=HF40.o;omega
 have n1:w.heap.size≠w.heap.size+1:=by omega
 have n2:w.heap.size+1≠w.heap.size+1+1:=by omega
 have cC:=fun (w':World) (hb:Below w.heap.size w w')=>og la lc c.s.l w' (hla.below hb) om_
 unfold jk at cC;clear hla;go_enter func46,ntmps46;go_wp2_with (first
   | (go_at_call 83;((with_reducible refine cCl.mono ?_);rintro e w1 ⟨u,G,rfl,hou,heach,heq,hb1⟩;obtain ⟨x,xc,rfl,hxc⟩:=aB hou;obtain ⟨b0,b1,b2,hbo⟩:=HX.o w1 hb1;have y1:=b0.cell 1;have y10:=b1.cell 0;have y11:=b1.cell 1;have f10:=b1.frozen 0;have f11:=b1.frozen 1;have HAP1:=hid (HAP.o w1 x xc G hb1 hou heach);have HEQ:=hid heq;have cSe:=rM x xc G c.s.fm _ (qC HAP1.o.row).1 (by have:=congrArg List.length heq;rw [aF,aF] at this;have:=HF40.o;omega) (by rw [heq];exact HS.o);rw [heq,hP.o] at cSe;clear hou heach heq hb1 b0 b1 b2 hbo))
   | (go_at_call 84;((with_reducible refine cSe.mono ?_);rintro e w2 ⟨b,rfl,hb2⟩;have HA2:=hid (HAP1.o.later hb2);have z10:=HA2.o.k1.cell 0;have z11:=HA2.o.k1.cell 1;have zop:=HA2.o.k0.cell 0;have g11:=HA2.o.k1.frozen 1;have q20:=HA2.o.k2.cell 0;have q21:=HA2.o.k2.cell 1;have r20:=HA2.o.k2.frozen 0;have r21:=HA2.o.k2.frozen 1;clear hb2)))
 have hGl:G.length=F.length:=by have:=congrArg List.length HEQ.o;rwa [aF,aF] at this
 have hS:Block w2.drew w.heap.size 93 (zH c ta tc la lc fa fc):=HA2.o.k0;have hA2:Ap (w.heap.size+3) w.heap.size (zH c ta tc la lc fa fc) v (.slice x G.length xc) G.length G w w2.drew:=HA2.o.later (aI (Below.refl _ _));have HFE:Hid (∀q:Fm,q.p=(c.s.fm,c.s.l)->forms (G.take P++([q]++G.drop P))=(forms F).take P++([(c.s.fm,c.s.l)]++(forms F).drop P)):=hid (fun q hq=>by
  rw [nV,nV,uw,uo,HEQ.o];show _++([q.p]++_)=_
  rw [hq])
 refine plan.bD (S:=fun w'=>Block w' w.heap.size 93 (zH c ta tc la lc fa fc)) ?_;refine plan.af 0 _ (.pointer (some ⟨w.heap.size+1,1,none⟩)) rfl (fun w' hS'=>kr_) hS ?_;refine plan.af 2 _ (.int .i64 (P:Int)) rfl (fun w' hS'=>kr_) hS ?_;refine plan.af 3 _ (.pointer (some ⟨w.heap.size,0,none⟩)) rfl (fun w' hS'=>kr_) hS ?_;refine plan.af 4 _ (.pointer (some ⟨w.heap.size,1,none⟩)) rfl (fun w' hS'=>kr_) hS ?_;refine plan.af 5 _ (.int .i64 c.s.fm) rfl (fun w' hS'=>ah (ad:=⟨w.heap.size,1,none⟩) rfl kr_ (hS'.cell 1) isAgg3) hS ?_;refine plan.af 6 _ (.pointer (some ⟨w.heap.size,0,none⟩)) rfl (fun w' hS'=>kr_) hS ?_;refine plan.af 7 _ (.pointer (some ⟨w.heap.size,15,none⟩)) rfl (fun w' hS'=>kr_) hS ?_;refine plan.af 8 _ (.slice la c.s.l.length lc) rfl (fun w' hS'=>aQ (ad:=⟨w.heap.size,15,none⟩) rfl (hS'.cell 15) isAgg30) hS ?_;refine uO 1 9 ?_ ?_
 ·refine ⟨_,rfl,rfl,.inl ⟨.slice x G.length xc,w2.drew,aQ (ad:=⟨w.heap.size+1,1,none⟩) rfl (hA2.k1.cell 1) isAgg22,hA2.k0, ?_⟩⟩;refine plan.fJ 9 _ 59 #[.slice la c.s.l.length lc] rfl ((cC w2.drew (aI HA2.o.below)).mono ?_);rintro e w3 ⟨y,rfl,ho3,hb3⟩;obtain ⟨ya,yc,rfl,_⟩:=aB ho3;have hA3:=hA2.later hb3;refine ⟨_,rfl,hA3.k0, ?_⟩
  exact t178
 ·refine ⟨_,rfl,rfl,.inr ⟨59,#[.slice la c.s.l.length lc],by kernel_rfl,(cC w2.drew (aI HA2.o.below)).mono ?_⟩⟩;rintro e w3 ⟨y,rfl,ho3,hb3⟩;obtain ⟨ya,yc,rfl,_⟩:=aB ho3;have hA3:=hA2.later hb3;refine ⟨_,rfl,hA3.k0, ?_⟩;refine uO 1 10 ?_ ?_
  ·refine ⟨_,rfl,rfl,.inl ⟨.slice x G.length xc,w3,aQ (ad:=⟨w.heap.size+1,1,none⟩) rfl (hA3.k1.cell 1) isAgg22,hA3.k0, ?_⟩⟩
   exact t178
  ·refine ⟨_,rfl,rfl,.inl ⟨zS c.s.fm ya c.s.l.length yc,w3,by kernel_rfl,hA3.k0, ?_⟩⟩;refine uO 1 11 ?_ ?_
   ·refine ⟨_,rfl,rfl,.inl ⟨.slice x G.length xc,w3,aQ (ad:=⟨w.heap.size+1,1,none⟩) rfl (hA3.k1.cell 1) isAgg22,hA3.k0, ?_⟩⟩
    exact t149
   ·have hA4:=hA3.later (aC w3 (.cells (zS c.s.fm ya c.s.l.length yc) 57));refine ⟨_,rfl,rfl,.inl ⟨(.slice (some ⟨w3.heap.size,0,none⟩) 1 1),w3.alloc (.cells (zS c.s.fm ya c.s.l.length yc) 57),by kernel_rfl,hA4.k0, ?_⟩⟩;refine plan.bI (w1:=w3.alloc (.cells (zS c.s.fm ya c.s.l.length yc) 57)) 1 _ (.slice x G.length xc) rfl rfl (hv:=(aQ (ad:=⟨w.heap.size+1,1,none⟩) rfl (hA4.k1.cell 1) isAgg22)) hA4.k0 ?_
    exact t2
end typing
namespace typing
open Go.RowKit schema
open field (Gives aC aj)
open step (Lists)
theorem oL {F:List schema.Form} {c:Ch} (hc:c=aJ F c.s) (h:c.kn=true\/0<=c.at_):∃p,named F c.s.fm=some p/\c.L=p.2:=by
 cases hn:named F c.s.fm with
 | none=>
  have:c=⟨c.s,0,[],false, -1,step.fd0⟩:=by rw [hc,uX];unfold aJ;rw [hn]
  rw [this] at h;simp at h
 | some p=>
  have:c=⟨c.s,c.s.fm,p.2,true,ai (ids p.2) c.s.fd,bG p.2 (ai (ids p.2) c.s.fd)⟩:=by rw [hc,uX];unfold aJ;rw [hn]
  exact ⟨p,rfl,by rw [this]⟩
theorem G8 {v:Int} {F:List schema.Form} {c:Ch} (hr:Right v F) (hc:c=aJ F c.s):(-1099511627776<=c.old.lo/\c.old.lo<=1099511627776)/\(-1099511627776<=c.old.hi/\c.old.hi<=1099511627776):=by
 have h1:=(iW F c.s).1;have h2:=(iW F c.s).2;rw [<-hc] at h1 h2;by_cases hk:0<=c.at_
 ·obtain ⟨p,hp,hL⟩:=oL hc (.inr hk);rw [h1,hL] at hk;have:=(nK hr hp hk).2;rw [<-hL,<-h1,<-h2] at this;have:=wI this;omega
 ·rw [h2];unfold bG;rw [if_neg hk];simp
theorem zT {v:Int} {F:List schema.Form} {c:Ch} (hf:Fit v F c.s) (hc:c=aJ F c.s):(c.s.op=4->Bd c)/\(c.s.op=6->Bq c):=by
 obtain ⟨h1,h2⟩:=G8 hf.1 hc;refine ⟨fun h=> ?_,fun h=> ?_⟩
 ·have:=jB hf (m:=5) (by rw [h];decide);unfold step.Sp.Fine at this;simp at this;exact ⟨by omega,by omega,h1,h2⟩
 ·have:=jB hf (m:=4) (by rw [h];decide);unfold step.Sp.Fine at this;simp at this;exact ⟨by omega,h2⟩
theorem wQ {c:Ch} (h:err c=0):found c=true/\twice c=false/\beyond c=false/\fP c=true:=by
 unfold err at h;cases h1:found c <;> cases h2:twice c <;> cases h3:beyond c <;> cases h4:fP c <;> simp [h1,h2,h3,h4] at h ⊢
theorem CP {v:Int} {F:List schema.Form} {c:Ch} (hf:Fit v F c.s) (hc:c=aJ F c.s) (h0:err c=0) (h9:¬c.s.op=9) (h10:¬c.s.op=10):Places c/\∃p,named F c.s.fm=some p:=by
 obtain ⟨e1,e2,e3,e4⟩:=wQ h0;have hat:=(iW F c.s).1;rw [<-hc] at hat;by_cases h1:c.s.op=1
 ·have hk:c.kn=true:=by unfold found at e1;simpa [h9,h1] using e1
  obtain ⟨p,hp,_⟩:=oL hc (.inl hk);have hfi:=jB hf (m:=2) (by rw [h1];decide);unfold step.Sp.Fine at hfi;simp at hfi;unfold beyond at e3;simp [h1] at e3;exact ⟨⟨fun _=>⟨by omega,by omega⟩,fun h=>by omega,fun h=>absurd h1 h⟩,p,hp⟩
 ·have hk:0<=c.at_:=by unfold found at e1;simpa [h9,h1,h10] using e1
  obtain ⟨p,hp,_⟩:=oL hc (.inr hk);have hlt:c.at_<c.L.length:=by
   rw [hat] at hk ⊢;have:=(lF hk).1;rw [jI] at this;omega
  refine ⟨⟨fun h=>absurd h h1,fun h7=> ?_,fun _=>⟨hk,hlt⟩⟩,p,hp⟩;have hfi:=jB hf (m:=2) (by rw [h7];decide);unfold step.Sp.Fine at hfi;simp at hfi;unfold beyond at e3;simp [h7] at e3;omega
theorem uG (v:Int) (a:Option Addr) (cc:Nat) (F:List Fm) (c:Ch) (hc:c=aJ (forms F) c.s) (ta:Option Addr) (tc:Nat) (la:Option Addr) (lc:Nat) (fa:Option Addr) (fc:Nat) (w:World)
  (hm:Fms w a F) (hF:Small w F) (hf:Fit v (forms F) c.s) (h0:err c=0) (hla:field.Fds w la c.s.l) (hL:c.s.l.length<=40) (hfa:field.Fds w fa c.L) (hcl:c.L.length<=40):
  Calls prog 46 #[zH c ta tc la lc fa fc,zS v a F.length cc] w (iP v (applied (forms F) c) w):=by
 have hs:=gU hf.1;by_cases h9:c.s.op=9
 ·exact zA c ta tc la lc fa fc w v a cc F hm hF hs h9 hla hL
 ·by_cases h10:c.s.op=10
  ·have hk:c.kn=true:=by
    have e1:=(wQ h0).1;unfold found at e1;simpa [h9,h10] using e1
   obtain ⟨p,hp,_⟩:=oL hc (.inl hk)
   exact qx c ta tc la lc fa fc w v a cc F hm hF hs h10 (by rw [hp];simp)
  ·obtain ⟨hP,p,hp⟩:=CP hf hc h0 h9 h10;obtain ⟨hb4,hb6⟩:=zT hf hc;exact xQ c ta tc la lc fa fc w v a cc F hm hF hs h9 h10 p hp hfa hcl hP hb4 hb6
end typing
namespace pair
open Go.RowKit schema step typing
def dW (F:List schema.Form) (x:Int):List field.Fd:=match named F x with
 | some p=>p.2
 | none=>[]
def inv (F:List schema.Form) (s:Sp):Sp:=
 if s.op=9 then ⟨29,s.fm,0,0,0,0,0,fd0,va0,[],[]⟩ else if s.op=10 then ⟨30,s.fm,0,0,0,0,0,fd0,va0,[],dW F s.fm⟩
 else if s.op=1 then ⟨21,s.fm,s.f.id,0,0,0,0,fd0,va0,[],[]⟩
 else if s.op=2 then ⟨22,s.fm,0,ai (ids (dW F s.fm)) s.fd,0,0,0,bG (dW F s.fm) (ai (ids (dW F s.fm)) s.fd),s.v,[],[]⟩
 else if s.op=3 then ⟨23,s.fm,s.fd,0,0,0,0,bG (dW F s.fm) (ai (ids (dW F s.fm)) s.fd),va0,[],[]⟩
 else if s.op=4 then ⟨24,s.fm,s.fd,0,0,s.a,s.b,bG (dW F s.fm) (ai (ids (dW F s.fm)) s.fd),va0,[],[]⟩
 else if s.op=5 then ⟨25,s.fm,s.fd,0,0,0,0,fd0,va0,s.t,[]⟩
 else if s.op=6 then ⟨26,s.fm,s.fd,0,s.tt,s.a,0,bG (dW F s.fm) (ai (ids (dW F s.fm)) s.fd),va0,[],[]⟩
 else if s.op=7 then ⟨27,s.fm,s.fd,ai (ids (dW F s.fm)) s.fd,0,0,0,fd0,va0,[],[]⟩
 else ⟨28,s.fm,s.tt,0,s.fd,0,0,fd0,va0,[],[]⟩
def invert (v:Int) (F:List schema.Form) (s:Sp):Sp×Nat:=if (on v F s).2.2=0 then (inv F s,0) else (Sp.zero,(on v F s).2.2)
theorem IC {v:Int} {F:List schema.Form} {s:Sp} (h:(on v F s).2.2=0):err (aJ F s)=0:=by
 have hf:=(lZ h).1;unfold on at h;rw [if_pos hf] at h;by_cases he:err (aJ F s)=0
 ·exact he
 ·rw [if_neg he] at h;exact h
theorem Jr {s:Sp} (h:0<=s.fm/\s.fm<=200):s.Fine 0:=by unfold Sp.Fine;exact h
theorem Jq {s:Sp} (h:0<=s.fd/\s.fd<=255):s.Fine 1:=by unfold Sp.Fine;simpa using h
theorem JC {s:Sp} (h:0<=s.pl/\s.pl<=8):s.Fine 2:=by unfold Sp.Fine;simpa using h
theorem JB {s:Sp} (h:(0<=s.tt/\s.tt<=255)/\s.tt≠s.fd):s.Fine 3:=by unfold Sp.Fine;simpa using h
theorem Ju {s:Sp} (h:2<=s.a/\s.a<=1048576):s.Fine 4:=by unfold Sp.Fine;simpa using h
theorem Jv {s:Sp} (h:((-1048576<=s.a/\s.a<=1048576)/\s.a≠0)/\(-1099511627776<=s.b/\s.b<=1099511627776)):s.Fine 5:=by unfold Sp.Fine;simpa using h
theorem Jk {s:Sp} (h:Table s.t 1000):s.Fine 7:=by unfold Sp.Fine;simpa using h
theorem JD {s:Sp} (h:s.f.Right/\s.f.id=s.fd):s.Fine 8:=by unfold Sp.Fine;simpa using h
theorem Jo {s:Sp} (h:s.f.Has s.v):s.Fine 9:=by unfold Sp.Fine;simpa using h
theorem FY {s:Sp} (h:schema.Fine (s.fm,s.l)):s.Fine 11:=by unfold Sp.Fine;simpa using h
end pair
namespace pair
open Go.RowKit schema typing
open field (aC)
open step (Sp St Lists jm qJ Z16 wV qw spC)
theorem jF (e:TypeId) {g:Nat} {t:TypeId} {cs:List Value} {w:World} (hB:Block w g t cs) (ht:t≠e) (o:Nat) (vs:List Value):jR e w (w.setCells g o vs):=by
 intro k cs' fr hk;refine (fO g vs o w k ?_).trans hk
 exact t115
structure Iv (n S T B1 B2 G:Nat) (w0:World) (s:Sp) (ta:Option Addr) (tc:Nat) (la:Option Addr) (lc:Nat) (c:Ch) (fa:Option Addr) (fc:Nat) (X:List Value) (w:World):Prop where
 step:Block w S 32 (zP s ta tc la lc)
 res:Block w T 32 Z16
 form:Block w B1 57 (zS c.fi fa c.L.length fc)
 old:Block w B2 26 (zF c.old)
 back:Block w G 32 X
 row:w.ownsRow n 26 5 (.slice fa c.L.length fc) c.L.length (fdV c.L)
 below:Below n w0 w
 lt:n<=T/\S<B1/\T<B1/\B1<B2/\B2<G
variable {n S T B1 B2 G:Nat} {w0:World} {s:Sp} {ta:Option Addr} {tc:Nat} {la:Option Addr} {lc:Nat} {c:Ch} {fa:Option Addr} {fc:Nat} {X:List Value}
theorem Iv.later {w w':World} (h:Iv n S T B1 B2 G w0 s ta tc la lc c fa fc X w) (hb:Below w.heap.size w w'):Iv n S T B1 B2 G w0 s ta tc la lc c fa fc X w':=
 ⟨h.step.later hb,h.res.later hb,h.form.later hb,h.old.later hb,h.back.later hb,aK h.row hb,h.below.trans (hb.mono (by have:=h.res.lt;have:=h.lt;omega)),h.lt⟩
theorem Iv.put {w:World} (h:Iv n S T B1 B2 G w0 s ta tc la lc c fa fc X w) (o:Nat) (vs:List Value):Iv n S T B1 B2 G w0 s ta tc la lc c fa fc (put X o vs) (w.setCells G o vs):=by
 have:=h.lt;exact ⟨h.step.kZ _ _ _ om_,h.res.kZ _ _ _ om_,h.form.kZ _ _ _ om_,h.old.kZ _ _ _ om_,h.back.setCells,
  (jF _ h.back wV o vs).row h.row,below_setCells h.below om_ o vs,h.lt⟩
theorem Iv.done {w:World} (h:Iv n S T B1 B2 G w0 s ta tc la lc c fa fc X w) (Y:List Value) (hY:Y.length=16):Block (w.setCells T 0 Y) T 32 Y/\Below n w0 (w.setCells T 0 Y)/\jR 26 w (w.setCells T 0 Y)/\jR 3 w (w.setCells T 0 Y):=by
 refine ⟨?_,below_setCells h.below h.lt.1 _ _,jF _ h.res wV _ _,jF _ h.res qw _ _⟩;have:=h.res.setCells (vs:=Y) (o:=0);rwa [fZ _ _ (by rw [hY];rfl)] at this
theorem tJ (v:Int) (a:Option Addr) (cap:Nat) (F:List Fm) (s:Sp) (ta:Option Addr) (tc:Nat) (la:Option Addr) (lc:Nat) (w:World):
  ∃W3,Hid (((((w.alloc (.cells (zS v a F.length cap) 24))).alloc (.cells (zP s ta tc la lc) 32)).alloc (.cells zZ 32))=W3)/\Below w.heap.size w W3/\W3.heap.size=w.heap.size+3/\Hid (∀w',Below W3.heap.size W3 w'->Block w' w.heap.size 24 (zS v a F.length cap)/\Block w' (w.heap.size+1) 32 (zP s ta tc la lc)/\Block w' (w.heap.size+1+1) 32 Z16/\Below w.heap.size w w'):=by
 have hbw:Below w.heap.size w ((((w.alloc (.cells (zS v a F.length cap) 24))).alloc (.cells (zP s ta tc la lc) 32)).alloc (.cells zZ 32)):=by
  have h1:=aC w (.cells (zS v a F.length cap) 24);have h2:=h1.alloc h1.size (.cells (zP s ta tc la lc) 32);exact h2.alloc h2.size _
 refine ⟨_,hid rfl,hbw,by simp,hid (fun w' hb=>⟨(((Block.new w _ _).alloc _).alloc _).later hb,Block.later (w:=((((w.alloc (.cells (zS v a F.length cap) 24))).alloc (.cells (zP s ta tc la lc) 32)).alloc (.cells zZ 32))) ?_ hb,Block.later (w:=((((w.alloc (.cells (zS v a F.length cap) 24))).alloc (.cells (zP s ta tc la lc) 32)).alloc (.cells zZ 32))) ?_ hb,hbw.trans (hb.mono (by simp;omega))⟩)⟩
 ·have:=(Block.new ((w.alloc (.cells (zS v a F.length cap) 24))) 32 (zP s ta tc la lc)).alloc (.cells zZ 32);simpa using this
 ·have:=Block.new (((w.alloc (.cells (zS v a F.length cap) 24))).alloc (.cells (zP s ta tc la lc) 32)) 32 Z16;simpa using this
def yE (r:Sp) (w:World) (e:Ending) (w':World):Prop:=∃xa xc ya yc,e=.returned (zP r xa xc ya yc)/\jm w.heap.size w' ⟨r,xa,xc,ya,yc⟩/\Below w.heap.size w w'
theorem eH {o:Oper} {a:Act} {w:World} {x y:Operand} {ad:Addr} {v:Value} {m:Int} (ho:o.op=.store 3 x y) (hc:w.cell? ad=some v) (hf:w.frozen? ad=false) (hx:a.eval x=.pointer (some ad):=by kernel_rfl) (hy:a.eval y=.int .i64 m:=by kernel_rfl):(execOp a.eval o).run prog w=.ok .skip (w.setCell ad (.int .i64 m)):=by
 exact t44
theorem xW {o:Oper} {a:Act} {w:World} {x y:Operand} {ad:Addr} {v:Value} {p:Option Addr} {n c:Nat} (ho:o.op=.store 29 x y) (hc:w.cell? ad=some v) (hf:w.frozen? ad=false) (hx:a.eval x=.pointer (some ad):=by kernel_rfl) (hy:a.eval y=.slice p n c:=by kernel_rfl):(execOp a.eval o).run prog w=.ok .skip (w.setCell ad (.slice p n c)):=by
 exact t44
theorem jX {o:Oper} {a:Act} {w:World} {ty:TypeId} {x y:Operand} {g off:Nat} {t:TypeId} {cs:List Value} {cells:Array Value} (ho:o.op=.store ty x y)
  (hb:Block w g t cs) (hl:off+cells.size<=cs.length) (hs:(prog.info? ty).map (·.size)=some cells.size) (h1:cells.all (·.oneCell')=true) (hx:a.eval x=.pointer (some ⟨g,off,none⟩):=by kernel_rfl) (hy:a.eval y=.agg cells:=by kernel_rfl):(execOp a.eval o).run prog w=.ok .skip (w.setCells g off cells.toList):=by
 unfold execOp;simp [ho,hx,hy,run_storeAt_mid w g off ty cells (hb.there off cells.size hl) hs h1]
theorem aV:Hid ((prog.info? 32).map (·.size)=some 16):=by show _=_;kernel_rfl
theorem iD:Hid ((prog.info? 28).map (·.size)=some 2):=by show _=_;kernel_rfl
theorem jQ (r:Sp) (x y:Value) (hx:x.oneCell'=true) (hy:y.oneCell'=true):(spC r x y).toArray.all (·.oneCell')=true:=by
 refine all_oneCell_toArray fun v hv=> ?_
 simp only [spC,List.mem_cons,List.not_mem_nil,or_false] at hv;rcases hv with rfl | rfl | rfl | rfl | rfl | rfl | rfl | rfl | rfl | rfl | rfl | rfl | rfl | rfl | rfl | rfl <;> first | rfl | assumption
theorem FU {w:World} {b:Nat} {t:TypeId} {s:Sp} {x y:Value} (h:Block w b t (spC s x y)):w.rangeAt b 12 (zV s.v):=h.range 12 _ (fun j v hj=>by
 match j,hj with
 | 0,hj=>exact hj
 | 1,hj=>exact hj)
end pair
namespace schema
open Go.RowKit
open field (Gives aC aj mg)
theorem dU (i:Int) (a:Option Addr) (cap:Nat) (L:List Fm) (x:Int) (w:World) (h:FmL w a L) (hL:L.length<=maxLen):
  Calls prog 14 #[zS i a L.length cap,.int .i64 x] w (Gives (.int .i64 (ai (ng L) x)) w):=by
 have hml:(L.length:Int)<=9223372036854775807:=by unfold maxLen at hL;omega
 have HX:=hid (boxS i a L cap w);have HF:=hid (h.below (aC w (.cells (zS i a L.length cap) 24)));obtain ⟨r,hr⟩:∃r:Int,Hid (ai (ng L) x=r):=⟨_,rfl⟩;rw [hr.o];unfold Gives;clear h hL;go_enter func14,ntmps14;go_wp2;go_loopw [5] (fun n wr=>∃k:Nat,k<=L.length/\n=.int .i64 (k:Int)/\Hid (x∉(ng L).take k)/\Hid (Below (w.alloc (.cells (zS i a L.length cap) 24)).heap.size (w.alloc (.cells (zS i a L.length cap) 24)) wr)) (fun n _=>L.length - (intOf n).toNat);case atStart=>exact ⟨0,Nat.zero_le _,rfl,hid si_,hid (Below.refl _ _)⟩
 case round=>
  obtain ⟨k,hk,rfl,HNO,HB⟩:=hrel;obtain ⟨z0,z1,hbo⟩:=HX.o _ HB.o;by_cases hlt:k<L.length
  ·obtain ⟨b,off,p,rfl,hbl,hp,c0,c1,_,_⟩:=dQ HF.o HB.o hlt;have i1:(k:Int)<L.length:=by omega
   have HHIT:=hid (fun e=>kE HNO.o ((sO hp).trans (congrArg some e)));have HNX:=hid (fun e=>jo HNO.o (sO hp) e)
   exact t51
  ·obtain rfl:k=L.length:=by omega
   obtain rfl: -1=r:=by rw [<-hr.o];have:=HNO.o;rw [List.take_of_length_le (by rw [uI];exact Nat.le_refl _)] at this;exact (kG this).symm
   go_wp2;go_ret;exact ⟨rfl,hbo⟩
end schema
end Go.Proofs.YtdnegbkhndekpaaGreat
