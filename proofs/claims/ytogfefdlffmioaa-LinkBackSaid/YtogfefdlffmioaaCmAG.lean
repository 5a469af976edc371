/- Contracts and lemmas that claims of this seat share: SchemaBackMath, StepBackMath, StepBox, StepPen, StepOwnL, StepTS, SchemaStore, SchemaParse. Each says its own conditions. -/
import Derived.Test.YtogfefdlffmioaaCmWord
import Derived.Laws.Cover3
import Derived.Deep.RegionHeld3
import Derived.Handy
import Derived.Test.YtogfefdlffmioaaCmK
import Derived.Test.YtogfefdlffmioaaCmT
import Derived.Test.YtogfefdlffmioaaCmM
import Derived.Test.YtogfefdlffmioaaCmAE
import Derived.Test.YtogfefdlffmioaaCmO
import Derived.Test.YtogfefdlffmioaaCmQ
import Derived.Test.YtogfefdlffmioaaCmU
import Derived.Test.YtogfefdlffmioaaCmL
import Derived.Test.YtogfefdlffmioaaCmV
import Derived.Test.YtogfefdlffmioaaCmY
import Derived.Test.YtogfefdlffmioaaCmAF
import Derived.Test.YtogfefdlffmioaaCmF
set_option linter.unusedVariables false
namespace Go.Proofs.Ytogfefdlffmioaa
open Go.Proofs.Try
theorem t93{P:Prop}(h:P:=by
 rw[if_pos h1] at h;exact absurd h h1):P:=h
theorem t81{P:Prop}(h:P:=by
 rw[if_neg h3] at h1;refine⟨by omega,List.eq_nil_of_length_eq_zero ?_⟩;omega):P:=h
theorem t72{P:Prop}(h:P:=by
 intro m q hq;by_cases h0:q.2=0
 ·exact h0
 ·unfold au iP at hq;rw[if_pos h0] at hq;exact hq):P:=h
theorem t42{P:Prop}(h:P:=by
 rw[aW 4 _ _ om_ om_];simp only[];rw[if_neg de_,if_pos de_,aW 1000 _ _ om_ om_];simp only[hi0];rw[show lo=0 by omega,show hi=0 by omega,show((m.toNat:Nat):Int)=m by omega];rfl):P:=h
namespace ak
open Go.RowKit pen
theorem aW(most:Int)(x:Nat)(r:List Nat)(hx:(x:Int)<=most)(hm:most<=9223372036854775807):au most (vb x++r,0)=(x,(r,0)):=by
 unfold au;exact BU _ _ _ _ om_ om_ om_
theorem kU(n:Int)(h1: -9223372036854775808<=n)(h2:n<=9223372036854775807)(r:List Nat):eInt (vb (zig n)++r,0)=(n,(r,0)):=by
 have hz:=iU n h1 h2;unfold eInt;rw[BU _ _ _ _ hz om_ om_,DN]
theorem DC{f:field.Fd}(h:f.Right)(r:List Nat):jR (iQ f++r,0)=(f,(r,0)):=by
 have hs:=mP h;have hk:f.kind=1\/f.kind=2\/f.kind=3\/f.kind=4:=by omega
 unfold field.Fd.Right at h;obtain⟨i,k,lo,hi,m⟩:=f;simp only at h hs hk;have hi0:((i.toNat:Nat):Int)=i:=by omega
 unfold jR iQ;simp only[List.append_assoc];rcases hk with rfl | rfl | rfl | rfl
 ·rw[aW 255 _ _ om_ om_];simp only[if_true,List.append_assoc];rw[aW 4 _ _ om_ om_];simp only[];rw[if_pos de_,kU lo om_ om_];simp only[];rw[kU hi om_ om_];simp only[hi0];rw[show m=0 by omega]
 ·rw[aW 255 _ _ om_ om_];simp only[Int.reduceEq,if_false,or_self,List.nil_append];rw[aW 4 _ _ om_ om_];simp only[];rw[if_neg de_,if_neg de_,hi0,show lo=0 by omega,show hi=0 by omega,show m=0 by omega];rfl
 ·rw[aW 255 _ _ om_ om_];simp only[Int.reduceEq,if_false,true_or,if_true]
  exact t42
 ·rw[aW 255 _ _ om_ om_];simp only[Int.reduceEq,if_false,or_true,if_true]
  exact t42
theorem xK{L:List field.Fd}{k:Nat}{x:field.Fd}(h:L[k]?=some x):fieldsB (L.drop k)=iQ x++fieldsB (L.drop (k+1)):=by
 have hk:=(List.getElem?_eq_some_iff.1 h).1;rw[List.drop_eq_getElem_cons hk];have:L[k]=x:=(List.getElem?_eq_some_iff.1 h).2;rw[this];simp[fieldsB]
theorem vz{L:List field.Fd}(h:∀f∈L,f.Right)(r:List Nat):∀k,k<=L.length->dh k (fieldsB L++r,0)=(L.take k,(fieldsB (L.drop k)++r,0))
 | 0,_=>by simp[dh]
 | k+1,hk=>by
  have ih:=vz h r k om_;have hx:L[k]?=some L[k]:=List.getElem?_eq_getElem om_;rw[dh,ih];simp only[];rw[xK hx,List.append_assoc,DC (h _ (List.mem_of_getElem? hx)),aH hx]
theorem Bz{p:Form}(h:Fine p)(r:List Nat):iT (ng p++r,0)=(p,(r,0)):=by
 have h1:=h.1;have h2:=h.2.1;unfold iT ng;simp only[List.append_assoc];rw[aW 200 _ _ om_ om_];simp only[];rw[aW 8 _ _ om_ om_];simp only[];rw[vz h.2.2.1.1 r _ (Nat.le_refl _),List.take_of_length_le (Nat.le_refl _),List.drop_of_length_le (Nat.le_refl _)];simp only[fieldsB,List.map_nil,List.flatten_nil,List.nil_append];rw[show((p.1.toNat:Nat):Int)=p.1 by omega]
theorem yO{F:List Form}{k:Nat}{x:Form}(h:F[k]?=some x):dX (F.drop k)=ng x++dX (F.drop (k+1)):=by
 have hk:=(List.getElem?_eq_some_iff.1 h).1;rw[List.drop_eq_getElem_cons hk];have:F[k]=x:=(List.getElem?_eq_some_iff.1 h).2;rw[this];simp[dX]
theorem sD{F:List Form}(h:∀p∈F,Fine p)(r:List Nat):∀k,k<=F.length->bC k (dX F++r,0)=(F.take k,(dX (F.drop k)++r,0))
 | 0,_=>by simp[bC]
 | k+1,hk=>by
  have ih:=sD h r k om_;have hx:F[k]?=some F[k]:=List.getElem?_eq_getElem om_;rw[bC,ih];simp only[];rw[yO hx,List.append_assoc,Bz (h _ (List.mem_of_getElem? hx)),aH hx]
theorem jc{v:Int}{F:List Form}(h:Right v F):parsed (dU v F)=(v,F,0):=by
 have h1:=h.1;have h2:=h.2.1;have hV:lM (dU v F)=(v.toNat,(vb F.length++dX F,0)):=by
  unfold lM dU;rw[List.append_assoc,aW 65535 _ _ om_ om_]
 have hN:jr (dU v F)=(F.length,(dX F,0)):=by
  unfold jr;rw[hV];exact aW 8 _ _ om_ om_
 have hF:jl (dU v F)=(F,([],0)):=by
  unfold jl;rw[hN];have:=sD h.2.2.1 [] F.length (Nat.le_refl _);rw[List.append_nil,List.take_of_length_le (Nat.le_refl _),List.drop_of_length_le (Nat.le_refl _)] at this;simpa[dX] using this
 unfold parsed;rw[hF,hV];have hv:((v.toNat:Nat):Int)=v:=by omega
 rw[if_neg (by simp[gI]),hv,if_pos h]
theorem BX:∀(l:List Nat) (i u v n:Nat),i<=9->(∀c∈l,c<256)->grp i u l=(v,n,0)->∃x,v=u+x*128 ^ i/\(i=0\/0<x)/\∃r,l=vb x++r/\n=i+(vb x).length
 | [],i,u,v,n,_,_,h=>by rw[grp] at h;simp at h
 | c :: r,i,u,v,n,hi,hc,h=>by
  rw[grp] at h;by_cases h1:i=9/\1<c
  ·rw[if_pos h1] at h;simp at h
  ·rw[if_neg h1] at h;by_cases h2:0<i/\c=0
   ·rw[if_pos h2] at h;simp at h
   ·rw[if_neg h2] at h;by_cases h3:c<128
    ·rw[if_pos h3] at h;simp only[Prod.mk.injEq] at h;refine⟨c,h.1.symm,by omega,r,by rw[gV h3];rfl,by rw[gV h3];simp;omega⟩
    ·rw[if_neg h3] at h;have hc8:=hc c si_;obtain⟨y,hv,hy,q,hr,hn⟩:=BX r (i+1) _ v n om_ (fun d hd=>hc d (by simp[hd])) h;have hy0:0<y:=by omega
     have hx:¬(c - 128+128*y)<128:=by omega
     refine⟨c - 128+128*y, ?_,by omega,q, ?_, ?_⟩
     ·rw[hv,Nat.add_mul,Nat.pow_succ,Nat.add_assoc];congr 2;rw[Nat.mul_comm (128 ^ i) 128,<-Nat.mul_assoc,Nat.mul_comm y 128]
     ·rw[qg hx,hr,List.cons_append];congr 1
      ·omega
      ·congr 2;omega
     ·rw[qg hx,hn,List.length_cons];rw[show(c - 128+128*y) / 128=y by omega];omega
def Small(s:Sight):Prop:=∀c∈s.1,c<256
theorem tZ{fits most:Nat}{s:Sight}(hs:Small s)(h:(iP fits most s).2.2=0):s.2=0/\s.1=vb (iP fits most s).1++(iP fits most s).2.1:=by
 unfold iP at h ⊢;by_cases h0:s.2≠0
 ·rw[if_pos h0] at h;exact absurd h h0
 ·rw[if_neg h0] at h ⊢;by_cases h1:(grp 0 0 s.1).2.2≠0
  ·exact t93
  ·rw[if_neg h1] at h ⊢;by_cases h2:fits<(grp 0 0 s.1).1
   ·rw[if_pos h2] at h;simp at h
   ·rw[if_neg h2] at h ⊢;by_cases h3:most<(grp 0 0 s.1).1
    ·rw[if_pos h3] at h;simp at h
    ·rw[if_neg h3];obtain⟨x,hv,_,r,hl,hn⟩:=BX s.1 0 0 (grp 0 0 s.1).1 (grp 0 0 s.1).2.1 om_ hs (Prod.ext rfl (Prod.ext rfl (show(grp 0 0 s.1).2.2=0 by omega)));refine⟨by omega, ?_⟩;simp only[Nat.pow_zero,Nat.mul_one,Nat.zero_add] at hv hn;show s.1=vb (grp 0 0 s.1).1++s.1.drop (grp 0 0 s.1).2.1
     rw[hv,hn];conv=>lhs;rw[hl]
     congr 1;rw[hl];simp
theorem bF{most:Int}{s:Sight}(hs:Small s)(h:(au most s).2.2=0):s.2=0/\s.1=vb (au most s).1++(au most s).2.1:=tZ hs h
theorem DV(u:Nat):zig (nH u)=u:=by
 unfold zig nH;by_cases h:u % 2=1
 ·rw[if_pos h,if_pos om_];omega
 ·rw[if_neg h,if_neg om_];omega
theorem jL{s:Sight}(hs:Small s)(h:(eInt s).2.2=0):s.2=0/\s.1=vb (zig (eInt s).1)++(eInt s).2.1:=by
 unfold eInt at h ⊢;simp only[DV];exact tZ hs h
theorem bH{s:Sight}{a:List Nat}{t:Sight}(h:Small s)(hr:s.1=a++t.1):Small t:=fun c hc=>h c (by rw[hr];exact List.mem_append.2 (.inr hc))
theorem xg{s:Sight}(hs:Small s)(h:(jR s).2.2=0):s.2=0/\s.1=iQ (jR s).1++(jR s).2.1:=by
 obtain⟨A,s1,hA⟩:∃A s1,au 255 s=(A,s1):=⟨_,_,rfl⟩;obtain⟨k,s2,hK⟩:∃K s2,au 4 s1=(K,s2):=⟨_,_,rfl⟩;have i1:=bF (most:=255) (s:=s) hs;rw[hA] at i1;have i2:=fun hq=>bF (most:=4) (s:=s1) hq
 rw[hK] at i2;unfold jR at h ⊢;simp only[hA,hK] at h ⊢;simp only at i1 i2;by_cases h1:k=1
 ·rw[if_pos h1] at h ⊢;have i3:=fun hq=>jL (s:=s2) hq
  have i4:=fun hq=>jL (s:=(eInt s2).2) hq
  have z4:∀q:Sight,(eInt q).2.2=0->q.2=0:=by
   intro q hq;by_cases h0:q.2=0
   ·exact h0
   ·unfold eInt iP at hq;rw[if_pos h0] at hq;exact hq
  have z2:∀(m:Int) (q:Sight),(au m q).2.2=0->q.2=0:=by
   exact t72
  simp only at h;have e3:=z4 _ h;have e2:=z4 _ e3;have e1:=z2 4 s1 (by rw[hK];exact e2);obtain⟨r0,r1⟩:=i1 e1;have m1:=bH hs r1;obtain⟨_,r2⟩:=i2 m1 e2;have m2:=bH m1 r2;obtain⟨_,r3⟩:=i3 m2 e3;have m3:=bH m2 r3;obtain⟨_,r4⟩:=i4 m3 h;refine⟨r0, ?_⟩;subst h1;simp only[iQ,if_true,Int.toNat_natCast];rw[r1,r2,r3,r4];simp only[List.append_assoc];rfl
 ·rw[if_neg h1] at h ⊢;have z2:∀(m:Int) (q:Sight),(au m q).2.2=0->q.2=0:=by
   exact t72
  have kz:¬((k:Int)=1):=by omega
  by_cases h3:k=3\/k=4
  ·rw[if_pos h3] at h ⊢;have i3:=fun hq=>bF (most:=1000) (s:=s2) hq
   simp only at h;have e2:=z2 _ _ h;have e1:=z2 4 s1 (by rw[hK];exact e2);obtain⟨r0,r1⟩:=i1 e1;have m1:=bH hs r1;obtain⟨_,r2⟩:=i2 m1 e2;have m2:=bH m1 r2;obtain⟨_,r3⟩:=i3 m2 h;refine⟨r0, ?_⟩;simp only[iQ,Int.toNat_natCast];rw[if_neg kz,if_pos om_,r1,r2,r3];simp only[List.append_assoc]
  ·rw[if_neg h3] at h ⊢;simp only at h;have e1:=z2 4 s1 (by rw[hK];exact h);obtain⟨r0,r1⟩:=i1 e1;have m1:=bH hs r1;obtain⟨_,r2⟩:=i2 m1 h;refine⟨r0, ?_⟩;simp only[iQ,Int.toNat_natCast];rw[if_neg kz,if_neg om_,r1,r2];simp only[List.append_assoc,List.append_nil]
theorem BA(n:Nat){s:Sight}(hs:Small s):(dh n s).2.2=0->s.2=0/\s.1=fieldsB (dh n s).1++(dh n s).2.1:=by
 induction n with
 | zero=>intro h;exact⟨h,rfl⟩
 | succ n ih=>
  intro h;rw[dh] at h ⊢;simp only at h ⊢
  have hsm:Small (dh n s).2\/(dh n s).2.2≠0:=by
   by_cases h0:(dh n s).2.2=0
   ·exact .inl (bH hs (ih h0).2)
   ·exact .inr h0
  have h0:(dh n s).2.2=0:=by
   rcases hsm with h1 | h1
   ·exact(xg h1 h).1
   ·exfalso;apply h1;have hc:∀(m:Int) (q:Sight),q.2≠0->au m q=(0,q):=fun m q hq=>by unfold au iP;rw[if_pos hq]
    have:(jR (dh n s).2).2=(dh n s).2:=by
     unfold jR;rw[hc 255 _ h1];simp only[];rw[hc 4 _ h1];simp
    rw[this] at h;exact h
  have h1:=ih h0;have h2:=xg (bH hs h1.2) h;refine⟨h1.1, ?_⟩;rw[h1.2,h2.2];simp[fieldsB]
theorem Bv{s:Sight}(hs:Small s)(h:(iT s).2.2=0):s.2=0/\s.1=ng (iT s).1++(iT s).2.1:=by
 obtain⟨A,s1,hA⟩:∃A s1,au 200 s=(A,s1):=⟨_,_,rfl⟩;obtain⟨n,s2,hN⟩:∃K s2,au 8 s1=(K,s2):=⟨_,_,rfl⟩;have i1:=bF (most:=200) (s:=s) hs;rw[hA] at i1;have i2:=fun hq=>bF (most:=8) (s:=s1) hq
 rw[hN] at i2;unfold iT at h ⊢;simp only[hA,hN] at h ⊢;simp only at i1 i2;have hc:∀(m:Int) (q:Sight),q.2≠0->au m q=(0,q):=fun m q hq=>by unfold au iP;rw[if_pos hq]
 have e1:s1.2=0:=by
  by_cases h0:s1.2=0
  ·exact h0
  ·rw[hc 8 s1 h0] at hN;simp only[Prod.mk.injEq] at hN;obtain⟨rfl,rfl⟩:=hN;exact h
 obtain⟨r0,r1⟩:=i1 e1;have m1:=bH hs r1;have e2:s2.2=0:=by
  by_cases h0:s2.2=0
  ·exact h0
  ·exfalso;have hst:∀n,(dh n s2).2=s2:=by
    intro n;induction n with
    | zero=>rfl
    | succ n ih=>
     rw[dh];simp only[ih];unfold jR;rw[hc 255 _ h0];simp only[];rw[hc 4 _ h0];simp
   rw[hst] at h;exact h0 h
 obtain⟨_,r2⟩:=i2 m1 e2;have m2:=bH m1 r2;have r3:=BA n m2 h;refine⟨r0, ?_⟩;simp only[ng,Int.toNat_natCast,vC];rw[r1,r2,r3.2];simp only[List.append_assoc]
theorem zL(n:Nat){s:Sight}(hs:Small s):(bC n s).2.2=0->s.2=0/\s.1=dX (bC n s).1++(bC n s).2.1:=by
 induction n with
 | zero=>intro h;exact⟨h,rfl⟩
 | succ n ih=>
  intro h;rw[bC] at h ⊢;simp only at h ⊢;have h0:(bC n s).2.2=0:=by
   by_cases h1:(bC n s).2.2=0
   ·exact h1
   ·exfalso;have hc:∀(m:Int) (q:Sight),q.2≠0->au m q=(0,q):=fun m q hq=>by unfold au iP;rw[if_pos hq]
    have:(iT (bC n s).2).2=(bC n s).2:=by
     unfold iT;rw[hc 200 _ h1];simp only[];rw[hc 8 _ h1];rfl
    rw[this] at h;exact h1 h
  have h1:=ih h0;have h2:=Bv (bH hs h1.2) h;refine⟨h1.1, ?_⟩;rw[h1.2,h2.2];simp[dX]
theorem jb{xs:List Nat}(hx:∀c∈xs,c<256)(h:(parsed xs).2.2=0):Right (parsed xs).1 (parsed xs).2.1/\dU (parsed xs).1 (parsed xs).2.1=xs:=by
 unfold parsed at h ⊢;by_cases h1:gI (jl xs).2≠0
 ·exact t93
 ·rw[if_neg h1] at h ⊢;by_cases h2:Right (lM xs).1 (jl xs).1
  ·rw[if_pos h2];refine⟨h2, ?_⟩;simp only;have hend:(jl xs).2.2=0/\(jl xs).2.1=[]:=by
    unfold gI at h1;by_cases h3:(jl xs).2.2=0/\0<(jl xs).2.1.length
    ·rw[if_pos h3] at h1;omega
    ·exact t81
   have hc:∀(m:Int) (q:Sight),q.2≠0->au m q=(0,q):=fun m q hq=>by unfold au iP;rw[if_pos hq]
   have hs0:Small (xs,0):=hx;have hN0:(jr xs).2.2=0:=by
    by_cases h0:(jr xs).2.2=0
    ·exact h0
    ·exfalso;have hst:∀n,(bC n (jr xs).2).2=(jr xs).2:=by
      intro n;induction n with
      | zero=>rfl
      | succ n ih=>
       rw[bC];simp only[ih];unfold iT;rw[hc 200 _ h0];simp only[];rw[hc 8 _ h0];rfl
     have h5:=hend.1;unfold jl at h5;rw[hst] at h5;exact h0 h5
   have hV0:(lM xs).2.2=0:=by
    by_cases h0:(lM xs).2.2=0
    ·exact h0
    ·exfalso;have h5:=hN0;unfold jr at h5;rw[hc 8 _ h0] at h5;exact h0 h5
   have r1:=(bF (most:=65535) hs0 hV0).2;have m1:=bH hs0 r1;have r2:=(bF (most:=8) m1 hN0).2;have m2:=bH m1 r2;have r3:=(zL (jr xs).1 m2 hend.1).2;have hlen:(jl xs).1.length=(jr xs).1:=sF _ _;unfold dU;rw[hlen,Int.toNat_natCast];have e1:xs=vb (lM xs).1++(lM xs).2.1:=r1;have e2:(lM xs).2.1=vb (jr xs).1++(jr xs).2.1:=r2;have e3:(jr xs).2.1=dX (jl xs).1++(jl xs).2.1:=r3;rw[hend.2,List.append_nil] at e3;rw[List.append_assoc,<-e3,<-e2];exact e1.symm
  ·rw[if_neg h2] at h;simp at h
end ak
theorem t91{P:Prop}(h:P:=by
 intro hq;unfold dV at h;rw[if_neg om_,if_pos hq] at h;simp at h):P:=h
theorem t85{P:Prop}(h:P:=by
 by_cases hq:e1.2=0
 ·exact hq
 ·unfold dV at h;rw[if_pos hq] at h;exact h):P:=h
theorem t66{P:Prop}(h:P:=by
 rcases hd with rfl | rfl | rfl | rfl | rfl | rfl | rfl | rfl | rfl | rfl <;> first | rfl | exact absurd rfl h):P:=h
namespace step
open Go.RowKit pen
open ak (aH aW kU Small bF jL bH tZ)
open field (bytesOf bytesOf_length pJ su iy gX)
theorem CX(t:ByteArray)(ht:t.size<=32)(r:List Nat):dw 32 (vb t.size++(bytesOf t++r),0)=(bytesOf t,(r,0)):=by
 unfold dw;rw[aW 32 _ _ om_ om_];simp only[];rw[wI t.size (bytesOf t) r (bytesOf_length t)];simp
def gy(f:field.Fd):Prop:=(0<=f.id/\f.id<=255)/\(0<=f.kind/\f.kind<=4)/\iO f.lo/\iO f.hi/\(0<=f.most/\f.most<=1000)
theorem uS{f:field.Fd}(h:f.Right):gy f:=by
 have:=ak.mP h;unfold gy iO;omega
theorem wZ{f:field.Fd}(h:gy f)(r:List Nat):takeA (fZ f++r,0)=(f,(r,0)):=by
 obtain⟨⟨a1,a2⟩,⟨b1,b2⟩,c1,d1,e1,e2⟩:=h;obtain⟨i,k,lo,hi,m⟩:=f;simp only at *;unfold takeA fZ;simp only[List.append_assoc];rw[aW 255 _ _ om_ om_];simp only[];rw[aW 4 _ _ om_ om_];simp only[];rw[kU lo c1.1 c1.2];simp only[];rw[kU hi d1.1 d1.2];simp only[];rw[aW 1000 _ _ om_ om_];simp only[show((i.toNat:Nat):Int)=i by omega,show((k.toNat:Nat):Int)=k by omega,show((m.toNat:Nat):Int)=m by omega]
theorem xI{L:List field.Fd}{k:Nat}{x:field.Fd}(h:L[k]?=some x):dF (L.drop k)=fZ x++dF (L.drop (k+1)):=by
 have hk:=(List.getElem?_eq_some_iff.1 h).1;rw[List.drop_eq_getElem_cons hk];have:L[k]=x:=(List.getElem?_eq_some_iff.1 h).2;rw[this];simp[dF]
theorem AV{L:List Int}{k:Nat}{x:Int}(h:L[k]?=some x):fP (L.drop k)=vb x.toNat++fP (L.drop (k+1)):=by
 have hk:=(List.getElem?_eq_some_iff.1 h).1;rw[List.drop_eq_getElem_cons hk];have:L[k]=x:=(List.getElem?_eq_some_iff.1 h).2;rw[this];simp[fP]
theorem vw{L:List field.Fd}(h:∀f∈L,gy f)(r:List Nat):∀k,k<=L.length->bT k (dF L++r,0)=(L.take k,(dF (L.drop k)++r,0))
 | 0,_=>by simp[bT]
 | k+1,hk=>by
  have ih:=vw h r k om_;have hx:L[k]?=some L[k]:=List.getElem?_eq_getElem om_;rw[bT,ih];simp only[];rw[xI hx,List.append_assoc,wZ (h _ (List.mem_of_getElem? hx)),aH hx]
theorem vF{L:List Int}(h:∀n∈L,0<=n/\n<=1000)(r:List Nat):∀k,k<=L.length->aV k (fP L++r,0)=(L.take k,(fP (L.drop k)++r,0))
 | 0,_=>by simp[aV]
 | k+1,hk=>by
  have ih:=vF h r k om_;have hx:L[k]?=some L[k]:=List.getElem?_eq_getElem om_;have h1:=h _ (List.mem_of_getElem? hx);rw[aV,ih];simp only[];rw[AV hx,List.append_assoc,aW 1000 _ _ om_ om_,aH hx];simp only[show((L[k].toNat:Nat):Int)=L[k] by omega]
def Sp.Ok(s:Sp)(c:UInt8):Prop:=
 if c=102 then 0<=s.fm/\s.fm<=200 else if c=100 then 0<=s.fd/\s.fd<=255 else if c=112 then 0<=s.pl/\s.pl<=8 else if c=116 then 0<=s.tt/\s.tt<=255 else if c=97 then 0<=s.a/\s.a<=1048576
 else if c=98 then iO s.a/\iO s.b else if c=70 then gy s.f else if c=86 then iO s.v.n/\s.v.s.size<=32 else if c=84 then s.t.length<=64/\∀n∈s.t,0<=n/\n<=1000
 else s.l.length<=8/\∀f∈s.l,gy f
def Sp.mix(s x:Sp)(c:UInt8):Sp:=
 if c=102 then { x with fm:=s.fm} else if c=100 then { x with fd:=s.fd} else if c=112 then { x with pl:=s.pl} else if c=116 then { x with tt:=s.tt} else if c=97 then { x with a:=s.a}
 else if c=98 then { x with a:=s.a,b:=s.b} else if c=70 then { x with f:=s.f} else if c=86 then { x with v:=s.v} else if c=84 then { x with t:=s.t} else { x with l:=s.l}
theorem DI{s x:Sp}{c:UInt8}(hc:Letter c)(h:s.Ok c)(ht:c=84->x.t=[])(hl:c=76->x.l=[])(r:List Nat):dN c x (s.ja c++r,0)=(s.mix x c,(r,0)):=by
 rcases hc with rfl | rfl | rfl | rfl | rfl | rfl | rfl | rfl | rfl | rfl
 ·replace h:0<=s.fm/\s.fm<=200:=h;show({ x with fm:=((au 200 (vb s.fm.toNat++r,0)).1:Int)},(au 200 (vb s.fm.toNat++r,0)).2)=({ x with fm:=s.fm},(r,0))
  rw[aW 200 _ _ om_ om_];simp only[show((s.fm.toNat:Nat):Int)=s.fm by omega]
 ·replace h:0<=s.fd/\s.fd<=255:=h;show({ x with fd:=((au 255 (vb s.fd.toNat++r,0)).1:Int)},(au 255 (vb s.fd.toNat++r,0)).2)=({ x with fd:=s.fd},(r,0))
  rw[aW 255 _ _ om_ om_];simp only[show((s.fd.toNat:Nat):Int)=s.fd by omega]
 ·replace h:0<=s.pl/\s.pl<=8:=h;show({ x with pl:=((au 8 (vb s.pl.toNat++r,0)).1:Int)},(au 8 (vb s.pl.toNat++r,0)).2)=({ x with pl:=s.pl},(r,0))
  rw[aW 8 _ _ om_ om_];simp only[show((s.pl.toNat:Nat):Int)=s.pl by omega]
 ·replace h:0<=s.tt/\s.tt<=255:=h;show({ x with tt:=((au 255 (vb s.tt.toNat++r,0)).1:Int)},(au 255 (vb s.tt.toNat++r,0)).2)=({ x with tt:=s.tt},(r,0))
  rw[aW 255 _ _ om_ om_];simp only[show((s.tt.toNat:Nat):Int)=s.tt by omega]
 ·replace h:0<=s.a/\s.a<=1048576:=h;show({ x with a:=((au 1048576 (vb s.a.toNat++r,0)).1:Int)},(au 1048576 (vb s.a.toNat++r,0)).2)=({ x with a:=s.a},(r,0))
  rw[aW 1048576 _ _ om_ om_];simp only[show((s.a.toNat:Nat):Int)=s.a by omega]
 ·replace h:iO s.a/\iO s.b:=h;have e:(vb (zig s.a)++vb (zig s.b)++r,0)=((vb (zig s.a)++(vb (zig s.b)++r),0):Sight):=by rw[List.append_assoc]
  show({ x with a:=(eInt (vb (zig s.a)++vb (zig s.b)++r,0)).1,b:=(eInt (eInt (vb (zig s.a)++vb (zig s.b)++r,0)).2).1},(eInt (eInt (vb (zig s.a)++vb (zig s.b)++r,0)).2).2)=({ x with a:=s.a,b:=s.b},(r,0))
  rw[e,kU _ h.1.1 h.1.2];simp only[];rw[kU _ h.2.1 h.2.2]
 ·replace h:gy s.f:=h;show({ x with f:=(takeA (fZ s.f++r,0)).1},(takeA (fZ s.f++r,0)).2)=({ x with f:=s.f},(r,0))
  rw[wZ h]
 ·replace h:iO s.v.n/\s.v.s.size<=32:=h;have e:(vb (zig s.v.n)++(vb s.v.s.size++bytesOf s.v.s)++r,0)=((vb (zig s.v.n)++(vb s.v.s.size++(bytesOf s.v.s++r)),0):Sight):=by simp only[List.append_assoc]
  show({ x with v:=⟨(eInt (vb (zig s.v.n)++(vb s.v.s.size++bytesOf s.v.s)++r,0)).1,strOf (dw 32 (eInt (vb (zig s.v.n)++(vb s.v.s.size++bytesOf s.v.s)++r,0)).2).1⟩},(dw 32 (eInt (vb (zig s.v.n)++(vb s.v.s.size++bytesOf s.v.s)++r,0)).2).2)=({ x with v:=s.v},(r,0))
  rw[e,kU _ h.1.1 h.1.2];simp only[];rw[CX _ h.2];simp only[su]
 ·replace h:s.t.length<=64/\∀n∈s.t,0<=n/\n<=1000:=h
  have e:(vb s.t.length++fP s.t++r,0)=((vb s.t.length++(fP s.t++r),0):Sight):=by rw[List.append_assoc]
  show({ x with t:=x.t++(aV (au 64 (vb s.t.length++fP s.t++r,0)).1 (au 64 (vb s.t.length++fP s.t++r,0)).2).1},(aV (au 64 (vb s.t.length++fP s.t++r,0)).1 (au 64 (vb s.t.length++fP s.t++r,0)).2).2)=({ x with t:=s.t},(r,0))
  rw[e,aW 64 _ _ om_ om_,ht rfl];simp only[];rw[vF h.2 r _ (Nat.le_refl _),List.take_of_length_le (Nat.le_refl _),List.drop_of_length_le (Nat.le_refl _)];simp[fP]
 ·replace h:s.l.length<=8/\∀f∈s.l,gy f:=h
  have e:(vb s.l.length++dF s.l++r,0)=((vb s.l.length++(dF s.l++r),0):Sight):=by rw[List.append_assoc]
  show({ x with l:=x.l++(bT (au 8 (vb s.l.length++dF s.l++r,0)).1 (au 8 (vb s.l.length++dF s.l++r,0)).2).1},(bT (au 8 (vb s.l.length++dF s.l++r,0)).1 (au 8 (vb s.l.length++dF s.l++r,0)).2).2)=({ x with l:=s.l},(r,0))
  rw[e,aW 8 _ _ om_ om_,hl rfl];simp only[];rw[vw h.2 r _ (Nat.le_refl _),List.take_of_length_le (Nat.le_refl _),List.drop_of_length_le (Nat.le_refl _)];simp[dF]
theorem Nk(s x:Sp){c:UInt8}(h:c≠84):(s.mix x c).t=x.t:=by
 unfold Sp.mix;repeat' split
 all_goals first | rfl | exact absurd (by assumption) h
theorem Nj(s x:Sp){c:UInt8}(hc:Letter c)(h:c≠76):(s.mix x c).l=x.l:=by
 rcases hc with rfl | rfl | rfl | rfl | rfl | rfl | rfl | rfl | rfl | rfl
 all_goals first | rfl | exact absurd rfl h
theorem CB{s:Sp}:∀(cs:List UInt8) (x:Sp) (r:List Nat),(∀c∈cs,Letter c/\s.Ok c)->cs.Nodup->(84∈cs->x.t=[])->(76∈cs->x.l=[])->run cs (x,((cs.map s.ja).flatten++r,0))=(cs.foldl s.mix x,(r,0))
 | [],x,r,_,_,_,_=>rfl
 | c :: cs,x,r,h,hn,ht,hl=>by
  have h1:=h c si_;have O8:=List.nodup_cons.1 hn;have e1:=DI h1.1 h1.2 (fun e=>ht (by simp[e])) (fun e=>hl (by simp[e])) ((cs.map s.ja).flatten++r);have ih:=CB cs (s.mix x c) r (fun d hd=>h d (by simp[hd])) O8.2 (fun hm=>by rw[Nk s x (c:=c) (fun e=>O8.1 (by rw[e];exact hm))];exact ht (by simp[hm])) (fun hm=>by rw[Nj s x h1.1 (fun e=>O8.1 (by rw[e];exact hm))];exact hl (by simp[hm]));show run cs (dN c x (((c :: cs).map s.ja).flatten++r,0))=_
  rw[List.map_cons,List.flatten_cons,List.append_assoc,e1,ih];rfl
theorem Jy{f:field.Fd}{v:field.Va}(h:f.Has v):iO v.n/\v.s.size<=32:=by
 obtain⟨h1,h2,h3⟩:=h;unfold field.Fd.Right at h1;unfold field.Fd.great at h2;unfold field.Fd.long at h3;unfold iO;obtain⟨_,h1 | h1 | h1 | h1⟩:=h1;all_goals
  rw[h1.1] at h2 h3
  simp only[Int.reduceEq,if_false,if_true] at h2 h3
  omega
theorem gZ{s:Sp}{m:Nat}(hm:m<12)(h:s.Fine m):∀c∈lets m,s.Ok c:=by
 match m,hm with
 | 0,_=>intro c hc;obtain rfl:=List.mem_singleton.1 hc;exact h
 | 1,_=>intro c hc;obtain rfl:=List.mem_singleton.1 hc;exact h
 | 2,_=>intro c hc;obtain rfl:=List.mem_singleton.1 hc;exact h
 | 3,_=>intro c hc;obtain rfl:=List.mem_singleton.1 hc;exact h.1
 | 4,_=>
  intro c hc;obtain rfl:=List.mem_singleton.1 hc;replace h:2<=s.a/\s.a<=1048576:=h;show 0<=s.a/\s.a<=1048576
  omega
 | 5,_=>
  intro c hc;obtain rfl:=List.mem_singleton.1 hc;replace h:((-1048576<=s.a/\s.a<=1048576)/\s.a≠0)/\(-1099511627776<=s.b/\s.b<=1099511627776):=h;show iO s.a/\iO s.b
  unfold iO;omega
 | 6,_=>
  replace h:(1<=s.a/\s.a<=1000)/\Table s.t s.a:=h;intro c hc;have hc':c=97\/c=84:=by simpa[lets] using hc
  rcases hc' with rfl | rfl
  ·show 0<=s.a/\s.a<=1048576
   omega
  ·refine⟨h.2.1.2,fun n hn=> ?_⟩;have:=h.2.2.1 n hn;omega
 | 7,_=>
  replace h:Table s.t 1000:=h;intro c hc;obtain rfl:=List.mem_singleton.1 hc;refine⟨h.1.2,fun n hn=> ?_⟩;have:=h.2.1 n hn;omega
 | 8,_=>intro c hc;obtain rfl:=List.mem_singleton.1 hc;exact uS h.1
 | 9,_=>
  replace h:s.f.Has s.v:=h;intro c hc;have hc':c=70\/c=86:=by simpa[lets] using hc
  rcases hc' with rfl | rfl
  ·exact uS h.1
  ·exact Jy h
 | 10,_=>
  replace h:(-1099511627776<=s.v.n/\s.v.n<=1099511627776)/\s.v.s.size<=32:=h;intro c hc;obtain rfl:=List.mem_singleton.1 hc;show iO s.v.n/\s.v.s.size<=32
  unfold iO;omega
 | 11,_=>
  replace h:ak.Fine (s.fm,s.l):=h;intro c hc;obtain rfl:=List.mem_singleton.1 hc;exact⟨h.2.1.2,fun f hf=>uS (h.2.2.1.1 f hf)⟩
theorem Sp.Right.ok{s:Sp}(h:s.Right):∀c∈uses s.op,Letter c/\s.Ok c:=by
 intro c hc;refine⟨oz _ c hc, ?_⟩;rw[vN] at hc;obtain⟨l,hl,hcl⟩:=List.mem_flatten.1 hc;obtain⟨m,hm,rfl⟩:=List.mem_map.1 hl;exact gZ (uI _ m hm) (h.1 m hm) c hcl
theorem BL(op:Int):(uses op).Nodup:=by
 refine jG (Q:=fun op=>(uses op).Nodup) ?_ ?_ ?_ ?_ ?_ ?_ ?_ ?_ ?_ ?_ ?_ ?_ ?_ ?_ ?_ ?_ ?_ ?_ ?_ ?_ ?h0 op;case h0=>intro op h1 h2;rw[h2];simp
 all_goals decide
theorem mixed{s:Sp}(h:(mem s.op).foldl Sp.clear { s with op:=0}=Sp.zero):(uses s.op).foldl s.mix (jD s.op)=s:=by
 obtain⟨op,fm,fd,pl,tt,a,b,f,v,t,l⟩:=s;revert h;show(mem op).foldl Sp.clear (⟨0,fm,fd,pl,tt,a,b,f,v,t,l⟩:Sp)=Sp.zero->(uses op).foldl (Sp.mix ⟨op,fm,fd,pl,tt,a,b,f,v,t,l⟩) (jD op)=⟨op,fm,fd,pl,tt,a,b,f,v,t,l⟩
 refine jG (Q:=fun op=>(mem op).foldl Sp.clear (⟨0,fm,fd,pl,tt,a,b,f,v,t,l⟩:Sp)=Sp.zero->(uses op).foldl (Sp.mix ⟨op,fm,fd,pl,tt,a,b,f,v,t,l⟩) (jD op)=⟨op,fm,fd,pl,tt,a,b,f,v,t,l⟩) ?_ ?_ ?_ ?_ ?_ ?_ ?_ ?_ ?_ ?_ ?_ ?_ ?_ ?_ ?_ ?_ ?_ ?_ ?_ ?_ ?h0 op;case h0=>
  intro op h1 h2 h;rw[h1] at h;rw[h2];simp only[List.foldl_nil,Sp.zero,Sp.mk.injEq,true_and] at h;obtain⟨rfl,rfl,rfl,rfl,rfl,rfl,rfl,rfl,rfl,rfl⟩:=h;rfl
 all_goals
  intro h
  simp[mem,Sp.clear] at h
  simp[uses,Sp.mix,jD,h]
theorem DL{s:Sp}(h:s.Right)(r:List Nat):jS (s.iL++r,0)=(s,(r,0)):=by
 have hs:=qI h.2.1;unfold jS Sp.iL;rw[List.append_assoc,aW 30 _ _ om_ om_];simp only[show((s.op.toNat:Nat):Int)=s.op by omega];rw[CB (s:=s) _ _ r h.ok (BL _) (fun _=>rfl) (fun _=>rfl),mixed h.2.2]
theorem zG{L:List Sp}{k:Nat}{x:Sp}(h:L[k]?=some x):((L.drop k).map Sp.iL).flatten=x.iL++((L.drop (k+1)).map Sp.iL).flatten:=by
 have hk:=(List.getElem?_eq_some_iff.1 h).1;rw[List.drop_eq_getElem_cons hk];have:L[k]=x:=(List.getElem?_eq_some_iff.1 h).2;rw[this];simp
theorem vG{L:List Sp}(h:Rights L)(r:List Nat):∀k,k<=L.length->bU k ((L.map Sp.iL).flatten++r,0)=(L.take k,(((L.drop k).map Sp.iL).flatten++r,0))
 | 0,_=>by simp[bU]
 | k+1,hk=>by
  have ih:=vG h r k om_;have hx:L[k]?=some L[k]:=List.getElem?_eq_getElem om_;rw[bU,ih];simp only[];rw[zG hx,List.append_assoc,DL (h _ (List.mem_of_getElem? hx)),aH hx]
theorem jc{L:List Sp}(h:Rights L)(hl:L.length<=40):parsed (dZ L)=(L,0):=by
 have e:jm (dZ L)=(L,([],0)):=by
  unfold jm dZ;rw[aW 40 _ _ om_ om_];simp only[];have:=vG h [] L.length (Nat.le_refl _);rw[List.append_nil] at this;rw[this,List.take_of_length_le (Nat.le_refl _),List.drop_of_length_le (Nat.le_refl _)];rfl
 unfold parsed;rw[e];simp only[gI];rw[if_neg si_,if_pos h]
theorem eY(m:Int){e:Sight}(h:e.2≠0):au m e=(0,e):=by unfold au iP;rw[if_pos h]
theorem kF{e:Sight}(h:e.2≠0):(eInt e).2=e:=by unfold eInt iP;rw[if_pos h]
theorem nP(m:Int){e:Sight}(h:e.2≠0):(dw m e).2=e:=by
 unfold dw;rw[eY m h];simp only[];have:dV 0 e=([],e):=by unfold dV;rw[if_pos h]
 rw[this];simp only[];rw[if_pos h]
theorem gone{g:Sight->Sight}(hg:∀e:Sight,e.2≠0->g e=e){e:Sight}(h:(g e).2=0):e.2=0:=by
 by_cases h0:e.2=0
 ·exact h0
 ·rw[hg e h0] at h;exact h
theorem oq(e:Sight)(h:e.2≠0):(takeA e).2=e:=by
 unfold takeA;simp only[eY _ h,kF h]
theorem qN(n:Nat)(e:Sight)(h:e.2≠0):(bT n e).2=e:=by
 induction n with
 | zero=>rfl
 | succ n ih=>rw[bT];simp only[ih];exact oq e h
theorem qO(n:Nat)(e:Sight)(h:e.2≠0):(aV n e).2=e:=by
 induction n with
 | zero=>rfl
 | succ n ih=>rw[aV];simp only[ih,eY _ h]
theorem zM(c:UInt8)(s:Sp)(e:Sight)(h:e.2≠0):(dN c s e).2=e:=by
 unfold dN;simp only[eY _ h,kF h,oq _ h,nP _ h,qO _ _ h,qN _ _ h];repeat' split
 all_goals rfl
theorem run_stuck:∀(cs:List UInt8) (s:Sp) (e:Sight),e.2≠0->(run cs (s,e)).2=e
 | [],_,_,_=>rfl
 | c :: cs,s,e,h=>by
  show(run cs (dN c s e)).2=e
  have h1:=zM c s e h;have h2:=run_stuck cs (dN c s e).1 (dN c s e).2 (by rw[h1];exact h);rw[h1] at h2;have h3:dN c s e=((dN c s e).1,e):=Prod.ext rfl h1;rw[h3];exact h2
theorem sG(e:Sight)(h:e.2≠0):(jS e).2=e:=by
 unfold jS;rw[eY _ h];exact run_stuck _ _ _ h
theorem yh(n:Nat)(e:Sight)(h:e.2≠0):(bU n e).2=e:=by
 induction n with
 | zero=>rfl
 | succ n ih=>rw[bU];simp only[ih];exact sG e h
theorem wY{e:Sight}(hs:Small e)(h:(takeA e).2.2=0):e.2=0/\e.1=fZ (takeA e).1++(takeA e).2.1:=by
 obtain⟨A,e1,hA⟩:∃A s,au 255 e=(A,s):=⟨_,_,rfl⟩;obtain⟨K,e2,hK⟩:∃A s,au 4 e1=(A,s):=⟨_,_,rfl⟩;obtain⟨l,e3,hl⟩:∃A s,eInt e2=(A,s):=⟨_,_,rfl⟩;obtain⟨g,e4,hg⟩:∃A s,eInt e3=(A,s):=⟨_,_,rfl⟩;obtain⟨M,e5,hM⟩:∃A s,au 1000 e4=(A,s):=⟨_,_,rfl⟩;have hT:takeA e=(⟨A,K,l,g,M⟩,e5):=by unfold takeA;simp only[hA,hK,hl,hg,hM]
 rw[hT] at h ⊢;have z5:(au 1000 e4).2.2=0:=by rw[hM];exact h
 have z4:(eInt e3).2.2=0:=by rw[hg];exact gone (g:=fun e=>(au 1000 e).2) (fun e he=>by rw[eY _ he]) z5
 have z3:(eInt e2).2.2=0:=by rw[hl];exact gone (g:=fun e=>(eInt e).2) (fun e he=>kF he) z4
 have z2:(au 4 e1).2.2=0:=by rw[hK];exact gone (g:=fun e=>(eInt e).2) (fun e he=>kF he) z3
 have z1:(au 255 e).2.2=0:=by rw[hA];exact gone (g:=fun e=>(au 4 e).2) (fun e he=>by rw[eY _ he]) z2
 have i1:=bF hs z1;have i2:=bF (s:=e1) (by have:=bH hs i1.2;rw[hA] at this;exact this) z2;have s1:Small e1:=by have:=bH hs i1.2;rw[hA] at this;exact this
 have s2:Small e2:=by have:=bH s1 i2.2;rw[hK] at this;exact this
 have i3:=jL s2 z3;have s3:Small e3:=by have:=bH s2 i3.2;rw[hl] at this;exact this
 have i4:=jL s3 z4;have s4:Small e4:=by have:=bH s3 i4.2;rw[hg] at this;exact this
 have i5:=bF s4 z5;rw[hA] at i1;rw[hK] at i2;rw[hl] at i3;rw[hg] at i4;rw[hM] at i5;refine⟨i1.1, ?_⟩;rw[i1.2,i2.2,i3.2,i4.2,i5.2];simp[fZ]
theorem Bq(n:Nat){e:Sight}(hs:Small e):(bT n e).2.2=0->e.2=0/\e.1=dF (bT n e).1++(bT n e).2.1:=by
 induction n with
 | zero=>intro h;exact⟨h,rfl⟩
 | succ n ih=>
  intro h;rw[bT] at h ⊢;simp only at h ⊢;have h1:=ih (gone (g:=fun e=>(takeA e).2) oq h);have h2:=wY (bH hs h1.2) h;refine⟨h1.1, ?_⟩;rw[h1.2,h2.2];simp[dF]
theorem BD(n:Nat){e:Sight}(hs:Small e):(aV n e).2.2=0->e.2=0/\e.1=fP (aV n e).1++(aV n e).2.1:=by
 induction n with
 | zero=>intro h;exact⟨h,rfl⟩
 | succ n ih=>
  intro h;rw[aV] at h ⊢;simp only at h ⊢;have h1:=ih (gone (g:=fun e=>(au 1000 e).2) (fun e he=>by rw[eY _ he]) h);have h2:=bF (bH hs h1.2) h;refine⟨h1.1, ?_⟩;rw[h1.2,h2.2];simp[fP]
theorem CW{e:Sight}(hs:Small e)(h:(dw 32 e).2.2=0):e.2=0/\e.1=vb (strOf (dw 32 e).1).size++bytesOf (strOf (dw 32 e).1)++(dw 32 e).2.1:=by
 obtain⟨N,e1,hN⟩:∃A s,au 32 e=(A,s):=⟨_,_,rfl⟩;unfold dw at h ⊢;rw[hN] at h ⊢;simp only at h ⊢;have h0:¬(dV N e1).2.2≠0:=by
  intro hq;rw[if_pos hq] at h;exact hq h
 rw[if_neg h0] at h ⊢;have h1:e1.2=0:=by
  exact t85
 have bI:¬e1.1.length<N:=by
  exact t91
 have hx:dV N e1=(e1.1.take N,(e1.1.drop N,0)):=by unfold dV;rw[if_neg om_,if_neg bI]
 rw[hx];simp only;have i1:=bF (most:=32) hs (by rw[hN];exact h1);have s1:Small e1:=by have:=bH hs i1.2;rw[hN] at this;exact this
 rw[hN] at i1;have hsm:∀x∈e1.1.take N,x<256:=fun x hx=>s1 x (List.mem_of_mem_take hx)
 refine⟨i1.1, ?_⟩;rw[iy hsm,gX,List.length_take,Nat.min_eq_left om_,List.append_assoc,List.take_append_drop];exact i1.2
theorem DF{c:UInt8}{s:Sp}{e:Sight}(hc:Letter c)(ht:c=84->s.t=[])(hl:c=76->s.l=[])(hs:Small e)(h:(dN c s e).2.2=0):e.2=0/\e.1=(dN c s e).1.ja c++(dN c s e).2.1:=by
 rcases hc with rfl | rfl | rfl | rfl | rfl | rfl | rfl | rfl | rfl | rfl
 ·exact bF (most:=200) hs h
 ·exact bF (most:=255) hs h
 ·exact bF (most:=8) hs h
 ·exact bF (most:=255) hs h
 ·exact bF (most:=1048576) hs h
 ·replace h:(eInt (eInt e).2).2.2=0:=h;have z1:(eInt e).2.2=0:=gone (g:=fun e=>(eInt e).2) (fun e he=>kF he) h;have i1:=jL hs z1;have i2:=jL (bH hs i1.2) h;refine⟨i1.1, ?_⟩;show e.1=vb (zig (eInt e).1)++vb (zig (eInt (eInt e).2).1)++(eInt (eInt e).2).2.1
  rw[i1.2,i2.2];simp
 ·exact wY hs h
 ·replace h:(dw 32 (eInt e).2).2.2=0:=h;have z1:(eInt e).2.2=0:=gone (g:=fun e=>(dw 32 e).2) (fun e he=>nP 32 he) h;have i1:=jL hs z1;have i2:=CW (bH hs i1.2) h;refine⟨i1.1, ?_⟩;show e.1=vb (zig (eInt e).1)++(vb (strOf (dw 32 (eInt e).2).1).size++bytesOf (strOf (dw 32 (eInt e).2).1))++(dw 32 (eInt e).2).2.1
  rw[i1.2,i2.2];simp
 ·replace h:(aV (au 64 e).1 (au 64 e).2).2.2=0:=h;have z1:(au 64 e).2.2=0:=gone (g:=fun q=>(aV (au 64 e).1 q).2) (fun q hq=>qO _ q hq) h;have i1:=bF (most:=64) hs z1;have i2:=BD _ (bH hs i1.2) h;refine⟨i1.1, ?_⟩;show e.1=vb (s.t++(aV (au 64 e).1 (au 64 e).2).1).length++fP (s.t++(aV (au 64 e).1 (au 64 e).2).1)++(aV (au 64 e).1 (au 64 e).2).2.1
  rw[ht rfl,List.nil_append,mY,i1.2,i2.2];simp
 ·replace h:(bT (au 8 e).1 (au 8 e).2).2.2=0:=h;have z1:(au 8 e).2.2=0:=gone (g:=fun q=>(bT (au 8 e).1 q).2) (fun q hq=>qN _ q hq) h;have i1:=bF (most:=8) hs z1;have i2:=Bq _ (bH hs i1.2) h;refine⟨i1.1, ?_⟩;show e.1=vb (s.l++(bT (au 8 e).1 (au 8 e).2).1).length++dF (s.l++(bT (au 8 e).1 (au 8 e).2).1)++(bT (au 8 e).1 (au 8 e).2).2.1
  rw[hl rfl,List.nil_append,pY,i1.2,i2.2];simp
def Apart(c d:UInt8):Prop:=c≠d/\¬(c=97/\d=98)/\¬(c=98/\d=97)
instance (c d:UInt8):Decidable (Apart c d):=by unfold Apart;infer_instance
theorem Dk{c d:UInt8}(s:Sp)(e:Sight)(hc:Letter c)(hd:Letter d)(h:Apart c d):(dN d s e).1.ja c=s.ja c:=by
 rcases hc with rfl | rfl | rfl | rfl | rfl | rfl | rfl | rfl | rfl | rfl <;> rcases hd with rfl | rfl | rfl | rfl | rfl | rfl | rfl | rfl | rfl | rfl <;> first | rfl | exact absurd h de_
theorem Ku{d:UInt8}(s:Sp)(e:Sight)(hd:Letter d)(h:d≠84):(dN d s e).1.t=s.t:=by
 exact t66
theorem Kt{d:UInt8}(s:Sp)(e:Sight)(hd:Letter d)(h:d≠76):(dN d s e).1.l=s.l:=by
 exact t66
theorem GU{d:UInt8}(s:Sp)(e:Sight)(hd:Letter d):(dN d s e).1.op=s.op:=by
 rcases hd with rfl | rfl | rfl | rfl | rfl | rfl | rfl | rfl | rfl | rfl <;> rfl
theorem zx{c:UInt8}(hc:Letter c):∀(cs:List UInt8) (s:Sp) (e:Sight),(∀d∈cs,Letter d/\Apart c d)->(run cs (s,e)).1.ja c=s.ja c
 | [],_,_,_=>rfl
 | d :: cs,s,e,h=>by
  have h1:=h d si_;show(run cs ((dN d s e).1,(dN d s e).2)).1.ja c=_
  rw[zx hc cs _ _ (fun x hx=>h x (by simp[hx])),Dk s e hc h1.1 h1.2]
theorem FK:∀(cs:List UInt8) (s:Sp) (e:Sight),(∀d∈cs,Letter d)->(run cs (s,e)).1.op=s.op
 | [],_,_,_=>rfl
 | d :: cs,s,e,h=>by
  show(run cs ((dN d s e).1,(dN d s e).2)).1.op=_
  rw[FK cs _ _ (fun x hx=>h x (by simp[hx])),GU s e (h d si_)]
theorem Cm:∀(cs:List UInt8) (s:Sp) (e:Sight),(∀d∈cs,Letter d)->cs.Pairwise Apart->(84∈cs->s.t=[])->(76∈cs->s.l=[])->Small e->(run cs (s,e)).2.2=0->e.2=0/\e.1=(cs.map (run cs (s,e)).1.ja).flatten++(run cs (s,e)).2.1
 | [],s,e,_,_,_,_,_,h=>⟨h,rfl⟩
 | c :: cs,s,e,hL,hp,ht,hl,hs,h=>by
  replace h:(run cs ((dN c s e).1,(dN c s e).2)).2.2=0:=h;have hc:=hL c si_;have L6:=List.pairwise_cons.1 hp;have z1:(dN c s e).2.2=0:=gone (g:=fun q=>(run cs ((dN c s e).1,q)).2) (fun q hq=>run_stuck cs _ q hq) h;have i1:=DF hc (fun he=>ht (by simp[he])) (fun he=>hl (by simp[he])) hs z1;have i2:=Cm cs (dN c s e).1 (dN c s e).2 (fun d hd=>hL d (by simp[hd])) L6.2 (fun hm=>by rw[Ku s e hc (fun he=>(L6.1 84 hm).1 he)];exact ht (by simp[hm])) (fun hm=>by rw[Kt s e hc (fun he=>(L6.1 76 hm).1 he)];exact hl (by simp[hm])) (bH hs i1.2) h;have hk:=zx hc cs (dN c s e).1 (dN c s e).2 (fun d hd=>⟨hL d (by simp[hd]),L6.1 d hd⟩);refine⟨i1.1, ?_⟩;show e.1=((c :: cs).map (run cs ((dN c s e).1,(dN c s e).2)).1.ja).flatten++(run cs ((dN c s e).1,(dN c s e).2)).2.1
  rw[List.map_cons,List.flatten_cons,List.append_assoc,<-i2.2,hk];exact i1.2
theorem BK(op:Int):(uses op).Pairwise Apart:=by
 refine jG (Q:=fun op=>(uses op).Pairwise Apart) ?_ ?_ ?_ ?_ ?_ ?_ ?_ ?_ ?_ ?_ ?_ ?_ ?_ ?_ ?_ ?_ ?_ ?_ ?_ ?_ ?h0 op;case h0=>intro op h1 h2;rw[h2];exact List.Pairwise.nil
 all_goals decide
theorem DK{e:Sight}(hs:Small e)(h:(jS e).2.2=0):e.2=0/\e.1=(jS e).1.iL++(jS e).2.1:=by
 obtain⟨N,e1,hN⟩:∃A s,au 30 e=(A,s):=⟨_,_,rfl⟩;unfold jS at h ⊢;rw[hN] at h ⊢;simp only at h ⊢;have z1:e1.2=0:=gone (g:=fun q=>(run (uses N) (jD N,q)).2) (fun q hq=>run_stuck _ _ q hq) h;have i1:=bF (most:=30) hs (by rw[hN];exact z1);have s1:Small e1:=by have:=bH hs i1.2;rw[hN] at this;exact this
 rw[hN] at i1;have i2:=Cm (uses N) (jD N) e1 (oz _) (BK _) (fun _=>rfl) (fun _=>rfl) s1 h;refine⟨i1.1, ?_⟩;unfold Sp.iL;rw[FK _ _ _ (oz _)];show e.1=vb ((N:Nat):Int).toNat++((uses N).map _).flatten++_
 rw[Int.toNat_natCast,List.append_assoc,<-i2.2];exact i1.2
theorem BF(n:Nat){e:Sight}(hs:Small e):(bU n e).2.2=0->e.2=0/\e.1=((bU n e).1.map Sp.iL).flatten++(bU n e).2.1:=by
 induction n with
 | zero=>intro h;exact⟨h,rfl⟩
 | succ n ih=>
  intro h;rw[bU] at h ⊢;simp only at h ⊢;have h1:=ih (gone (g:=fun e=>(jS e).2) sG h);have h2:=DK (bH hs h1.2) h;refine⟨h1.1, ?_⟩;rw[h1.2,h2.2];simp
theorem yG(m:Nat)(e:Sight):(au m e).1<=m:=by
 have:=(oH 9223372036854775807 (max (m:Int) 0).toNat e).2;unfold au;omega
theorem jb{xs:List Nat}(hx:∀c∈xs,c<256)(h:(parsed xs).2=0):Rights (parsed xs).1/\(parsed xs).1.length<=40/\dZ (parsed xs).1=xs:=by
 unfold parsed at h ⊢;by_cases h1:gI (jm xs).2≠0
 ·exact t93
 ·rw[if_neg h1] at h ⊢;by_cases h2:Rights (jm xs).1
  ·rw[if_pos h2];refine⟨h2, ?_, ?_⟩
   ·show(jm xs).1.length<=40
    unfold jm;rw[vH];exact yG 40 _
   ·have h3:(jm xs).2.2=0/\(jm xs).2.1=[]:=by
     unfold gI at h1;by_cases hq:(jm xs).2.2=0/\0<(jm xs).2.1.length
     ·rw[if_pos hq] at h1;omega
     ·rw[if_neg hq] at h1;have h0:(jm xs).2.2=0:=by omega
      exact⟨h0,List.eq_nil_of_length_eq_zero om_⟩
    show dZ (jm xs).1=xs
    unfold jm at h3 ⊢
    have hs:Small (xs,0):=hx
    have z1:(au 40 (xs,0)).2.2=0:=gone (g:=fun q=>(bU (au 40 (xs,0)).1 q).2) (fun q hq=>yh _ q hq) h3.1
    have i1:=bF hs z1
    have i2:=BF _ (bH hs i1.2) h3.1
    unfold dZ
    rw[vH]
    rw[h3.2,List.append_nil] at i2
    rw[<-i2.2]
    exact i1.2.symm
  ·rw[if_neg h2] at h;simp at h
end step
namespace step
open Go.RowKit
open field (Gives aI ay)
open ak (aX)
theorem oQ(s:Sp)(ta:Option Addr)(tc:Nat)(la:Option Addr)(lc:Nat)(w w':World)(hb:Below (w.alloc (.cells (zP s ta tc la lc) 52)).heap.size (w.alloc (.cells (zP s ta tc la lc) 52)) w'):(w'.cell? ⟨w.heap.size,0,none⟩=some (.int .i64 s.op)/\w'.cell? ⟨w.heap.size,1,none⟩=some (.int .i64 s.fm)/\w'.cell? ⟨w.heap.size,2,none⟩=some (.int .i64 s.fd)/\w'.cell? ⟨w.heap.size,3,none⟩=some (.int .i64 s.pl)/\w'.cell? ⟨w.heap.size,4,none⟩=some (.int .i64 s.tt)/\w'.cell? ⟨w.heap.size,5,none⟩=some (.int .i64 s.a)/\w'.cell? ⟨w.heap.size,6,none⟩=some (.int .i64 s.b)/\w'.cell? ⟨w.heap.size,7,none⟩=some (.int .i64 s.f.id)/\w'.cell? ⟨w.heap.size,8,none⟩=some (.int .i64 s.f.kind)/\w'.cell? ⟨w.heap.size,9,none⟩=some (.int .i64 s.f.lo)/\w'.cell? ⟨w.heap.size,10,none⟩=some (.int .i64 s.f.hi)/\w'.cell? ⟨w.heap.size,11,none⟩=some (.int .i64 s.f.most)/\w'.cell? ⟨w.heap.size,12,none⟩=some (.int .i64 s.v.n)/\w'.cell? ⟨w.heap.size,13,none⟩=some (.string s.v.s)/\w'.cell? ⟨w.heap.size,14,none⟩=some (.slice ta s.t.length tc)/\w'.cell? ⟨w.heap.size,15,none⟩=some (.slice la s.l.length lc))/\Below w.heap.size w w':=by
 have hB:=(Block.new w 52 (zP s ta tc la lc)).later hb;exact⟨⟨hB.cell 0,hB.cell 1,hB.cell 2,hB.cell 3,hB.cell 4,hB.cell 5,hB.cell 6,hB.cell 7,hB.cell 8,hB.cell 9,hB.cell 10,hB.cell 11,hB.cell 12,hB.cell 13,hB.cell 14,hB.cell 15⟩,aX hb⟩
structure Lists (w:World) (s:Sp) (ta la:Option Addr):Prop where
 t:Ins w ta s.t
 l:field.Fds w la s.l
 mt:s.t.length<=maxLen
 ml:s.l.length<=maxLen
theorem Lists.below{w w':World}{s:Sp}{ta la:Option Addr}(h:Lists w s ta la)(hb:Below w.heap.size w w'):Lists w' s ta la:=⟨h.t.below hb,h.l.below hb,h.mt,h.ml⟩
theorem St.Good.lists{w:World}{p:St}(h:p.Good w):Lists w p.s p.ta p.la:=⟨h.rt,h.rl,Nat.le_trans h.ct h.dt,Nat.le_trans h.cl h.dl⟩
abbrev From(F:FuncId)(args:Array Value)(v:Value)(w0:World):Prop:=∀w',Below w0.heap.size w0 w'->Calls prog F args w' fun e w2=>e=.returned v/\Below w0.heap.size w0 w2
theorem gK{F:FuncId}{args:Array Value}{v:Value}(w0:World)(h:∀w',Calls prog F args w' (Gives v w')):From F args v w0:=fun w' hb=>ay (h w') hb
theorem xN{F:FuncId}{args:Array Value}{v:Value}(w0:World)(h:∀w',Below w0.heap.size w0 w'->Calls prog F args w' (Gives v w')):From F args v w0:=fun w' hb=>ay (h w' hb) hb
end step
namespace step
open Go.RowKit pen
open field (aI bytesOf)
open ak (PS dQ aX)
theorem jO:(47:TypeId)≠5:=by decide
theorem jo:(52:TypeId)≠5:=by decide
theorem Kv:(100:TypeId)≠5:=by decide
def dH(g:Nat)(w w':World):Prop:=∀k t cs,Block w k t cs->t≠5->k≠g->Block w' k t cs
theorem dH.refl(g:Nat)(w:World):dH g w w:=fun _ _ _ h _ _=>h
theorem dH.trans{g:Nat}{a b c:World}(h:dH g a b)(k:dH g b c):dH g a c:=fun i t cs hB ht hg=>k i t cs (h i t cs hB ht hg) ht hg
theorem dH.later{g:Nat}{w w':World}(hb:Below w.heap.size w w'):dH g w w':=fun _ _ _ h _ _=>h.later hb
def iY(g:Nat)(w1:World)(xs ys:List Nat)(w:World)(e:Ending)(w':World):Prop:=e=.returned (.tuple #[])/\∃v',PS g w1 (xs++ys) v' w'/\dH g w w'
theorem dG{g:Nat}{w1:World}{xs:List Nat}{v:Value}{w:World}(h:PS g w1 xs v w)(n:Int)(h0:0<=n)(Ie:n<=9223372036854775807)(hn:xs.length<=1000000):
  Calls prog 24 #[.pointer (some ⟨g,0,none⟩),.int .i64 n] w (iY g w1 xs (vb n.toNat) w):=h.count n h0 Ie hn
theorem oK{g:Nat}{w1:World}{xs:List Nat}{v:Value}{w:World}(h:PS g w1 xs v w)(n:Int)(h0: -9223372036854775808<=n)(Ie:n<=9223372036854775807)(hn:xs.length<=1000000):
  Calls prog 89 #[.pointer (some ⟨g,0,none⟩),.int .i64 n] w (iY g w1 xs (vb (zig n)) w):=
 (xW g g v xs 0 w h.1 h.2.2 n h0 Ie om_).mono fun _ _ ⟨he,v',hp,ht⟩=>⟨he,v',h.step hp ht,fun k t cs hB hT hk=>dQ h.1 ht hB hT hk⟩
theorem lT{g:Nat}{w1:World}{xs:List Nat}{v:Value}{w:World}(h:PS g w1 xs v w)(s:ByteArray)(hs:s.size<=1000)(hn:xs.length<=1000000):
  Calls prog 26 #[.pointer (some ⟨g,0,none⟩),.string s] w (iY g w1 xs (vb s.size++bytesOf s) w):=by
 have hl:s.data.toList.length=s.size:=by rw[Array.length_toList];rfl
 have c:=zN g g v xs 0 w h.1 h.2.2 s.data.toList om_ om_;rw[texts.CG,hl] at c;exact c.mono fun _ _ ⟨he,v',hp,ht⟩=>⟨he,v',h.step hp ht,fun k t cs hB hT hk=>dQ h.1 ht hB hT hk⟩
theorem iF{g:Nat}{w1:World}{xs:List Nat}{v:Value}{w:World}(h:PS g w1 xs v w)(p:field.Fd)(hr:gy p)(hn:xs.length<=900000):
  Calls prog 90 #[.pointer (some ⟨g,0,none⟩),zF p] w (iY g w1 xs (fZ p) w):=by
 have iR:=h.later (aI w (.cells (zF p) 47));have rP:=Block.new w 47 (zF p);have dR:w.heap.size≠g:=by have:=h.1.1.lt;omega
 have sJ:Hid (dH g w (w.alloc (.cells (zF p) 47))):=hid (dH.later (aI _ _));obtain⟨⟨i0,i1⟩,⟨k0,k1⟩,⟨a0,a1⟩,⟨b0,b1⟩,m0,m1⟩:=hr;have l1:=aT p.id.toNat om_;have l2:=aT p.kind.toNat om_;have l3:=aT (zig p.lo) (iU _ om_ om_);have l4:=aT (zig p.hi) (iU _ om_ om_);have MV:fZ p=vb p.id.toNat++vb p.kind.toNat++vb (zig p.lo)++vb (zig p.hi)++vb p.most.toNat:=rfl;rw[MV];clear MV h;obtain⟨i,k,lw,hi,m⟩:=p;simp only at *;unfold iY;have c1:=dG iR i i0 om_ om_;have C2:=hid (fun v w' (h:PS g w1 (xs++vb i.toNat) v w')=>dG h k k0 om_ (by simp only[List.length_append];omega));have C3:=hid (fun v w' (h:PS g w1 (xs++vb i.toNat++vb k.toNat) v w')=>oK h lw a0 a1 (by simp only[List.length_append];omega));have C4:=hid (fun v w' (h:PS g w1 (xs++vb i.toNat++vb k.toNat++vb (zig lw)) v w')=>oK h hi b0 b1 (by simp only[List.length_append];omega));have C5:=hid (fun v w' (h:PS g w1 (xs++vb i.toNat++vb k.toNat++vb (zig lw)++vb (zig hi)) v w')=>dG h m m0 om_ (by simp only[List.length_append];omega));have HB0:=hid rP;clear rP l1 l2 l3 l4 i0 i1 k0 k1 a0 a1 b0 b1 m0 m1 hn iR;go_enter func90,ntmps90;go_wp2_with (first
  | (go_at_call 24;((with_reducible refine c1.mono ?_);clear c1;rintro e w2 ⟨rfl,v2,uq,hK2⟩;have nI:=hK2 _ _ _ HB0.o jO dR;have z1:=nI.cell 1;have c2:=C2.o _ _ uq;clear uq))
  | (go_at_call 24;((with_reducible refine c2.mono ?_);clear c2;rintro e w3 ⟨rfl,v3,ny,hK3⟩;have lF:=hK3 _ _ _ nI jO dR;have z2:=lF.cell 2;have c3:=C3.o _ _ ny;clear ny))
  | (go_at_call 89;((with_reducible refine c3.mono ?_);clear c3;rintro e w4 ⟨rfl,v4,kK,hK4⟩;have G6:=hK4 _ _ _ lF jO dR;have z3:=G6.cell 3;have c4:=C4.o _ _ kK;clear kK))
  | (go_at_call 89;((with_reducible refine c4.mono ?_);clear c4;rintro e w5 ⟨rfl,v5,vT,hK5⟩;have Gs:=hK5 _ _ _ G6 jO dR;have z4:=Gs.cell 4;have c5:=C5.o _ _ vT;clear vT))
  | (go_at_call 24;((with_reducible refine c5.mono ?_);clear c5;rintro e w6 ⟨rfl,v6,nU,hK6⟩;have yw:=hid nU;clear nU)))
 exact fO rfl rfl ⟨rfl,v6,by simpa only[List.append_assoc] using yw.o,sJ.o.trans (hK2.trans (hK3.trans (hK4.trans (hK5.trans hK6))))⟩
end step
namespace step
open Go.RowKit
open ak (fdV dM oL ig ji eU)
def qZ(l:List Int):List Value:=l.map fun n=>Value.int .i64 n
theorem yZ{w:World}{base n:Nat}{a:Option Addr}{cap:Nat}{L:List Int}{e:TypeId}(h:w.ownsRow base e 1 (.slice a n cap) n (qZ L)):Ins w a L/\n=L.length:=by
 obtain⟨hl,hr⟩:=h;have hn:n=L.length:=by have:(qZ L).length=L.length:=List.length_map _;omega
 rcases hr with ⟨hv,h0⟩ | ⟨b,cap',cur,hv,_,hg,hcp,_,_,qF⟩
 ·cases hv
  exact⟨.inl (List.eq_nil_of_length_eq_zero om_),hn⟩
 ·cases hv
  refine⟨.inr ⟨b,0,rfl,(Array.getElem?_eq_some_iff.1 hg).1,fun i p hp=> ?_⟩,hn⟩;have hi:i<L.length:=(List.getElem?_eq_some_iff.1 hp).1;have h1:(qZ L)[i]?=some (.int .i64 p):=by simp[qZ,hp]
  rw[<-qF,List.getElem?_take,if_pos om_] at h1
  exact t50
theorem ER:(prog.info? 3).map (fun i=>(i.zero,i.size,i.bytes))=some (some (.int .i64 0),1,8):=by kernel_rfl
theorem uG:∃i,prog.info? 3=some i/\i.zero=some (.int .i64 0)/\i.size=1/\i.bytes=8:=by
 obtain⟨i,hi,he⟩:=Option.map_eq_some_iff.1 ER
 exact t92
def jh(B:Nat)(w:World)(p:St):Prop:=w.ownsRow B 3 1 (.slice p.ta p.s.t.length p.tc) p.s.t.length (qZ p.s.t)/\w.ownsRow B 47 5 (.slice p.la p.s.l.length p.lc) p.s.l.length (fdV p.s.l)
theorem jh.lists{B:Nat}{w:World}{p:St}(h:jh B w p):Lists w p.s p.ta p.la:=
 ⟨(yZ h.1).1,(oL h.2).1,Nat.le_trans (ig h.1).1 (ig h.1).2,Nat.le_trans (ig h.2).1 (ig h.2).2⟩
theorem jh.low{B B':Nat}{w:World}{p:St}(h:jh B w p)(hB:B'<=B):jh B' w p:=⟨dM h.1 hB,dM h.2 hB⟩
theorem jh.later{B:Nat}{w w':World}{p:St}(h:jh B w p)(hb:Below w.heap.size w w'):jh B w' p:=⟨dL h.1 hb,dL h.2 hb⟩
theorem KE:(52:TypeId)≠3:=by decide
theorem Nu:(52:TypeId)≠47:=by decide
theorem jh.nil(B:Nat)(w:World)(s:Sp)(ht:s.t=[])(hl:s.l=[]):jh B w ⟨s,none,0,none,0⟩:=by
 refine⟨?_, ?_⟩
 ·show w.ownsRow B _ 1 (.slice none s.t.length 0) s.t.length (qZ s.t)
  rw[ht];exact World.ownsRow_nil _ _ _ _
 ·show w.ownsRow B _ 5 (.slice none s.l.length 0) s.l.length (fdV s.l)
  rw[hl];exact World.ownsRow_nil _ _ _ _
theorem wU{w:World}{B e sz n S o:Nat}{u v:Value}{xs:List Value}(h:w.ownsRow B e sz u n xs)(hS:S<B):(w.setCell ⟨S,o,none⟩ v).ownsRow B e sz u n xs:=
 bM h (fun g hg=>Below.heap_setCell w ⟨S,o,none⟩ v g (by have:=(World.ownsRow.lt h g hg).1;show g≠S;omega))
theorem jh.after{w:World}{B S o:Nat}{v:Value}{p:St}(h:jh B w p)(hS:S<B):jh B (w.setCell ⟨S,o,none⟩ v) p:=⟨wU h.1 hS,wU h.2 hS⟩
theorem jh.stay{w w':World}{B:Nat}{p:St}(h:jh B w p)(h1:ji 3 w w')(h2:ji 47 w w'):jh B w' p:=⟨h1.row h.1,h2.row h.2⟩
end step
namespace step
open Go.RowKit pen
open field (aI)
open ak (bK di bG.blk gY jA jw fdV ji ve eU jE kR dM jy oL ig)
theorem oW{o:Oper}{a:Act}{w:World}{x y:Operand}{u:Value}{B n g:Nat}{L:List Int}{p:Int}
  (ho:o.op=.call { callee:=.builtin .append,args:=#[x,y],argTypes:=#[50,50]})
  (hown:w.ownsRow B 3 1 u n (qZ L)) (hb:Block w g 3 [.int .i64 p]) (hn:n<=1000) (hB:B<=w.heap.size) (hx:a.eval x=u:=by kernel_rfl) (hy:a.eval y=.slice (some ⟨g,0,none⟩) 1 1:=by kernel_rfl):
  ∃q w',(execOp a.eval o).run prog w=.ok (.value q) w'/\w'.ownsRow B 3 1 q (n+1) (qZ (L++[p]))/\w.grownBy w' u.ownBlock:=by
 obtain⟨i0,hi,hz0,hz1,hz2⟩:=uG;obtain⟨q,w',h1,h2,h3⟩:=jy (sz:=1) (bytes:=8) underlying50 hi hz0 hz1 hz2 (by simp[Value.cells]) om_ ho hx hy hown (news:=[.int .i64 p]) rfl (fun j v hj=>(hb.cell j).trans hj) (by intro v hv;rw[List.mem_singleton.1 hv];rfl) om_ om_ hB;exact⟨q,w',h1,by unfold qZ at h2 ⊢;rw[List.map_append];exact h2,h3⟩
theorem qx{o:Oper}{a:Act}{w:World}{x y:Operand}{ad:Addr}{v:Value}{p:Option Addr}{n c:Nat}(ho:o.op=.store 50 x y)(hc:w.cell? ad=some v)(hf:w.frozen? ad=false)(hx:a.eval x=.pointer (some ad):=by kernel_rfl)(hy:a.eval y=.slice p n c:=by kernel_rfl):(execOp a.eval o).run prog w=.ok .skip (w.setCell ad (.slice p n c)):=by
 unfold execOp;rw[ho];simp only[hx,hy];go_simp
theorem fK{w:World}{B e sz n S o:Nat}{u v:Value}{xs:List Value}(h:w.ownsRow B e sz u n xs)(hS:S<B):(w.setCell ⟨S,o,none⟩ v).ownsRow B e sz u n xs:=
 bM h (fun g hg=>by have:=World.ownsRow.lt h g hg;exact Below.heap_setCell w ⟨S,o,none⟩ v g (by show g≠S;omega))
theorem kX{w w':World}{b B e sz n:Nat}{u:Value}{xs:List Value}(h:w.ownsRow B e sz u n xs)(hu:But w.heap.size b w w')(hb:b<B):w'.ownsRow B e sz u n xs:=
 bM h (fun g hg=>by have:=World.ownsRow.lt h g hg;exact hu.2.2.2.2 g om_ om_)
structure TS (Ty:TypeId) (b T:Nat) (w0:World) (s:Sp) (e:Sight) (ta:Option Addr) (tc:Nat) (la:Option Addr) (lc:Nat) (wr:World):Prop where
 f:Block wr T 52 [.int .i64 s.op,.int .i64 s.fm,.int .i64 s.fd,.int .i64 s.pl,.int .i64 s.tt,.int .i64 s.a,.int .i64 s.b,.int .i64 s.f.id,.int .i64 s.f.kind,.int .i64 s.f.lo,.int .i64 s.f.hi,.int .i64 s.f.most,.int .i64 s.v.n,.string s.v.s,.slice ta s.t.length tc,.slice la s.l.length lc]
 rt:wr.ownsRow (T+1) 3 1 (.slice ta s.t.length tc) s.t.length (qZ s.t)
 rl:wr.ownsRow (T+1) 47 5 (.slice la s.l.length lc) s.l.length (fdV s.l)
 eye:bG Ty b e wr
 but:But T b w0 wr
 low:b<T
variable {Ty:TypeId} {b T:Nat} {w0:World} {s:Sp} {e:Sight} {ta la:Option Addr} {tc lc:Nat}
theorem TS.later{w w':World}(h:TS Ty b T w0 s e ta tc la lc w)(hb:Below w.heap.size w w'):TS Ty b T w0 s e ta tc la lc w':=
 ⟨h.f.later hb,dL h.rt hb,dL h.rl hb,h.eye.later hb,h.but.trans ((Below.but hb).mono (Nat.le_of_lt h.f.lt)),h.low⟩
theorem TS.call{w w':World}{e':Sight}(h:TS Ty b T w0 s e ta tc la lc w)(hE:bG Ty b e' w')(hu:But w.heap.size b w w'):TS Ty b T w0 s e' ta tc la lc w':=
 ⟨bK h.f hu (Nat.ne_of_gt h.low),kX h.rt hu (by have:=h.low;omega),kX h.rl hu (by have:=h.low;omega),hE,h.but.trans (hu.mono (Nat.le_of_lt h.f.lt)),h.low⟩
theorem TS.put{w:World}(h:TS Ty b T w0 s e ta tc la lc w)(j:Nat)(v:Value)(s':Sp)(hs: [.int .i64 s'.op,.int .i64 s'.fm,.int .i64 s'.fd,.int .i64 s'.pl,.int .i64 s'.tt,.int .i64 s'.a,.int .i64 s'.b,.int .i64 s'.f.id,.int .i64 s'.f.kind,.int .i64 s'.f.lo,.int .i64 s'.f.hi,.int .i64 s'.f.most,.int .i64 s'.v.n,.string s'.v.s,.slice ta s'.t.length tc,.slice la s'.l.length lc]=[.int .i64 s.op,.int .i64 s.fm,.int .i64 s.fd,.int .i64 s.pl,.int .i64 s.tt,.int .i64 s.a,.int .i64 s.b,.int .i64 s.f.id,.int .i64 s.f.kind,.int .i64 s.f.lo,.int .i64 s.f.hi,.int .i64 s.f.most,.int .i64 s.v.n,.string s.v.s,.slice ta s.t.length tc,.slice la s.l.length lc].set j v)(ht:s'.t=s.t)(hl:s'.l=s.l):TS Ty b T w0 s' e ta tc la lc (w.setCell ⟨T,j,none⟩ v):=by
 refine⟨?_, ?_, ?_,gY h.eye h.low ((But.refl _ T w).setCell j v),di h.but (Nat.le_refl _) j v,h.low⟩
 ·rw[hs];exact h.f.setCell j v
 ·rw[ht];exact fK h.rt om_
 ·rw[hl];exact fK h.rl om_
theorem EQ:(3:TypeId)≠47:=by decide
theorem TS.held{w w':World}{B ee sz n:Nat}{u:Value}{xs:List Value}(h:TS Ty b T w0 s e ta tc la lc w)(ho:w.ownsRow (T+1) ee sz u n xs)(hg:w.grownBy w' u.ownBlock):Block w' T 52 [.int .i64 s.op,.int .i64 s.fm,.int .i64 s.fd,.int .i64 s.pl,.int .i64 s.tt,.int .i64 s.a,.int .i64 s.b,.int .i64 s.f.id,.int .i64 s.f.kind,.int .i64 s.f.lo,.int .i64 s.f.hi,.int .i64 s.f.most,.int .i64 s.v.n,.string s.v.s,.slice ta s.t.length tc,.slice la s.l.length lc]:=
 (hg.block T h.f.lt (by intro he;have:=World.ownsRow.lt ho T he.symm;omega)).trans h.f
theorem TS.Ip{w w':World}{p:Int}{q:Option Addr}{qc:Nat}(h:TS Ty b T w0 s e ta tc la lc w)(hg:w.grownBy w' (Value.slice ta s.t.length tc).ownBlock)(ho:w'.ownsRow (T+1) 3 1 (.slice q (s.t.length+1) qc) (s.t.length+1) (qZ (s.t++[p]))):
  TS Ty b T w0 { s with t:=s.t++[p]} e q qc la lc (w'.setCell ⟨T,14,none⟩ (.slice q (s.t.length+1) qc)):=by
 have hF:=h.held (B:=0) h.rt hg;have JW:(s.t++[p]).length=s.t.length+1:=by simp
 refine⟨?_, ?_,fK ((eU 47 h.rt hg EQ).row h.rl) om_, ?_, ?_,h.low⟩
 ·have:=hF.setCell 14 (.slice q (s.t.length+1) qc);rw[<-JW] at this ⊢;exact this
 ·rw[JW];exact fK ho om_
 ·exact gY (jA h.eye h.rt hg (by have:=h.low;omega)) h.low ((But.refl _ T w').setCell 14 _)
 ·exact di (jw h.but (dM h.rt om_) hg (Nat.le_of_lt h.f.lt)) (Nat.le_refl _) 14 _
theorem TS.Ns{w w':World}{p:field.Fd}{q:Option Addr}{qc:Nat}(h:TS Ty b T w0 s e ta tc la lc w)(hg:w.grownBy w' (Value.slice la s.l.length lc).ownBlock)(ho:w'.ownsRow (T+1) 47 5 (.slice q (s.l.length+1) qc) (s.l.length+1) (fdV (s.l++[p]))):
  TS Ty b T w0 { s with l:=s.l++[p]} e ta tc q qc (w'.setCell ⟨T,15,none⟩ (.slice q (s.l.length+1) qc)):=by
 have hF:=h.held (B:=0) h.rl hg;have JW:(s.l++[p]).length=s.l.length+1:=by simp
 refine⟨?_,fK ((eU 3 h.rl hg (Ne.symm EQ)).row h.rt) om_, ?_, ?_, ?_,h.low⟩
 ·have:=hF.setCell 15 (.slice q (s.l.length+1) qc);rw[<-JW] at this ⊢;exact this
 ·rw[JW];exact fK ho om_
 ·exact gY (jA h.eye h.rl hg (by have:=h.low;omega)) h.low ((But.refl _ T w').setCell 15 _)
 ·exact di (jw h.but (dM h.rl om_) hg (Nat.le_of_lt h.f.lt)) (Nat.le_refl _) 15 _
theorem TS.start{w1:World}(hE:bG Ty b e w1)(op:Int):TS Ty b w1.heap.size w1 (jD op) e none 0 none 0 (w1.alloc (.cells #[.int .i64 op,.int .i64 0,.int .i64 0,.int .i64 0,.int .i64 0,.int .i64 0,.int .i64 0,.int .i64 0,.int .i64 0,.int .i64 0,.int .i64 0,.int .i64 0,.int .i64 0,.string ⟨#[]⟩,.slice none 0 0,.slice none 0 0] 52)):=
 ⟨Block.new w1 52 [.int .i64 op,.int .i64 0,.int .i64 0,.int .i64 0,.int .i64 0,.int .i64 0,.int .i64 0,.int .i64 0,.int .i64 0,.int .i64 0,.int .i64 0,.int .i64 0,.int .i64 0,.string ⟨#[]⟩,.slice none 0 0,.slice none 0 0],World.ownsRow_nil _ _ _ _,World.ownsRow_nil _ _ _ _,hE.later (aI _ _),Below.but (aI _ _),hE.lt⟩
theorem TS.lists{w:World}(h:TS Ty b T w0 s e ta tc la lc w):Lists w s ta la:=
 ⟨(yZ h.rt).1,(oL h.rl).1,Nat.le_trans (ig h.rt).1 (ig h.rt).2,Nat.le_trans (ig h.rl).1 (ig h.rl).2⟩
end step
namespace ak
open Go.RowKit
open field (Gives aI ay)
theorem gu{fn:Func}{p u:Tmp}{ty:TypeId}{tmps:Array Value}{P:Program}{w:World}{b o:Nat}{cs:List Value}{d:TypeDesc}(h:fn.results=#[.cell p ty,.tmp u])
  (hp:tmps.getD p undef=.pointer (some ⟨b,o,none⟩)) (hc:w.rangeAt b o cs) (hu:P.underlying ty=some d) (hd:d.isRow=true) (hi:(P.info? ty).map (·.size)=some cs.length):
  (results fn tmps).run P w=.ok (.tuple #[.agg cs.toArray,tmps.getD u undef]) w:=by
 exact t43
end ak
namespace ak
open Go.RowKit pen
set_option maxRecDepth 20000 in
set_option maxHeartbeats 1600000 in
theorem parse_any(a:Option Addr)(c:Nat)(xs:List Nat)(w:World)(hr:Reads .u8 w a xs.length xs)(hx:∀c∈xs,c<256)(hl:xs.length<=140737488355328):
  Calls prog 29 #[.slice a xs.length c] w (fG xs w):=by
 obtain⟨V,s1,hV⟩:∃V s1,au 65535 (xs,0)=(V,s1):=⟨_,_,rfl⟩;obtain⟨N,s2,hN⟩:∃N s2,au 8 s1=(N,s2):=⟨_,_,rfl⟩;have Ue:N<=8:=by have:=eP 8 s1;rw[show((8:Nat):Int)=8 from rfl,hN] at this;exact this
 have hP:parsed xs=(if gI (bC N s2).2≠0 then(0,[],gI (bC N s2).2) else if Right V (bC N s2).1 then((V:Int),(bC N s2).1,0) else(0,[],2)):=by
  have h1:lM xs=(V,s1):=hV;have h2:jr xs=(N,s2):=by unfold jr;rw[h1];exact hN
  have h3:jl xs=bC N s2:=by unfold jl;rw[h2]
  unfold parsed;rw[h3,h1]
 have HP:=hid hP;clear hP;have qR:=field.aI w (.cells #[.int .i64 0,.slice none 0 0] 24);have c0:=AX a c xs (w.alloc (.cells #[.int .i64 0,.slice none 0 0] 24)) (hr.below qR) hx hl;have HR0:=hid (Block.new w 24 [.int .i64 0,.slice none 0 0]);have HB0:=hid qR;have c1:=fun b w' hE=>aS b (xs,0) w' hE 65535 om_ om_
 have c2:=fun b w' hE=>aS b s1 w' hE 8 om_ om_
 rw[hV] at c1;rw[hN] at c2;clear hV hN hr hx hl qR;simp only at c1 c2;unfold Saw at c1 c2;go_enter func29,ntmps29;go_wp2_with (first
  | (go_at_call 51;((with_reducible refine c0.mono ?_);rintro e w1 ⟨b,rfl,D6,hE1,hu1⟩;have hR1:=HR0.o.later hu1;have dR:w.heap.size≠b:=(by simp at D6;omega)))
  | (go_at_call 52;((with_reducible refine(c1 b w1 hE1).mono ?_);rintro e w2 ⟨rfl,hE2,hu2⟩;have hR2:=bK hR1 hu2 dR))
  | (go_at_call 52;((with_reducible refine(c2 b _ (hE2.later (field.aI _ _))).mono ?_);rintro e w3 ⟨rfl,rQ,hu3⟩;have FZ:=hid ((SS.start hE2 V).call rQ hu3))))
 have hsz2:w.heap.size<w2.heap.size:=hR2.lt;have hsz1:w.heap.size<=w1.heap.size:=Nat.le_of_lt hR1.lt;have D7:w.heap.size<=b:=by simp at D6;omega
 have aQ:Below w.heap.size w w2:=(HB0.o.trans (hu1.mono HB0.o.size)).trans ((hu2.mono hsz1).below (Nat.le_refl _) D7);have HB2:=hid aQ;have HR2:=hid hR2;have oD:=hid hsz2;obtain⟨S,hS⟩:∃S,Hid (w2.heap.size=S):=⟨_,hid rfl⟩;rw[hS.o] at FZ oD ⊢;clear hu1 hu2 hu3 hE1 hE2 rQ c0 c1 c2 aQ hsz2 hsz1 hR1 hR2 D6;go_loopw [14] (fun m wr=>∃k:Nat,k<=N/\m=.int .i64 (k:Int)/\Hid (∃P u,forms P=(bC k s2).1/\SS 112 V b S w2 P (bC k s2).2 k u wr)) (fun m _=>N - (intOf m).toNat);case atStart=>exact⟨0,Nat.zero_le _,rfl,hid ⟨[],_,rfl,FZ.o⟩⟩
 case round=>
  obtain⟨k,hk,rfl,HS⟩:=hrel;obtain⟨P,u,Gw,hS⟩:=HS.o;obtain⟨ua,uc,rfl,_⟩:=aP hS.row;by_cases hlt2:k<N
  ·have i1:(k:Int)<N:=by omega
   obtain⟨p,s4,hp⟩:∃p s4,iT (bC k s2).2=(p,s4):=⟨_,_,rfl⟩;have HT1:Hid ((bC (k+1) s2).1=(bC k s2).1++[p]):=hid (by rw[bC,hp]);have HT2:Hid ((bC (k+1) s2).2=s4):=hid (by rw[bC,hp]);have cP:=fun w' hE=>wo b (bC k s2).2 w' hE
   rw[hp] at cP;clear hp HS FZ;have BQ:=hid Gw;clear Gw;generalize (bC k s2).1=L at *;generalize (bC k s2).2=sk at *;have HS:=hid (hS.later (w':=wr.drew) (below_drewN (Below.refl _ _) 1));clear hS;go_wp2;refine plan.qM ?_;have hS:=HS.o;refine plan.free 0 _ (.pointer (some ⟨S,1,none⟩)) rfl kr_ kr_ kr_ kr_ (fun w'=>kr_) ?_;refine plan.free 2 _ (.pointer (some ⟨b,0,none⟩)) rfl kr_ kr_ kr_ kr_ (fun w'=>kr_) ?_;refine plan.toL 3 (fun x y z=> #[true,x,true,y,z,false,false,false]) rfl ?_;refine plan.late 1 3 4 17 19 20 de_ de_ _ _ _ (fun x y z=> #[true,x,true,y,z,false,false,false]) rfl rfl rfl rfl rfl rfl rfl rfl rfl (by intro y z;cases y <;> cases z <;> rfl) (by intro x;cases x <;> rfl) (by intro x;cases x <;> rfl)
    kr_ kr_ kr_ kr_ kr_ (.slice ua k uc) 55 #[.pointer (some ⟨b,0,none⟩)]
    (fun v w'=>∃q:Fm,v=q.val/\q.p=p/\zY (S+1) w' q/\SS 112 V b S w2 P s4 k (.slice ua k uc) w') (fun v w'=>.slice (some ⟨w'.heap.size,0,none⟩) 1 1) (fun v w'=>w'.alloc (.cells v.cells 40))
    (aU (ad:=⟨S,1,none⟩) rfl (hS.f.cell 1) isAgg22)
    (fun v w' hM=>by obtain⟨q,_,_,_,h4⟩:=hM;exact aU (ad:=⟨S,1,none⟩) rfl (h4.f.cell 1) isAgg22)
    (fun v w' hM=>by obtain⟨q,_,_,_,h4⟩:=hM;exact aU (ad:=⟨S,1,none⟩) rfl ((h4.f.alloc _).cell 1) isAgg22)
    kr_ kr_ ((cP _ hS.eye).mono ?_) (fun v w' hM=>by obtain⟨q,rfl,_⟩:=hM;kernel_rfl) (fun v w' hM=>by obtain⟨q,rfl,_⟩:=hM;kernel_rfl) ?_
   ·rintro e w3 ⟨q,rfl,hq,ho,rQ,hu3⟩;exact⟨_,rfl,q,rfl,hq,dM ho (by have:=hS.f.lt;omega),hS.call rQ hu3⟩
   ·rintro v w3 ⟨q,rfl,hq,hO3,ny⟩;have hN3:=field.aI w3 (.cells (zS q.id q.f q.fL.length q.jB) 40);have kK:=ny.later hN3;have hO4:zY (S+1) (w3.alloc (.cells (zS q.id q.f q.fL.length q.jB) 40)) q:=dL hO3 hN3;refine plan.Fh 5 _ (fun z w5=>w5.ownsRow (S+1) 40 2 z (k+1) (fmV (P++[q]))/\(w3.alloc (.cells (zS q.id q.f q.fL.length q.jB) 40)).grownBy w5 (Value.slice ua k uc).ownBlock) rfl rfl
     (xE (g:=w3.heap.size) rfl kK.row (Block.new w3 40 (fmC q)) om_ kK.f.lt) ?_
    rintro z w5 ⟨uy,hg5⟩;have pR:=kK.held hg5;have nU:=kK.push hO4 hg5 uy;obtain⟨qa,qc,rfl,_⟩:=aP uy;refine plan.uK (w1:=w5) 6 _ (.pointer (some ⟨S,1,none⟩)) rfl rfl ?_;refine plan.lastT (w1:=w5.setCell ⟨S,1,none⟩ (.slice qa (k+1) qc)) 7 _ rfl rfl rfl (yJ (ad:=⟨S,1,none⟩) rfl (pR.cell 1) (pR.frozen 1)) ?_;have yw:=hid nU;have HQ:=hid hq;clear nU pR uy hg5 kK ny hS hO3 hO4 hN3 hq;walk_nrm;go_wp2;exact⟨⟨k+1,by omega,by go_num,hid ⟨P++[q],_,by rw[HT1.o,<-BQ.o,<-HQ.o];simp[forms],by rw[HT2.o];exact yw.o⟩⟩,by simp[intOf];omega⟩
  ·obtain rfl:k=N:=by omega
   have hR:=HR2.o.but hS.but oD.o (show w.heap.size≠b by omega);have MQ:Below w.heap.size w wr:=HB2.o.trans (hS.but.below (Nat.le_of_lt oD.o) D7);have rV:=hS.list.2;have HRW:=hid hR;have jg:=hid MQ;have I5:=hid hS;have RS:=hid rV;have BQ:=hid Gw;have WH:Hid (w.heap.size≠S):=hid (Nat.ne_of_lt oD.o);have cE:Calls prog 54 #[.pointer (some ⟨b,0,none⟩)] wr (field.Gives (.int .i64 (gI (bC k s2).2:Int)) wr):=(xB b _ wr hS.eye).mono (by rintro e w' ⟨rfl,m,rfl⟩;exact⟨rfl,below_drewN (Below.refl _ _) m⟩);clear HS hS hR MQ Gw FZ HR2 HB2 rV;by_cases hE:gI (bC k s2).2=0
   ·rw[hE] at cE;have HP2:=HP.o;rw[if_neg (by rw[hE];simp)] at HP2;have HP2:=hid HP2;have cR:=fun w' (hb:Below wr.heap.size wr w')=>dB V ua uc P w' ((I5.o.later hb).list.1) (by have:=RS.o;unfold maxLen;omega)
    rw[BQ.o] at cR;rw[<-RS.o] at cR;have hN0:(((0:Nat):Int) == 0)=true:=rfl;clear HP hE;by_cases mJ:Right V (bC k s2).1
    ·have FY:Hid (parsed xs=((V:Int),(bC k s2).1,0)):=hid (by rw[HP2.o,if_pos mJ]);simp only[decide_eq_true mJ] at cR;clear HP2 mJ;go_wp2_with (first
      | (go_at_call 54;((with_reducible refine cE.mono ?_);rintro e w5 ⟨rfl,jq⟩;have nJ:=HRW.o.later jq;have vT:=I5.o.later jq;have x0:=nJ.cell 0;have x1:=nJ.cell 1;have p0:=nJ.frozen 0;have p1:=nJ.frozen 1;have y0:=vT.f.cell 0;have y1:=vT.f.cell 1))
      | (go_at_call 14;((with_reducible refine(cR _ jq).mono ?_);rintro e w6 ⟨rfl,pU⟩;have zT:=nJ.later pU;have nU:=vT.later pU;have x0:=zT.cell 0;have x1:=zT.cell 1;have p0:=zT.frozen 0;have p1:=zT.frozen 1;have y0:=nU.f.cell 0;have y1:=nU.f.cell 1)))
     have hB:=(zT.setCell 0 (.int .i64 (V:Int))).setCell 1 (.slice ua k uc);exact bodyPost_ret (gu (b:=w.heap.size) (o:=0) rfl rfl hB.whole underlying24 rfl (uT _ _)) rfl (Bd FY.o BQ.o nU oD.o ((jg.o.trans (jq.mono jg.o.size)).trans (pU.mono (Nat.le_trans jg.o.size jq.size))))
    ·have FY:Hid (parsed xs=(0,[],2)):=hid (by rw[HP2.o,if_neg mJ]);simp only[decide_eq_false mJ] at cR;clear HP2 mJ;go_wp2_with (first
      | (go_at_call 54;((with_reducible refine cE.mono ?_);rintro e w5 ⟨rfl,jq⟩;have nJ:=HRW.o.later jq;have vT:=I5.o.later jq;have x0:=nJ.cell 0;have x1:=nJ.cell 1;have p0:=nJ.frozen 0;have p1:=nJ.frozen 1;have y0:=vT.f.cell 0;have y1:=vT.f.cell 1))
      | (go_at_call 14;((with_reducible refine(cR _ jq).mono ?_);rintro e w6 ⟨rfl,pU⟩;have zT:=nJ.later pU;have nU:=vT.later pU;have x0:=zT.cell 0;have x1:=zT.cell 1;have p0:=zT.frozen 0;have p1:=zT.frozen 1;have y0:=nU.f.cell 0;have y1:=nU.f.cell 1)))
     have hB:=(zT.setCell 0 (.int .i64 0)).setCell 1 (.slice none 0 0);exact bodyPost_ret (gu (b:=w.heap.size) (o:=0) rfl rfl hB.whole underlying24 rfl (uT _ _)) rfl (kM FY.o ((jg.o.trans (jq.mono jg.o.size)).trans (pU.mono (Nat.le_trans jg.o.size jq.size))))
   ·have HP2:Hid (parsed xs=(0,[],gI (bC k s2).2)):=hid (by rw[HP.o,if_pos hE]);have dR:((gI (bC k s2).2:Int) == 0)=false:=by rw[beq_eq_false_iff_ne];omega
    have qC:((gI (bC k s2).2:Int) != 0)=true:=by simp[hE]
    generalize gI (bC k s2).2=E at *;clear HP hE;go_wp2_with (first
     | (go_at_call 54;((with_reducible refine cE.mono ?_);rintro e w5 ⟨rfl,jq⟩;have nJ:=HRW.o.later jq;have vT:=I5.o.later jq;have x0:=nJ.cell 0;have x1:=nJ.cell 1;have p0:=nJ.frozen 0;have p1:=nJ.frozen 1;have y0:=vT.f.cell 0;have y1:=vT.f.cell 1))
     | (go_at_call 14;((with_reducible refine(cR _ jq).mono ?_);rintro e w6 ⟨rfl,pU⟩;have zT:=nJ.later pU;have nU:=vT.later pU;have x0:=zT.cell 0;have x1:=zT.cell 1;have p0:=zT.frozen 0;have p1:=zT.frozen 1;have y0:=nU.f.cell 0;have y1:=nU.f.cell 1)))
    have hB:=(nJ.setCell 0 (.int .i64 0)).setCell 1 (.slice none 0 0);exact bodyPost_ret (gu (b:=w.heap.size) (o:=0) rfl rfl hB.whole underlying24 rfl (uT _ _)) rfl (kM HP2.o (jg.o.trans (jq.mono jg.o.size)))
end ak
end Go.Proofs.Ytogfefdlffmioaa
