/- Contracts and lemmas that claims of this seat share: PenNext, PenLow, PenFirst, PenVar, PenLook, SchemaEye, PenSight, SchemaPrint. Each says its own conditions. -/
import Derived.Test.YtogfefdlffmioaaCmWord
import Derived.Laws.BitsAllLaws
import Derived.Laws.Bits64b
import Derived.Test.YtogfefdlffmioaaCmO
import Derived.Test.YtogfefdlffmioaaCmQ
import Derived.Test.YtogfefdlffmioaaCmL
import Derived.Test.YtogfefdlffmioaaCmV
set_option linter.unusedVariables false
namespace Go.Proofs.Ytogfefdlffmioaa
open Go.Proofs.Try
namespace pen
open Go.RowKit texts
structure Stand (t:TypeId) (b:Nat) (r:List Nat) (z:Nat) (w:World) (a:Option Addr) (c:Nat):Prop where
 small:∀c∈r,c<256
 len:r.length<=140737488355328
 block:Block w b t [.slice a r.length c,.int .i64 (z:Int)]
 room:r.length<=c
 reads:Reads .u8 w a r.length r
 off:0<r.length->∀x,a=some x->x.block<b
theorem bG.stand{t:TypeId}{b:Nat}{r:List Nat}{z:Nat}{w:World}(h:bG t b (r,z) w):∃a c,Stand t b r z w a c:=by
 obtain⟨h1,h2,a,c,h3,h4,h5,h6⟩:=h;exact⟨a,c,h1,h2,h3,h4,h5,h6⟩
theorem Stand.eye{t:TypeId}{b:Nat}{r:List Nat}{z:Nat}{w:World}{a:Option Addr}{c:Nat}(h:Stand t b r z w a c):bG t b (r,z) w:=
 ⟨h.small,h.len,a,c,h.block,h.room,h.reads,h.off⟩
theorem Stand.rest{t:TypeId}{b:Nat}{r:List Nat}{z:Nat}{w:World}{a:Option Addr}{c:Nat}(h:Stand t b r z w a c):w.cell? ⟨b,0,none⟩=some (.slice a r.length c):=by rw[h.block.cell];rfl
theorem Stand.err{t:TypeId}{b:Nat}{r:List Nat}{z:Nat}{w:World}{a:Option Addr}{c:Nat}(h:Stand t b r z w a c):w.cell? ⟨b,1,none⟩=some (.int .i64 (z:Int)):=by rw[h.block.cell];rfl
theorem Stand.drewN{t:TypeId}{b:Nat}{r:List Nat}{z:Nat}{w:World}{a:Option Addr}{c:Nat}(h:Stand t b r z w a c)(m:Nat):Stand t b r z (w.drewN m) a c:=
 ⟨h.small,h.len,h.block,h.room,h.reads.drewN m,h.off⟩
theorem Stand.cut{t:TypeId}{b:Nat}{r:List Nat}{z:Nat}{w:World}{a:Option Addr}{c:Nat}(h:Stand t b r z w a c)(n:Nat)(hn:n<=r.length):
  bG t b (r.drop n,z) (w.setCell ⟨b,0,none⟩ (.slice (shift a n c) (r.length - n) (c - n)))/\But w.heap.size b w (w.setCell ⟨b,0,none⟩ (.slice (shift a n c) (r.length - n) (c - n))):=by
 have Am:=(But.refl w.heap.size b w).setCell 0 (.slice (shift a n c) (r.length - n) (c - n));refine⟨⟨fun x hx=>h.small x (List.mem_of_mem_drop hx), ?_,shift a n c,c - n, ?_, ?_, ?_,rF h.off si_⟩,Am⟩
 ·show(r.drop n).length<=_
  rw[List.length_drop];have:=h.len;omega
 ·show Block _ b t [.slice _ (r.drop n).length _,_]
  rw[List.length_drop];exact h.block.setCell 0 _
 ·show(r.drop n).length<=_
  rw[List.length_drop];have:=h.room;omega
 ·show Reads .u8 _ _ (r.drop n).length (r.drop n)
  rw[List.length_drop];exact oN (zi h.reads hn h.room) Am (rF h.off om_)
def Gh(t:TypeId)(b:Nat)(r:List Nat)(s:Sight)(w:World)(e:Ending)(w':World):Prop:=
 ∃a c,e=.returned (.slice a r.length c)/\r.length<=c/\Reads .u8 w' a r.length r/\bG t b s w'/\But w.heap.size b w w'
theorem Stand.took{t:TypeId}{b:Nat}{r:List Nat}{w:World}{a:Option Addr}{c:Nat}(h:Stand t b r 0 w a c)(n:Nat)(hn:n<=r.length)(k:Nat)(hk:n<=k)(m:Nat)(w0:World)(hw:w=w0.drewN m):
  Gh t b (r.take n) (r.drop n,0) w0 (.returned (.slice (shift a 0 k) n k)) (w.setCell ⟨b,0,none⟩ (.slice (shift a n c) (r.length - n) (c - n))):=by
 subst hw;obtain⟨h1,h2⟩:=h.cut n hn;have hl:(r.take n).length=n:=by rw[List.length_take];omega
 refine⟨_,k,by rw[hl],by omega, ?_,h1,h2⟩;rw[hl];exact oN (Be h.reads hn) h2 (rF h.off hn)
theorem CU(n:Nat)(r:List Nat)(z:Nat)(h:z≠0):dV n (r,z)=([],(r,z)):=by unfold dV;exact if_pos h
theorem yH(n:Nat)(r:List Nat)(h:r.length<n):dV n (r,0)=([],(r,5)):=by unfold dV;rw[if_neg si_];exact if_pos h
theorem tY(n:Nat)(r:List Nat)(h:n<=r.length):dV n (r,0)=(r.take n,(r.drop n,0)):=by unfold dV;rw[if_neg si_];exact if_neg (by show ¬r.length<n;omega)
theorem But.drew{B g:Nat}{w:World}(m:Nat):But B g w (w.drewN m):=But.refl B g w
theorem next_any(b:Nat)(s:Sight)(w:World)(h:bG 112 b s w)(n:Nat)(hn:n<=9223372036854775807):
  Calls prog 76 #[.pointer (some ⟨b,0,none⟩),.int .i64 (n:Int)] w (Gh 112 b (dV n s).1 (dV n s).2 w):=by
 obtain⟨r,z⟩:=s;have c0:=sZ b (r,z) w h;simp only at c0;have HE:=hid h;obtain⟨a,c,st⟩:=h.stand;clear h;by_cases hz:z=0
 ·subst hz;have hlen:=st.len;have c1:∀m,(w.drewN m).cell? ⟨b,0,none⟩=some (.slice a r.length c):=fun m=>(st.drewN m).rest
  have c2:∀m,(w.drewN m).cell? ⟨b,1,none⟩=some (.int .i64 0):=fun m=>(st.drewN m).err
  have f0:∀m,(w.drewN m).frozen? ⟨b,0,none⟩=false:=fun m=>(st.drewN m).block.frozen 0
  have f1:∀m,(w.drewN m).frozen? ⟨b,1,none⟩=false:=fun m=>(st.drewN m).block.frozen 1
  by_cases hs:r.length<n
  ·rw[yH n r hs];have hi:(r.length:Int)<n:=by omega
   clear st hs;rw[show((0:Nat):Int)=0 from rfl] at c0;go_enter func76,ntmps76;go_wp2_with (go_at_call 77;(with_reducible refine c0.mono ?_);rintro e w' ⟨rfl,m,rfl⟩);go_ret;have hf:=(HE.o.later (below_drewN (Below.refl _ _) m)).fail 5;exact⟨none,0,rfl,Nat.le_refl _,Reads.nil,hf.1,hf.2⟩
  ·rw[tY n r om_];have hi:¬(r.length:Int)<n:=by omega
   have SY:=st.room;have e1:=fun W=>Ep W a r.length c n om_
   have e2:=fun W=>Eo W a r.length c n om_
   have ST:=hid st;have HR:Hid (n<=r.length):=by show _<=_;omega
   have HT:=hid (fun m=>(ST.o.drewN m).took n HR.o n (Nat.le_refl _) m w rfl);obtain⟨A1,hA1⟩:∃A,Hid (shift a 0 n=A):=⟨_,rfl⟩;obtain⟨A2,hA2⟩:∃A,Hid (shift a n c=A):=⟨_,rfl⟩;rw[hA1.o] at e1 HT;rw[hA2.o] at e2 HT;clear st hs;rw[show((0:Nat):Int)=0 from rfl] at c0;go_enter func76,ntmps76;go_wp2_with (go_at_call 77;(with_reducible refine c0.mono ?_);rintro e w' ⟨rfl,m,rfl⟩);go_ret;exact HT.o m
 ·rw[CU n r z hz];have hi:((z:Int) != 0)=true:=by rw[bne_iff_ne];omega
  clear st hz;go_enter func76,ntmps76;go_wp2_with (go_at_call 77;(with_reducible refine c0.mono ?_);rintro e w' ⟨rfl,m,rfl⟩);go_ret;exact⟨none,0,rfl,Nat.le_refl _,Reads.nil,HE.o.later (below_drewN (Below.refl _ _) m),But.drew m⟩
end pen
namespace pen
open Go.RowKit texts
theorem getD_lt{l:List Nat}(h:∀c∈l,c<256)(k:Nat):l.getD k 0<256:=by
 rw[List.getD_eq_getElem?_getD];by_cases hk:k<l.length
 ·rw[List.getElem?_eq_getElem hk];exact h _ (List.getElem_mem hk)
 ·rw[List.getElem?_eq_none om_];decide
end pen
theorem t138{P:Prop}(h:P:=by
 clear h9 p9 nV HG hD rV bI hU hB uz h128 hm h0
 exact t117):P:=h
theorem t123{P:Prop}(h:P:=by
 go_wp2;go_ret3;exact⟨by rw[HV.o];rfl,0,rfl⟩):P:=h
theorem t120{P:Prop}(h:P:=by
 by_cases h0:0<k
 ·have q3:(0:Int)<k:=by omega
  exact t16
 ·have q3:¬(0:Int)<k:=by omega
  exact t16):P:=h
theorem t117{P:Prop}(h:P:=by
 go_wp2;go_ret3;have ho:=HO.o;exact⟨by rw[HV.o,xO,<-ho];rfl,0,rfl⟩):P:=h
theorem t97{P:Prop}(h:P:=by
 show _<_
 rw[show 7*(k+1)=7*k+7 by omega,Nat.pow_add];omega):P:=h
theorem t35{P:Prop}(h:P:=by
 have q3:(0:Int)<k:=by omega
 have q4:((C:Int) == 0)=true:=by rw[beq_iff_eq];omega
 have HV:Hid (G=(0,0,4)):=by show _=_;rw[<-HG.o,if_neg om_,if_pos hB]
 clear h9 p9 nV HG hD rV bI hU hB uz
 exact t123):P:=h
theorem t16{P:Prop}(h:P:=by
 clear h9 p9 nV HG hD rV hU hB uz h128 hm h0;go_wp2;exact⟨⟨k+1,U+(C - 128)*2 ^ (7*k),HK.o.1,HK.o.2,by go_num,congrArg (Value.int .u64) HO.o,LJ.o,trivial,HV⟩,by simp[intOf];omega⟩):P:=h
theorem t13{P:Prop}(h:P:=by
 have q5:(C:Int)<128:=by omega
 have HV:Hid (G=(U+C*2 ^ (7*k),k+1,0)):=by show _=_;rw[<-HG.o,if_neg om_,if_neg hB,if_pos h128]
 have hm:C*2 ^ (7*k)<=128*2 ^ (7*k):=Nat.mul_le_mul_right _ om_;have HO:=hid (lK U C k C rfl hU om_ Ak);by_cases h0:0<k
 ·have q3:(0:Int)<k:=by omega
  have q4:((C:Int) == 0)=false:=by rw[beq_eq_false_iff_ne];omega
  exact t138
 ·have q3:¬(0:Int)<k:=by omega
  exact t138):P:=h
theorem t10{P:Prop}(h:P:=by
 have q1:((k:Int) == 9)=true:=by rw[beq_iff_eq];omega
 have q3:(0:Int)<k:=by omega
 by_cases h1:1<C
 ·have q2:(1:Int)<C:=by omega
  have HV:Hid (G=(0,0,4)):=by show _=_;rw[<-HG.o,if_pos ⟨h9,h1⟩]
  clear h9 h1 p9 nV HG hD rV bI hU
  exact t123
 ·have q2:¬(1:Int)<C:=by omega
  by_cases h0:C=0
  ·have q4:((C:Int) == 0)=true:=by rw[beq_iff_eq];omega
   have HV:Hid (G=(0,0,4)):=by show _=_;rw[<-HG.o,if_neg om_,if_pos om_]
   clear h9 h1 p9 nV HG hD rV bI h0 hU
   exact t123
  ·have q4:((C:Int) == 0)=false:=by rw[beq_eq_false_iff_ne];omega
   have q5:(C:Int)<128:=by omega
   have HV:Hid (G=(U+C*2 ^ (7*k),k+1,0)):=by show _=_;rw[<-HG.o,if_neg om_,if_neg om_,if_pos om_]
   have hm:C*2 ^ (7*k)<=1*2 ^ (7*k):=Nat.mul_le_mul_right _ om_;have HO:=hid (lK U C k C rfl hU om_ Ak);clear h9 h1 p9 HG hD rV bI h0 hm nV hU
   exact t117):P:=h
namespace pen
open Go.RowKit texts
theorem GZ(U C j:Nat)(hU:U<2 ^ j)(h:C*2 ^ j<18446744073709551616)(h2:U<18446744073709551616):bits .or .u64 (U:Int) ((C*2 ^ j:Nat):Int)=((U+C*2 ^ j:Nat):Int):=by
 rw[bits_or_u64_nat U (C*2 ^ j) h2 h,Nat.or_comm,Nat.mul_comm C,<-Nat.two_pow_add_eq_or_of_lt hU,Nat.add_comm]
theorem wH(l:List Nat)(k:Nat)(h:k<l.length):l.drop k=l.getD k 0 :: l.drop (k+1):=by
 rw[List.drop_eq_getElem_cons h,List.getD_eq_getElem?_getD,List.getElem?_eq_getElem h];rfl
theorem lK(U e k:Nat)(z:Int)(hz:z=(e:Int))(hU:U<2 ^ (7*k))(h:e*2 ^ (7*k)<18446744073709551616)(h2:U<18446744073709551616):
  bits .or .u64 (U:Int) (IntKind.u64.wrap (z*2 ^ (7*k)))=((U+e*2 ^ (7*k):Nat):Int):=by
 subst hz;have e1:(e:Int)*2 ^ (7*k)=((e*2 ^ (7*k):Nat):Int):=by simp
 have e2:IntKind.u64.wrap (((e*2 ^ (7*k):Nat):Int))=((e*2 ^ (7*k):Nat):Int):=by
  generalize e*2 ^ (7*k)=q at *;simp[IntKind.wrap,IntKind.bits,IntKind.signed];omega
 rw[e1,e2];exact GZ U e (7*k) hU h h2
theorem yQ(i u c:Nat)(r:List Nat):grp i u (c :: r)=if i=9/\1<c then(0,0,4) else if 0<i/\c=0 then(0,0,4) else if c<128 then(u+c*128 ^ i,i+1,0) else grp (i+1) (u+(c - 128)*128 ^ i) r:=rfl
def xO(g:Nat×Nat×Nat):Value:=.tuple #[.int .u64 (g.1:Int),.int .i64 (g.2.1:Int),.int .i64 (g.2.2:Int)]
set_option maxRecDepth 8000 in
theorem first_any(a:Option Addr)(c:Nat)(xs:List Nat)(w:World)(hr:Reads .u8 w a xs.length xs)(hc:xs.length<=c)(hx:∀c∈xs,c<256)(hl:xs.length<=140737488355328):
  Calls prog 91 #[.slice a xs.length c] w (Quiet (xO (grp 0 0 xs)) w):=by
 have HR:=hid hr;clear hr;obtain⟨G,hG⟩:∃G,Hid (grp 0 0 xs=G):=⟨_,rfl⟩;rw[hG.o];have HD:Hid (grp 0 0 (xs.drop 0)=G):=hG.o;by_cases OJ:xs.length<=10
 ·have Qm:(xs.length:Int)<=10:=by omega
  go_enter func91,ntmps91;go_wp2;go_loopw [5,14] (fun x i wr=>∃k U:Nat,k<=xs.length/\k<=9/\i=.int .i64 (k:Int)/\x=.int .u64 (U:Int)/\U<2 ^ (7*k)/\wr=w/\Hid (grp k U (xs.drop k)=G))
   (fun x i _=>xs.length - (intOf i).toNat)
  case atStart=>exact⟨0,0,Nat.zero_le _,by omega,rfl,rfl,by simp,rfl,HD⟩
  case round=>
   obtain⟨k,U,Us,MX,rfl,rfl,hU,rfl,hg⟩:=hrel;by_cases bI:k<xs.length
   ·have hi:(k:Int)<xs.length:=by omega
    have rV:k<xs.length:=by omega
    obtain⟨g,off,rfl,hgb,hcell⟩:=HR.o.at rV;have hcl:=hcell k rV;have Jg:=getD_lt hx k;have hg2:=hg.o;rw[wH xs k rV,yQ] at hg2;have HG:=hid hg2;obtain⟨C,hC⟩:∃C,Hid (xs.getD k 0=C):=⟨_,rfl⟩;rw[hC.o] at hcl Jg HG;have hD:Hid (xs.drop (k+1)=xs.drop (k+1)):=rfl;clear hcell hg hg2 HR hC;have p9:(128:Nat) ^ k=2 ^ (7*k):=by rw[show(128:Nat)=2 ^ 7 from rfl,<-Nat.pow_mul]
    rw[p9] at HG;have nV:2 ^ (7*k)<=2 ^ 63:=Nat.pow_le_pow_right om_ om_;have Ak:U<18446744073709551616:=by omega
    by_cases h9:k=9
    ·exact t10
    ·have q1:((k:Int) == 9)=false:=by rw[beq_eq_false_iff_ne];omega
     have uz:2 ^ (7*k)<=2 ^ 56:=Nat.pow_le_pow_right om_ om_;by_cases hB:0<k/\C=0
     ·exact t35
     ·by_cases h128:C<128
      ·exact t13
      ·have q5:¬(C:Int)<128:=by omega
       have HV:Hid (grp (k+1) (U+(C - 128)*2 ^ (7*k)) (xs.drop (k+1))=G):=by show _=_;rw[<-HG.o,if_neg om_,if_neg hB,if_neg h128]
       have hm:(C - 128)*2 ^ (7*k)<=127*2 ^ (7*k):=Nat.mul_le_mul_right _ om_;have HO:=hid (lK U (C - 128) k ((C:Int) - 128) om_ hU om_ Ak);have LJ:Hid (U+(C - 128)*2 ^ (7*k)<2 ^ (7*(k+1))):=by
        exact t97
       have q4:((C:Int) == 0)=false:=by rw[beq_eq_false_iff_ne];omega
       have HK:Hid (k+1<=xs.length/\k+1<=9):=⟨by omega,by omega⟩
       exact t120
   ·have HV:Hid (G=(0,0,5)):=by
     have:=hg.o;rw[List.drop_of_length_le om_] at this;exact this.symm
    have hi:¬(k:Int)<xs.length:=by omega
    clear hg
    go_wp2
    go_ret3
    exact⟨by rw[HV.o];rfl,0,rfl⟩
 ·have Qm:(10:Int)<xs.length:=by omega
  go_enter func91,ntmps91;go_wp2;go_loopw [5,14] (fun x i wr=>∃k U:Nat,k<=10/\k<=9/\i=.int .i64 (k:Int)/\x=.int .u64 (U:Int)/\U<2 ^ (7*k)/\wr=w/\Hid (grp k U (xs.drop k)=G))
   (fun x i _=>10 - (intOf i).toNat)
  case atStart=>exact⟨0,0,Nat.zero_le _,by omega,rfl,rfl,by simp,rfl,HD⟩
  case round=>
   obtain⟨k,U,Us,MX,rfl,rfl,hU,rfl,hg⟩:=hrel;by_cases bI:k<10
   ·have hi:(k:Int)<10:=by omega
    have rV:k<xs.length:=by omega
    obtain⟨g,off,rfl,hgb,hcell⟩:=HR.o.at rV;have hcl:=hcell k rV;have Jg:=getD_lt hx k;have hg2:=hg.o;rw[wH xs k rV,yQ] at hg2;have HG:=hid hg2;obtain⟨C,hC⟩:∃C,Hid (xs.getD k 0=C):=⟨_,rfl⟩;rw[hC.o] at hcl Jg HG;have hD:Hid (xs.drop (k+1)=xs.drop (k+1)):=rfl;clear hcell hg hg2 HR hC;have p9:(128:Nat) ^ k=2 ^ (7*k):=by rw[show(128:Nat)=2 ^ 7 from rfl,<-Nat.pow_mul]
    rw[p9] at HG;have nV:2 ^ (7*k)<=2 ^ 63:=Nat.pow_le_pow_right om_ om_;have Ak:U<18446744073709551616:=by omega
    by_cases h9:k=9
    ·exact t10
    ·have q1:((k:Int) == 9)=false:=by rw[beq_eq_false_iff_ne];omega
     have uz:2 ^ (7*k)<=2 ^ 56:=Nat.pow_le_pow_right om_ om_;by_cases hB:0<k/\C=0
     ·exact t35
     ·by_cases h128:C<128
      ·exact t13
      ·have q5:¬(C:Int)<128:=by omega
       have HV:Hid (grp (k+1) (U+(C - 128)*2 ^ (7*k)) (xs.drop (k+1))=G):=by show _=_;rw[<-HG.o,if_neg om_,if_neg hB,if_neg h128]
       have hm:(C - 128)*2 ^ (7*k)<=127*2 ^ (7*k):=Nat.mul_le_mul_right _ om_;have HO:=hid (lK U (C - 128) k ((C:Int) - 128) om_ hU om_ Ak);have LJ:Hid (U+(C - 128)*2 ^ (7*k)<2 ^ (7*(k+1))):=by
        exact t97
       have q4:((C:Int) == 0)=false:=by rw[beq_eq_false_iff_ne];omega
       have HK:Hid (k+1<=10/\k+1<=9):=⟨by omega,by omega⟩
       exact t120
   ·exact absurd MX om_
end pen
theorem t78{P:Prop}(h:P:=by
 rw[hz];clear hz h0;go_enter func102,ntmps102;go_wp2;go_ret;exact⟨rfl,0,rfl⟩):P:=h
namespace pen
open Go.RowKit texts
theorem Em{B g:Nat}{w w':World}{m:Nat}(h:But B g (w.drewN m) w'):But B g w w':=h
set_option maxRecDepth 8000 in
theorem oZ(b:Nat)(s:Sight)(w:World)(h:bG 112 b s w)(fits most:Nat)(hf:fits<18446744073709551616)(hm:most<18446744073709551616):
  Calls prog 75 #[.pointer (some ⟨b,0,none⟩),.int .u64 (fits:Int),.int .u64 (most:Int)] w (Saw 112 b (.int .u64 ((iP fits most s).1:Int)) (iP fits most s).2 w):=by
 obtain⟨r,z⟩:=s;have c0:=sZ b (r,z) w h;simp only at c0;have HE:=hid h;obtain⟨a,c,st⟩:=h.stand;clear h;unfold iP;simp only[];by_cases hz:z=0
 ·subst hz;rw[show((0:Nat):Int)=0 from rfl] at c0;rw[if_neg si_];have c1:∀m,Calls prog 91 #[.slice a r.length c] (w.drewN m) (Quiet (xO (grp 0 0 r)) (w.drewN m)):=fun m=>first_any a c r _ (st.reads.drewN m) st.room st.small st.len
  have d0:∀m,(w.drewN m).cell? ⟨b,0,none⟩=some (.slice a r.length c):=fun m=>(st.drewN m).rest
  have d1:∀m,(w.drewN m).cell? ⟨b,1,none⟩=some (.int .i64 0):=fun m=>(st.drewN m).err
  have f1:∀m,(w.drewN m).frozen? ⟨b,1,none⟩=false:=fun m=>(st.drewN m).block.frozen 1
  have hlen:=st.len;obtain⟨g1,g2,g3,g4⟩:=Gq r st.small;unfold xO at c1;have RQ:=hid g2;obtain⟨V,hV⟩:∃V,Hid ((grp 0 0 r).1=V):=⟨_,rfl⟩;obtain⟨N,hN⟩:∃N,Hid ((grp 0 0 r).2.1=N):=⟨_,rfl⟩;obtain⟨E,hE⟩:∃E,Hid ((grp 0 0 r).2.2=E):=⟨_,rfl⟩;simp only[hV.o,hN.o,hE.o] at c1 g1 g3 g4 RQ ⊢;have hF:Hid (∀m z,Saw 112 b (.int .u64 0) (r,z) w (.returned (.int .u64 0)) ((w.drewN m).setCell ⟨b,1,none⟩ (.int .i64 (z:Int)))):=fun m z=>by
   have:=(HE.o.later (below_drewN (Below.refl _ _) m)).fail z;exact⟨rfl,this.1,this.2⟩
  clear st g2;by_cases he:E=0
  ·subst he;rw[if_neg si_];rw[show((0:Nat):Int)=0 from rfl] at c1;by_cases h1:fits<V
   ·rw[if_pos h1];have q1:(fits:Int)<V:=by omega
    go_enter func75,ntmps75;go_wp2_with (first
     | (go_at_call 77;(with_reducible refine c0.mono ?_);clear c0;rintro e w' ⟨rfl,m,rfl⟩)
     | (go_at_call 91;(with_reducible refine(c1 _).mono ?_);clear c1;rintro e w' ⟨rfl,m1,rfl⟩))
    go_ret;exact hF.o _ 4
   ·rw[if_neg h1];have q1:¬(fits:Int)<V:=by omega
    by_cases h2:most<V
    ·rw[if_pos h2];have q2:(most:Int)<V:=by omega
     go_enter func75,ntmps75;go_wp2_with (first
      | (go_at_call 77;(with_reducible refine c0.mono ?_);clear c0;rintro e w' ⟨rfl,m,rfl⟩)
      | (go_at_call 91;(with_reducible refine(c1 _).mono ?_);clear c1;rintro e w' ⟨rfl,m1,rfl⟩))
     go_ret;exact hF.o _ 7
    ·rw[if_neg h2];have q2:¬(most:Int)<V:=by omega
     have Uz:N<=r.length:=by have:=RQ.o rfl;omega
     have c2:∀m,Calls prog 76 #[.pointer (some ⟨b,0,none⟩),.int .i64 (N:Int)] (w.drewN m) (Gh 112 b (r.take N) (r.drop N,0) (w.drewN m)):=fun m=>by
      have:=next_any b (r,0) (w.drewN m) (HE.o.later (below_drewN (Below.refl _ _) m)) N om_;rwa [tY N r Uz] at this
     go_enter func75,ntmps75;go_wp2_with (first
      | (go_at_call 77;(with_reducible refine c0.mono ?_);clear c0;rintro e w' ⟨rfl,m,rfl⟩)
      | (go_at_call 91;(with_reducible refine(c1 _).mono ?_);clear c1;rintro e w' ⟨rfl,m1,rfl⟩)
      | (go_at_call 76;(with_reducible refine(c2 _).mono ?_);clear c2;rintro e w' ⟨a',c',rfl,_,_,hE2,nI⟩))
     go_ret;exact⟨rfl,hE2,Em nI⟩
  ·rw[if_pos he];have q0:((E:Int) != 0)=true:=by rw[bne_iff_ne];omega
   clear he;go_enter func75,ntmps75;go_wp2_with (first
    | (go_at_call 77;(with_reducible refine c0.mono ?_);clear c0;rintro e w' ⟨rfl,m,rfl⟩)
    | (go_at_call 91;(with_reducible refine(c1 _).mono ?_);clear c1;rintro e w' ⟨rfl,m1,rfl⟩))
   go_ret;exact hF.o _ E
 ·rw[if_pos hz];have hi:((z:Int) != 0)=true:=by rw[bne_iff_ne];omega
  clear st hz;go_enter func75,ntmps75;go_wp2_with (go_at_call 77;(with_reducible refine c0.mono ?_);rintro e w' ⟨rfl,m,rfl⟩);go_ret;exact⟨rfl,HE.o.later (below_drewN (Below.refl _ _) m),But.drew m⟩
theorem yt(u:Nat)(hu:u<18446744073709551616)(w:World):Calls prog 102 #[.int .u64 (u:Int)] w (Quiet (.int .i64 (nH u)) w):=by
 have hn:=i64_not ((u / 2:Nat):Int) om_ om_;have hsg:IntKind.i64.signed=true:=rfl;rw[Int.natCast_ediv] at hn;simp only[Int.cast_ofNat_Int] at hn;by_cases h0:u % 2=1
 ·have hz:nH u= -((u:Int) / 2) - 1:=by unfold nH;rw[if_pos h0];omega
  have q:((u:Int) % 2 != 0)=true:=by rw[bne_iff_ne];omega
  exact t78
 ·have hz:nH u=(u:Int) / 2:=by unfold nH;rw[if_neg h0];omega
  have q:((u:Int) % 2 != 0)=false:=by rw[bne_eq_false_iff_eq];omega
  exact t78
end pen
theorem t48{P:Prop}(h:P:=by
 go_enter func52,ntmps52;go_wp2_with (go_at_call 75;(with_reducible refine c0.mono ?_);clear c0;rintro e w1 ⟨rfl,hE,hB⟩);go_ret;exact⟨rfl,hE,hB⟩):P:=h
namespace pen
open Go.RowKit texts
theorem aS(b:Nat)(s:Sight)(w:World)(h:bG 112 b s w)(most:Int)(h1: -9223372036854775808<=most)(h2:most<=9223372036854775807):
  Calls prog 52 #[.pointer (some ⟨b,0,none⟩),.int .i64 most] w (Saw 112 b (.int .i64 ((au most s).1:Int)) (au most s).2 w):=by
 have c0:=oZ b s w h 9223372036854775807 (max most 0).toNat om_ om_;have G8:=(oH 9223372036854775807 (max most 0).toNat s).1;unfold au;obtain⟨x,hx⟩:∃x,Hid ((iP 9223372036854775807 (max most 0).toNat s).1=x):=⟨_,rfl⟩;obtain⟨s',hs'⟩:∃s',Hid ((iP 9223372036854775807 (max most 0).toNat s).2=s'):=⟨_,rfl⟩;simp only[hx.o,hs'.o] at c0 G8 ⊢;rw[show((9223372036854775807:Nat):Int)=9223372036854775807 from rfl,show(((max most 0).toNat:Nat):Int)=max most 0 by omega] at c0;clear h hx hs';by_cases h0:0<=most
 ·rw[show max most 0=most by omega] at c0
  exact t48
 ·rw[show max most 0=0 by omega] at c0;have hi:most<0:=by omega
  exact t48
theorem iC(b:Nat)(s:Sight)(w:World)(h:bG 112 b s w):
  Calls prog 92 #[.pointer (some ⟨b,0,none⟩)] w (Saw 112 b (.int .i64 (eInt s).1) (eInt s).2 w):=by
 have c0:=oZ b s w h 18446744073709551615 18446744073709551615 om_ om_;have G8:=(oH 18446744073709551615 18446744073709551615 s).1;have c1:Hid (∀w1,Calls prog 102 #[.int .u64 ((iP 18446744073709551615 18446744073709551615 s).1:Int)] w1 (Quiet (.int .i64 (nH (iP 18446744073709551615 18446744073709551615 s).1)) w1)):=fun w1=>yt _ om_ w1
 unfold eInt;obtain⟨x,hx⟩:∃x,Hid ((iP 18446744073709551615 18446744073709551615 s).1=x):=⟨_,rfl⟩;obtain⟨s',hs'⟩:∃s',Hid ((iP 18446744073709551615 18446744073709551615 s).2=s'):=⟨_,rfl⟩;simp only[hx.o,hs'.o] at c0 c1 G8 ⊢;rw[show((18446744073709551615:Nat):Int)=18446744073709551615 from rfl] at c0;obtain⟨y,hy⟩:∃y,Hid (nH x=y):=⟨_,rfl⟩;rw[hy.o] at c1 ⊢;clear h hx hs' hy;go_enter func92,ntmps92;go_wp2_with (first
  | (go_at_call 75;(with_reducible refine c0.mono ?_);clear c0;rintro e w1 ⟨rfl,hE,hB⟩)
  | (go_at_call 102;(with_reducible refine(c1.o _).mono ?_);clear c1;rintro e w2 ⟨rfl,m,rfl⟩))
 go_ret;exact⟨rfl,hE.later (below_drewN (Below.refl _ _) m),hB⟩
theorem Gn(t:TypeId)(B:Nat)(xs:List Nat)(w:World)(a:Option Addr)(c:Nat)(ho:w.ownsRow B 5 1 (.slice a xs.length c) xs.length (u8v xs))(hx:∀c∈xs,c<256)(hl:xs.length<=140737488355328):
  bG t w.heap.size (xs,0) (w.alloc (.cells #[.slice a xs.length c,.int .i64 0] t)):=by
 have hc:xs.length<=c:=by obtain⟨a',c',hv,h⟩:=aP ho;cases hv;exact h
 refine⟨hx,hl,a,c,Block.new w t [.slice a xs.length c,.int .i64 0],hc,(Reads.own ho).below ((Below.refl _ _).alloc (Nat.le_refl _) _),fun _ x hx=> ?_⟩;have:=World.ownsRow.lt ho x.block (by rw[hx];rfl);omega
theorem AX(a:Option Addr)(c:Nat)(xs:List Nat)(w:World)(hr:Reads .u8 w a xs.length xs)(hx:∀c∈xs,c<256)(hl:xs.length<=140737488355328):
  Calls prog 51 #[.slice a xs.length c] w fun e w'=>∃b,e=.returned (.pointer (some ⟨b,0,none⟩))/\w.heap.size<=b/\bG 112 b (xs,0) w'/\Below w.heap.size w w':=by
 have c0:=clone_any a xs.length c xs w hr hl;clear hr;go_enter func51,ntmps51;go_wp2_with (go_at_call 50;(with_reducible refine c0.mono ?_);clear c0;rintro e w1 ⟨v,rfl,ho,hb⟩;obtain⟨a1,c1,rfl,_⟩:=aP ho;have HO:=hid ho;clear ho);go_ret;exact⟨_,rfl,hb.size,Gn 112 w.heap.size xs w1 a1 c1 HO.o hx hl,hb.alloc hb.size _⟩
end pen
namespace ak
open Go.RowKit pen
def Ee(cs:List Value):Prop:=∀v∈cs,∀n,v≠ .int .u8 n
theorem tq{t t':TypeId}{b g:Nat}{s:Sight}{cs:List Value}{w w':World}(h:bG t b s w)(hB:Block w g t' cs)(dR:b≠g)(hcs:Ee cs)(hb:But w.heap.size g w w'):bG t b s w':=by
 obtain⟨h1,h2,a,cap,h3,h4,h5,h6⟩:=h;refine⟨h1,h2,a,cap,h3.but hb h3.lt dR,h4, ?_,h6⟩;by_cases h0:s.1.length=0
 ·exact⟨h5.1,.inl h0⟩
 ·refine rD h5 hb (fun x hx=> ?_);rintro rfl;rcases h5.2 with e | ⟨b',off,ha,_,hc⟩
  ·exact h0 e
  ·rw[hx] at ha;cases ha
   have:=hc 0 om_;rw[hB.cell] at this;exact hcs _ (List.mem_of_getElem? this) _ rfl
theorem tH(f:field.Fd):Ee (zF f):=by
 intro v hv n e;simp at hv;rcases hv with rfl | rfl | rfl | rfl | rfl <;> cases e
end ak
namespace pen
open Go.RowKit texts
set_option maxRecDepth 8000 in
theorem nS(b:Nat)(s:Sight)(w:World)(h:bG 112 b s w)(most:Int)(h1: -9223372036854775808<=most)(h2:most<=9223372036854775807):
  Calls prog 53 #[.pointer (some ⟨b,0,none⟩),.int .i64 most] w (Saw 112 b (.string (strOf (dw most s).1)) (dw most s).2 w):=by
 have c0:=aS b s w h most h1 h2;have G8:=(oH 9223372036854775807 (max most 0).toNat s).1;have JU:(au most s).1<=9223372036854775807:=G8;obtain⟨r,z⟩:=s;obtain⟨a,c,st⟩:=h.stand;unfold dw;obtain⟨x,hx⟩:∃x,Hid ((au most (r,z)).1=x):=⟨_,rfl⟩;obtain⟨s1,hs1⟩:∃s',Hid ((au most (r,z)).2=s'):=⟨_,rfl⟩;simp only[hx.o,hs1.o] at c0 JU ⊢;have c1:Hid (∀w1,bG 112 b s1 w1->Calls prog 76 #[.pointer (some ⟨b,0,none⟩),.int .i64 (x:Int)] w1 (Gh 112 b (dV x s1).1 (dV x s1).2 w1)):=fun w1 hE=>next_any b s1 w1 hE x JU
 obtain⟨t,ht⟩:∃t,Hid ((dV x s1).1=t):=⟨_,rfl⟩;obtain⟨⟨r2,z2⟩,hs2⟩:∃s',Hid ((dV x s1).2=s'):=⟨_,rfl⟩;simp only[ht.o,hs2.o] at c1 ⊢;obtain⟨T,hT⟩:∃T,Hid (strOf t=T):=⟨_,rfl⟩;rw[hT.o];have d0:=st.rest;have ST:=hid st;clear h st hx hs1 ht hs2 G8 JU;by_cases hz:z2=0
 ·rw[if_neg (by simpa using hz)];subst hz;go_enter func53,ntmps53;go_wp2_with (first
   | (go_at_call 52;(with_reducible refine c0.mono ?_);clear c0;rintro e w1 ⟨rfl,hE1,lC⟩)
   | (go_at_call 76;(with_reducible refine(c1.o _ hE1).mono ?_);clear c1 hE1;rintro e w2 ⟨a',c',rfl,_,JZ,hE2,nI⟩;have hcv:=Reads.str (P:=prog) JZ 31 5 underlying31 underlying5 c' 9 underlying9;rw[hT.o] at hcv;obtain⟨a2,k2,st2⟩:=hE2.stand;have e2:=st2.err;clear st2;have O0:=hid JZ;have HE2:=hid hE2;have HB:=hid (And.intro lC nI);clear JZ hE2 lC nI))
  go_ret;exact⟨rfl,HE2.o,HB.o.1.trans (HB.o.2.mono HB.o.1.2.2.2.1)⟩
 ·rw[if_pos hz];have q:((z2:Int) != 0)=true:=by rw[bne_iff_ne];omega
  clear hz;go_enter func53,ntmps53;go_wp2_with (first
   | (go_at_call 52;(with_reducible refine c0.mono ?_);clear c0;rintro e w1 ⟨rfl,hE1,lC⟩)
   | (go_at_call 76;(with_reducible refine(c1.o _ hE1).mono ?_);clear c1 hE1;rintro e w2 ⟨a',c',rfl,_,JZ,hE2,nI⟩;have hcv:=Reads.str (P:=prog) JZ 31 5 underlying31 underlying5 c' 9 underlying9;rw[hT.o] at hcv;obtain⟨a2,k2,st2⟩:=hE2.stand;have e2:=st2.err;have e3:=st2.rest;have e4:=st2.block.frozen 0;have ST2:=hid st2;clear st2;have O0:=hid JZ;have HE2:=hid hE2;have HB:=hid (And.intro lC nI);clear JZ hE2 lC nI))
  go_ret;have hB:But w.heap.size b w w2:=HB.o.1.trans (HB.o.2.mono HB.o.1.2.2.2.1);have G5:=hB.setCell 0 (.slice a r.length c);have s0:=ST.o;exact⟨rfl,⟨s0.small,s0.len,a,c,ST2.o.block.setCell 0 _,s0.room,oN s0.reads G5 s0.off,s0.off⟩,G5⟩
end pen
namespace ak
open Go.RowKit pen
theorem PS.field{g:Nat}{w1:World}{xs:List Nat}{v:Value}{w:World}(h:PS g w1 xs v w)(p:field.Fd)(hr:p.Right)(hn:xs.length<=100000):
  Calls prog 73 #[.pointer (some ⟨g,0,none⟩),zF p] w fun e w'=>e=.returned (.tuple #[])/\∃v',PS g w1 (xs++iQ p) v' w':=
 (iF g g v xs w h.1 h.2.2 p hr hn).mono fun _ _ ⟨he,v',hp,ht⟩=>⟨he,v',h.step hp ht⟩
theorem ni{F:List Form}{v:Int}(h:Right v F)(k:Nat):(dX (F.take k)).length<=3000:=by
 have h1:=uo (F:=F.take k) (fun p hp=>h.2.2.1 p (List.mem_of_mem_take hp));have h2:=h.2.1;have h3:(F.take k).length<=F.length:=by simp;omega
 omega
theorem qW{p:Form}(h:Fine p)(k:Nat):(fieldsB (p.2.take k)).length<=320:=by
 have h1:=rM (L:=p.2.take k) (fun f hf=>h.2.2.1.1 f (List.mem_of_mem_take hf));have h2:=h.2.1;have h3:(p.2.take k).length<=p.2.length:=by simp;omega
 omega
theorem uP(v:Int)(a:Option Addr)(cap:Nat)(F:List Fm)(w:World)(h:FmL w a F)(hF:F.length<=maxLen)(hr:¬Right v (forms F)):
  Calls prog 47 #[zS v a F.length cap] w fun e w'=>e=.returned (.tuple #[.slice none 0 0,.int .i64 2])/\Below w.heap.size w w':=by
 have HX:=hid (boxS v a F cap w);have cR:=dB v a cap F (w.alloc (.cells (zS v a F.length cap) 24)) (h.below (field.aI _ _)) hF;rw[decide_eq_false hr] at cR;clear h hr;go_enter func47,ntmps47;go_wp2_with (go_at_call 14;((with_reducible refine cR.mono ?_);rintro e w1 ⟨rfl,bQ⟩;obtain⟨z0,z1,dP⟩:=HX.o _ bQ));go_ret2;exact⟨rfl,dP⟩
theorem je(v:Int)(a:Option Addr)(cap:Nat)(F:List Fm)(w:World)(h:FmL w a F)(hr:Right v (forms F)):
  Calls prog 47 #[zS v a F.length cap] w (pen.Gives (dU v (forms F)) 0 w):=by
 have h8:F.length<=8:=by have:=hr.2.1;rw[bg] at this;exact this
 have hv:=hr.1;have HX:=hid (boxS v a F cap w);have qR:=field.aI w (.cells (zS v a F.length cap) 24);have cR:=dB v a cap F (w.alloc (.cells (zS v a F.length cap) 24)) (h.below qR) (by unfold maxLen;omega);rw[decide_eq_true hr] at cR;have HF:=hid (h.below qR);have HR:=hid hr;have LD:Hid (dU v (forms F)=[]++vb v.toNat++vb (F.length:Int).toNat++dX (forms F)):=hid (by unfold dU;rw[bg];simp);have lv:=aT v.toNat om_;have ln:=aT (F.length:Int).toNat om_;obtain⟨X,hX⟩:∃X:List Nat,Hid ([]++vb v.toNat++vb (F.length:Int).toNat=X):=⟨_,hid rfl⟩;have LK:Hid (X.length<=20):=hid (by rw[<-hX.o];simp only[List.length_append,List.length_nil];omega);rw[hX.o] at LD;rw[LD.o];clear h hr qR;go_enter func47,ntmps47;go_wp2_with (first
  | (go_at_call 14;((with_reducible refine cR.mono ?_);rintro e w1 ⟨rfl,bQ⟩;obtain⟨z0,z1,dP⟩:=HX.o _ bQ;have hF1:=HF.o.below bQ))
  | (go_at_call 23;((with_reducible refine(new_any w1).mono ?_);rintro e w2 ⟨rfl,nM,aQ⟩;have uq:PS w1.heap.size w1 [] (.slice none 0 0) w2:=⟨nM,aQ,aQ.size⟩;obtain⟨z0,z1,_⟩:=HX.o _ (bQ.trans (aQ.mono bQ.size))))
  | (go_at_call 24;((with_reducible refine(uq.count v om_ om_ si_).mono ?_);rintro e w3 ⟨rfl,v3,ny,_⟩;obtain⟨z0,z1,_⟩:=HX.o _ (bQ.trans (ny.2.1.mono bQ.size))))
  | (go_at_call 24;((with_reducible refine(ny.count (F.length:Int) om_ om_ (by simp only[List.length_append,List.length_nil];omega)).mono ?_);rintro e w4 ⟨rfl,v4,kK,_⟩;obtain⟨z0,z1,_⟩:=HX.o _ (bQ.trans (kK.2.1.mono bQ.size)))))
 have PG:=dP;generalize hg:w1.heap.size=g at *;rw[hX.o] at kK;go_loopw [25] (fun n wr=>∃k:Nat,k<=F.length/\n=.int .i64 (k:Int)/\Hid (∃vP,PS g w1 (X++dX ((forms F).take k)) vP wr)) (fun n _=>F.length - (intOf n).toNat);case atStart=>exact⟨0,Nat.zero_le _,rfl,hid ⟨v4,by simpa[dX] using kK⟩⟩
 case round=>
  obtain⟨k,hk,rfl,HS⟩:=hrel;obtain⟨vP,hS⟩:=HS.o;by_cases bI:k<F.length
  ·obtain⟨b,off,p,rfl,jV,hp,c0,c1,D8,GL⟩:=jH hF1 (by rw[hg];exact hS.2.1) bI;have i1:(k:Int)<F.length:=by omega
   have zX:=hid (yP (dW hp));have hgd:=(hF1.2 p (List.mem_of_getElem? hp)).rf;have MW:Fine p.p:=HR.o.2.2.1 _ (List.mem_of_getElem? (dW hp));obtain⟨i,q,qc,L⟩:=p;simp only[Fm.p] at zX c0 c1 D8 GL MW hgd;have HF6:=hid hgd;clear hgd;have Ea:=hid MW;have hi:=MW.1;have hl:=MW.2.1;simp only at hi hl;have lf:=ni HR.o k;have li:=aT i.toNat om_;have ll:=aT (L.length:Int).toNat om_;have WY:=LK.o;have iR:=hS.later (field.aI wr (.cells (zS i q L.length qc) 40));have SK:=Block.new wr 40 (zS i q L.length qc);have dR:wr.heap.size≠g:=by have:=hS.1.1.lt;omega
   have Iu:=hid SK;have WX:field.Fds (wr.alloc (.cells (zS i q L.length qc) 40)) q L:=D8.below (field.aI _ _);clear hp MW SK D8 hS HS;have EO:(X++dX ((forms F).take k)).length<=3020:=by simp only[List.length_append];omega
   obtain⟨Y,hY⟩:∃Y:List Nat,Hid (X++dX ((forms F).take k)=Y):=⟨_,hid rfl⟩;rw[hY.o] at iR EO;go_wp2_with (first
    | (go_at_call 24;((with_reducible refine(iR.count i om_ om_ om_).mono ?_);rintro e w5 ⟨rfl,v5,vT,hK5⟩;have Gs:=hK5 _ _ _ Iu.o Ic dR;have y0:=Gs.cell 0;have y1:=Gs.cell 1))
    | (go_at_call 24;((with_reducible refine(vT.count (L.length:Int) om_ om_ (by simp only[List.length_append];omega)).mono ?_);rintro e w6 ⟨rfl,v6,nU,hK6⟩;have SA:=hK6 _ _ _ Gs Ic dR;have y0:=SA.cell 0;have y1:=SA.cell 1)))
   go_loopw [41] (fun m wq=>∃j:Nat,j<=L.length/\m=.int .i64 (j:Int)/\Hid (∃vP,PS g w1 (Y++vb i.toNat++vb (L.length:Int).toNat++fieldsB (L.take j)) vP wq)) (fun m _=>L.length - (intOf m).toNat);case atStart=>exact⟨0,Nat.zero_le _,rfl,hid ⟨v6,by simpa[fieldsB] using nU⟩⟩
   case round=>
    obtain⟨j,hj,rfl,HS⟩:=hrel;obtain⟨vQ,hQ⟩:=HS.o;by_cases hjt:j<L.length
    ·obtain⟨b2,off2,x,rfl,MO,hx,e0,e1,e2,e3,e4⟩:=eX HF6.o (by rw[hg];exact hQ.2.1) hjt;have i2:(j:Int)<L.length:=by omega
     have LM:=hid (xM hx);have lg:=qW Ea.o j;have cP:=(hQ.later (field.aI wr (.cells (zF x) 47))).field x (Ea.o.2.2.1.1 x (List.mem_of_getElem? hx)) (by simp only[List.length_append] at lg ⊢;omega);clear hx;go_wp2_with (go_at_call 73;((with_reducible refine cP.mono ?_);rintro e w7 ⟨rfl,v7,Ji⟩));exact⟨⟨j+1,by omega,by go_num,hid ⟨v7,by rw[LM.o];simpa only[List.append_assoc] using Ji⟩⟩,by simp[intOf];omega⟩
    ·obtain rfl:j=L.length:=by omega
     rw[List.take_of_length_le (Nat.le_refl _)] at hQ;have Iw:Hid (PS g w1 (X++dX ((forms F).take (k+1))) vQ wr):=hid (by
      rw[zX.o];have h1:=hQ;rw[<-hY.o] at h1;simpa only[ng,List.append_assoc,Int.toNat_natCast] using h1)
     clear hQ HS;go_wp2;exact⟨⟨k+1,by omega,by go_num,hid ⟨vQ,Iw.o⟩⟩,by simp[intOf];omega⟩
  ·obtain rfl:k=F.length:=by omega
   rw[List.take_of_length_le (by rw[bg];exact Nat.le_refl _)] at hS;have cD:=tX g g vP (X++dX (forms F)) wr hS.1 (by have h1:=ni HR.o F.length;rw[List.take_of_length_le (by rw[bg];exact Nat.le_refl _)] at h1;have:=LK.o;simp only[List.length_append];omega);go_wp2_with (go_at_call 27;((with_reducible refine cD.mono ?_);rintro e w5 ⟨u,rfl,ho,jq⟩));go_ret2;have D7:Below g w1 w5:=hS.2.1.trans (jq.mono hS.2.2);have Ap:w.heap.size<=wr.heap.size:=Nat.le_trans PG.size (by have:=hS.2.2;omega);exact⟨u,rfl,dM ho Ap,PG.trans ((by rw[hg];exact D7:Below w1.heap.size w1 w5).mono PG.size)⟩
end ak
end Go.Proofs.Ytogfefdlffmioaa
