/- Contracts and lemmas that claims of this seat share: PenNext, PenLow, PenFirst, PenVar, PenLook, PenSight, PenGroups, PenRefEnd. Each says its own conditions. -/
import Derived.Test.YtogfefdlffmioaaGreatCmWord
import Derived.Laws.BitsAllLaws
import Derived.Laws.Bits64b
import Derived.Test.YtogfefdlffmioaaGreatCmI
set_option linter.unusedVariables false
namespace Go.Proofs.YtogfefdlffmioaaGreat
open Go.Proofs.Tryz
namespace pen
open Go.RowKit texts
structure Stand (t:TypeId) (b:Nat) (r:List Nat) (z:Nat) (w:World) (a:Option Addr) (c:Nat):Prop where
 small:∀c∈r,c<256
 len:r.length<=140737488355328
 block:Block w b t [.slice a r.length c,.int .i64 (z:Int)]
 room:r.length<=c
 reads:Reads .u8 w a r.length r
 off:0<r.length->∀x,a=some x->x.block<b
theorem EyeAt.stand{t:TypeId}{b:Nat}{r:List Nat}{z:Nat}{w:World}(h:EyeAt t b (r,z) w):∃a c,Stand t b r z w a c:=by
 obtain⟨h1,h2,a,c,h3,h4,h5,h6⟩:=h;exact⟨a,c,h1,h2,h3,h4,h5,h6⟩
theorem Stand.eye{t:TypeId}{b:Nat}{r:List Nat}{z:Nat}{w:World}{a:Option Addr}{c:Nat}(h:Stand t b r z w a c):EyeAt t b (r,z) w:=
 ⟨h.small,h.len,a,c,h.block,h.room,h.reads,h.off⟩
theorem Stand.rest{t:TypeId}{b:Nat}{r:List Nat}{z:Nat}{w:World}{a:Option Addr}{c:Nat}(h:Stand t b r z w a c):w.cell? ⟨b,0,none⟩=some (.slice a r.length c):=by rw[h.block.cell];rfl
theorem Stand.err{t:TypeId}{b:Nat}{r:List Nat}{z:Nat}{w:World}{a:Option Addr}{c:Nat}(h:Stand t b r z w a c):w.cell? ⟨b,1,none⟩=some (.int .i64 (z:Int)):=by rw[h.block.cell];rfl
theorem Stand.drewN{t:TypeId}{b:Nat}{r:List Nat}{z:Nat}{w:World}{a:Option Addr}{c:Nat}(h:Stand t b r z w a c)(m:Nat):Stand t b r z (w.drewN m) a c:=
 ⟨h.small,h.len,h.block,h.room,h.reads.drewN m,h.off⟩
theorem Stand.cut{t:TypeId}{b:Nat}{r:List Nat}{z:Nat}{w:World}{a:Option Addr}{c:Nat}(h:Stand t b r z w a c)(n:Nat)(hn:n<=r.length):
  EyeAt t b (r.drop n,z) (w.setCell ⟨b,0,none⟩ (.slice (shift a n c) (r.length - n) (c - n)))/\But w.heap.size b w (w.setCell ⟨b,0,none⟩ (.slice (shift a n c) (r.length - n) (c - n))):=by
 have gY:=(But.refl w.heap.size b w).setCell 0 (.slice (shift a n c) (r.length - n) (c - n));refine⟨⟨fun x hx=>h.small x (List.mem_of_mem_drop hx), ?_,shift a n c,c - n, ?_, ?_, ?_,shift_low h.off si_⟩,gY⟩
 ·show(r.drop n).length<=_
  rw[List.length_drop];have:=h.len;omega
 ·show Block _ b t [.slice _ (r.drop n).length _,_]
  rw[List.length_drop];exact h.block.setCell 0 _
 ·show(r.drop n).length<=_
  rw[List.length_drop];have:=h.room;omega
 ·show Reads .u8 _ _ (r.drop n).length (r.drop n)
  rw[List.length_drop];exact reads_low (reads_shift h.reads hn h.room) gY (shift_low h.off om_)
def Took(t:TypeId)(b:Nat)(r:List Nat)(s:Sight)(w:World)(e:Ending)(w':World):Prop:=
 ∃a c,e=.returned (.slice a r.length c)/\r.length<=c/\Reads .u8 w' a r.length r/\EyeAt t b s w'/\But w.heap.size b w w'
theorem Stand.took{t:TypeId}{b:Nat}{r:List Nat}{w:World}{a:Option Addr}{c:Nat}(h:Stand t b r 0 w a c)(n:Nat)(hn:n<=r.length)(k:Nat)(hk:n<=k)(m:Nat)(w0:World)(hw:w=w0.drewN m):
  Took t b (r.take n) (r.drop n,0) w0 (.returned (.slice (shift a 0 k) n k)) (w.setCell ⟨b,0,none⟩ (.slice (shift a n c) (r.length - n) (c - n))):=by
 subst hw;obtain⟨h1,h2⟩:=h.cut n hn;have hl:(r.take n).length=n:=by rw[List.length_take];omega
 refine⟨_,k,by rw[hl],by omega, ?_,h1,h2⟩;rw[hl];exact reads_low (reads_take h.reads hn) h2 (shift_low h.off hn)
theorem eNext_bad(n:Nat)(r:List Nat)(z:Nat)(h:z≠0):eNext n (r,z)=([],(r,z)):=by unfold eNext;exact if_pos h
theorem eNext_short(n:Nat)(r:List Nat)(h:r.length<n):eNext n (r,0)=([],(r,5)):=by unfold eNext;rw[if_neg si_];exact if_pos h
theorem eNext_take(n:Nat)(r:List Nat)(h:n<=r.length):eNext n (r,0)=(r.take n,(r.drop n,0)):=by unfold eNext;rw[if_neg si_];exact if_neg (by show ¬r.length<n;omega)
theorem But.drew{B g:Nat}{w:World}(m:Nat):But B g w (w.drewN m):=But.refl B g w
theorem next_any(b:Nat)(s:Sight)(w:World)(h:EyeAt 123 b s w)(n:Nat)(hn:n<=9223372036854775807):
  Calls prog 81 #[.pointer (some ⟨b,0,none⟩),.int .i64 (n:Int)] w (Took 123 b (eNext n s).1 (eNext n s).2 w):=by
 obtain⟨r,z⟩:=s;have c0:=bad_any b (r,z) w h;simp only at c0;have HE:=hid h;obtain⟨a,c,st⟩:=h.stand;clear h;by_cases hz:z=0
 ·subst hz;have hlen:=st.len;have c1:∀m,(w.drewN m).cell? ⟨b,0,none⟩=some (.slice a r.length c):=fun m=>(st.drewN m).rest
  have c2:∀m,(w.drewN m).cell? ⟨b,1,none⟩=some (.int .i64 0):=fun m=>(st.drewN m).err
  have f0:∀m,(w.drewN m).frozen? ⟨b,0,none⟩=false:=fun m=>(st.drewN m).block.frozen 0
  have f1:∀m,(w.drewN m).frozen? ⟨b,1,none⟩=false:=fun m=>(st.drewN m).block.frozen 1
  by_cases hs:r.length<n
  ·rw[eNext_short n r hs];have hi:(r.length:Int)<n:=by omega
   clear st hs;rw[show((0:Nat):Int)=0 from rfl] at c0;go_enter func81,ntmps81;go_wp2_with (go_at_call 82;(with_reducible refine c0.mono ?_);rintro e w' ⟨rfl,m,rfl⟩);go_ret;have hf:=(HE.o.later (below_drewN (Below.refl _ _) m)).fail 5;exact⟨none,0,rfl,Nat.le_refl _,Reads.nil,hf.1,hf.2⟩
  ·rw[eNext_take n r om_];have hi:¬(r.length:Int)<n:=by omega
   have nO:=st.room;have e1:=fun W=>cut_full W a r.length c n om_
   have e2:=fun W=>cut_from W a r.length c n om_
   have ST:=hid st;have HR:Hid (n<=r.length):=by show _<=_;omega
   have HT:=hid (fun m=>(ST.o.drewN m).took n HR.o n (Nat.le_refl _) m w rfl);obtain⟨A1,hA1⟩:∃A,Hid (shift a 0 n=A):=⟨_,rfl⟩;obtain⟨A2,hA2⟩:∃A,Hid (shift a n c=A):=⟨_,rfl⟩;rw[hA1.o] at e1 HT;rw[hA2.o] at e2 HT;clear st hs;rw[show((0:Nat):Int)=0 from rfl] at c0;go_enter func81,ntmps81;go_wp2_with (go_at_call 82;(with_reducible refine c0.mono ?_);rintro e w' ⟨rfl,m,rfl⟩);go_ret;exact HT.o m
 ·rw[eNext_bad n r z hz];have hi:((z:Int) != 0)=true:=by rw[bne_iff_ne];omega
  clear st hz;go_enter func81,ntmps81;go_wp2_with (go_at_call 82;(with_reducible refine c0.mono ?_);rintro e w' ⟨rfl,m,rfl⟩);go_ret;exact⟨none,0,rfl,Nat.le_refl _,Reads.nil,HE.o.later (below_drewN (Below.refl _ _) m),But.drew m⟩
end pen
namespace pen
open Go.RowKit texts
theorem getD_lt{l:List Nat}(h:∀c∈l,c<256)(k:Nat):l.getD k 0<256:=by
 rw[List.getD_eq_getElem?_getD];by_cases hk:k<l.length
 ·rw[List.getElem?_eq_getElem hk];exact h _ (List.getElem_mem hk)
 ·rw[List.getElem?_eq_none om_];decide
end pen
theorem t152{P:Prop}(h:P:=by
 clear h9 p9 bG HG hD dN au hU hB dU h128 hm h0
 exact t130):P:=h
theorem t133{P:Prop}(h:P:=by
 by_cases h0:0<k
 ·have q3:(0:Int)<k:=by omega
  exact t19
 ·have q3:¬(0:Int)<k:=by omega
  exact t19):P:=h
theorem t130{P:Prop}(h:P:=by
 go_wp2;go_ret3;have ho:=HO.o;exact⟨by rw[HV.o,grpV,<-ho];rfl,0,rfl⟩):P:=h
theorem t120{P:Prop}(h:P:=by
 go_wp2;go_ret3;exact⟨by rw[HV.o];rfl,0,rfl⟩):P:=h
theorem t112{P:Prop}(h:P:=by
 show _<_
 rw[show 7*(k+1)=7*k+7 by omega,Nat.pow_add];omega):P:=h
theorem t103{P:Prop}(h:P:=by
 have:=hg.o;rw[List.drop_of_length_le om_] at this;exact this.symm):P:=h
theorem t42{P:Prop}(h:P:=by
 have q3:(0:Int)<k:=by omega
 have q4:((C:Int) == 0)=true:=by rw[beq_iff_eq];omega
 have HV:Hid (G=(0,0,4)):=by show _=_;rw[<-HG.o,if_neg om_,if_pos hB]
 clear h9 p9 bG HG hD dN au hU hB dU
 exact t120):P:=h
theorem t19{P:Prop}(h:P:=by
 clear h9 p9 bG HG hD dN hU hB dU h128 hm h0;go_wp2;exact⟨⟨k+1,U+(C - 128)*2 ^ (7*k),HK.o.1,HK.o.2,by go_num,congrArg (Value.int .u64) HO.o,HU'.o,trivial,HV⟩,by simp[intOf];omega⟩):P:=h
theorem t14{P:Prop}(h:P:=by
 have q5:(C:Int)<128:=by omega
 have HV:Hid (G=(U+C*2 ^ (7*k),k+1,0)):=by show _=_;rw[<-HG.o,if_neg om_,if_neg hB,if_pos h128]
 have hm:C*2 ^ (7*k)<=128*2 ^ (7*k):=Nat.mul_le_mul_right _ om_;have HO:=hid (or_shift U C k C rfl hU om_ hU64);by_cases h0:0<k
 ·have q3:(0:Int)<k:=by omega
  have q4:((C:Int) == 0)=false:=by rw[beq_eq_false_iff_ne];omega
  exact t152
 ·have q3:¬(0:Int)<k:=by omega
  exact t152):P:=h
theorem t11{P:Prop}(h:P:=by
 have q1:((k:Int) == 9)=true:=by rw[beq_iff_eq];omega
 have q3:(0:Int)<k:=by omega
 by_cases h1:1<C
 ·have q2:(1:Int)<C:=by omega
  have HV:Hid (G=(0,0,4)):=by show _=_;rw[<-HG.o,if_pos ⟨h9,h1⟩]
  clear h9 h1 p9 bG HG hD dN au hU
  exact t120
 ·have q2:¬(1:Int)<C:=by omega
  by_cases h0:C=0
  ·have q4:((C:Int) == 0)=true:=by rw[beq_iff_eq];omega
   have HV:Hid (G=(0,0,4)):=by show _=_;rw[<-HG.o,if_neg om_,if_pos om_]
   clear h9 h1 p9 bG HG hD dN au h0 hU
   exact t120
  ·have q4:((C:Int) == 0)=false:=by rw[beq_eq_false_iff_ne];omega
   have q5:(C:Int)<128:=by omega
   have HV:Hid (G=(U+C*2 ^ (7*k),k+1,0)):=by show _=_;rw[<-HG.o,if_neg om_,if_neg om_,if_pos om_]
   have hm:C*2 ^ (7*k)<=1*2 ^ (7*k):=Nat.mul_le_mul_right _ om_;have HO:=hid (or_shift U C k C rfl hU om_ hU64);clear h9 h1 p9 HG hD dN au h0 hm bG hU
   exact t130):P:=h
namespace pen
open Go.RowKit texts
theorem or_high(U C j:Nat)(hU:U<2 ^ j)(h:C*2 ^ j<18446744073709551616)(h2:U<18446744073709551616):bits .or .u64 (U:Int) ((C*2 ^ j:Nat):Int)=((U+C*2 ^ j:Nat):Int):=by
 rw[bits_or_u64_nat U (C*2 ^ j) h2 h,Nat.or_comm,Nat.mul_comm C,<-Nat.two_pow_add_eq_or_of_lt hU,Nat.add_comm]
theorem drop_next(l:List Nat)(k:Nat)(h:k<l.length):l.drop k=l.getD k 0 :: l.drop (k+1):=by
 rw[List.drop_eq_getElem_cons h,List.getD_eq_getElem?_getD,List.getElem?_eq_getElem h];rfl
theorem or_shift(U e k:Nat)(z:Int)(hz:z=(e:Int))(hU:U<2 ^ (7*k))(h:e*2 ^ (7*k)<18446744073709551616)(h2:U<18446744073709551616):
  bits .or .u64 (U:Int) (IntKind.u64.wrap (z*2 ^ (7*k)))=((U+e*2 ^ (7*k):Nat):Int):=by
 subst hz;have e1:(e:Int)*2 ^ (7*k)=((e*2 ^ (7*k):Nat):Int):=by simp
 have e2:IntKind.u64.wrap (((e*2 ^ (7*k):Nat):Int))=((e*2 ^ (7*k):Nat):Int):=by
  generalize e*2 ^ (7*k)=q at *;simp[IntKind.wrap,IntKind.bits,IntKind.signed];omega
 rw[e1,e2];exact or_high U e (7*k) hU h h2
theorem grp_form(i u c:Nat)(r:List Nat):grp i u (c :: r)=if i=9/\1<c then(0,0,4) else if 0<i/\c=0 then(0,0,4) else if c<128 then(u+c*128 ^ i,i+1,0) else grp (i+1) (u+(c - 128)*128 ^ i) r:=rfl
def grpV(g:Nat×Nat×Nat):Value:=.tuple #[.int .u64 (g.1:Int),.int .i64 (g.2.1:Int),.int .i64 (g.2.2:Int)]
set_option maxRecDepth 8000 in
theorem first_any(a:Option Addr)(c:Nat)(xs:List Nat)(w:World)(hr:Reads .u8 w a xs.length xs)(hc:xs.length<=c)(hx:∀c∈xs,c<256)(hl:xs.length<=140737488355328):
  Calls prog 99 #[.slice a xs.length c] w (Quiet (grpV (grp 0 0 xs)) w):=by
 have HR:=hid hr;clear hr;obtain⟨G,hG⟩:∃G,Hid (grp 0 0 xs=G):=⟨_,rfl⟩;rw[hG.o];have HD:Hid (grp 0 0 (xs.drop 0)=G):=hG.o;by_cases ou:xs.length<=10
 ·have hi10:(xs.length:Int)<=10:=by omega
  go_enter func99,ntmps99;go_wp2;go_loopw [5,14] (fun x i wr=>∃k U:Nat,k<=xs.length/\k<=9/\i=.int .i64 (k:Int)/\x=.int .u64 (U:Int)/\U<2 ^ (7*k)/\wr=w/\Hid (grp k U (xs.drop k)=G))
   (fun x i _=>xs.length - (intOf i).toNat)
  case atStart=>exact⟨0,0,Nat.zero_le _,by omega,rfl,rfl,by simp,rfl,HD⟩
  case round=>
   obtain⟨k,U,qB,mV,rfl,rfl,hU,rfl,hg⟩:=hrel;by_cases au:k<xs.length
   ·have hi:(k:Int)<xs.length:=by omega
    have dN:k<xs.length:=by omega
    obtain⟨g,off,rfl,hgb,hcell⟩:=HR.o.at dN;have hcl:=hcell k dN;have iM:=getD_lt hx k;have hg2:=hg.o;rw[drop_next xs k dN,grp_form] at hg2;have HG:=hid hg2;obtain⟨C,hC⟩:∃C,Hid (xs.getD k 0=C):=⟨_,rfl⟩;rw[hC.o] at hcl iM HG;have hD:Hid (xs.drop (k+1)=xs.drop (k+1)):=rfl;clear hcell hg hg2 HR hC;have p9:(128:Nat) ^ k=2 ^ (7*k):=by rw[show(128:Nat)=2 ^ 7 from rfl,<-Nat.pow_mul]
    rw[p9] at HG;have bG:2 ^ (7*k)<=2 ^ 63:=Nat.pow_le_pow_right om_ om_;have hU64:U<18446744073709551616:=by omega
    by_cases h9:k=9
    ·exact t11
    ·have q1:((k:Int) == 9)=false:=by rw[beq_eq_false_iff_ne];omega
     have dU:2 ^ (7*k)<=2 ^ 56:=Nat.pow_le_pow_right om_ om_;by_cases hB:0<k/\C=0
     ·exact t42
     ·by_cases h128:C<128
      ·exact t14
      ·have q5:¬(C:Int)<128:=by omega
       have HV:Hid (grp (k+1) (U+(C - 128)*2 ^ (7*k)) (xs.drop (k+1))=G):=by show _=_;rw[<-HG.o,if_neg om_,if_neg hB,if_neg h128]
       have hm:(C - 128)*2 ^ (7*k)<=127*2 ^ (7*k):=Nat.mul_le_mul_right _ om_;have HO:=hid (or_shift U (C - 128) k ((C:Int) - 128) om_ hU om_ hU64);have HU':Hid (U+(C - 128)*2 ^ (7*k)<2 ^ (7*(k+1))):=by
        exact t112
       have q4:((C:Int) == 0)=false:=by rw[beq_eq_false_iff_ne];omega
       have HK:Hid (k+1<=xs.length/\k+1<=9):=⟨by omega,by omega⟩
       exact t133
   ·have HV:Hid (G=(0,0,5)):=by
     exact t103
    have hi:¬(k:Int)<xs.length:=by omega
    clear hg
    go_wp2
    go_ret3
    exact⟨by rw[HV.o];rfl,0,rfl⟩
 ·have hi10:(10:Int)<xs.length:=by omega
  go_enter func99,ntmps99;go_wp2;go_loopw [5,14] (fun x i wr=>∃k U:Nat,k<=10/\k<=9/\i=.int .i64 (k:Int)/\x=.int .u64 (U:Int)/\U<2 ^ (7*k)/\wr=w/\Hid (grp k U (xs.drop k)=G))
   (fun x i _=>10 - (intOf i).toNat)
  case atStart=>exact⟨0,0,Nat.zero_le _,by omega,rfl,rfl,by simp,rfl,HD⟩
  case round=>
   obtain⟨k,U,qB,mV,rfl,rfl,hU,rfl,hg⟩:=hrel;by_cases au:k<10
   ·have hi:(k:Int)<10:=by omega
    have dN:k<xs.length:=by omega
    obtain⟨g,off,rfl,hgb,hcell⟩:=HR.o.at dN;have hcl:=hcell k dN;have iM:=getD_lt hx k;have hg2:=hg.o;rw[drop_next xs k dN,grp_form] at hg2;have HG:=hid hg2;obtain⟨C,hC⟩:∃C,Hid (xs.getD k 0=C):=⟨_,rfl⟩;rw[hC.o] at hcl iM HG;have hD:Hid (xs.drop (k+1)=xs.drop (k+1)):=rfl;clear hcell hg hg2 HR hC;have p9:(128:Nat) ^ k=2 ^ (7*k):=by rw[show(128:Nat)=2 ^ 7 from rfl,<-Nat.pow_mul]
    rw[p9] at HG;have bG:2 ^ (7*k)<=2 ^ 63:=Nat.pow_le_pow_right om_ om_;have hU64:U<18446744073709551616:=by omega
    by_cases h9:k=9
    ·exact t11
    ·have q1:((k:Int) == 9)=false:=by rw[beq_eq_false_iff_ne];omega
     have dU:2 ^ (7*k)<=2 ^ 56:=Nat.pow_le_pow_right om_ om_;by_cases hB:0<k/\C=0
     ·exact t42
     ·by_cases h128:C<128
      ·exact t14
      ·have q5:¬(C:Int)<128:=by omega
       have HV:Hid (grp (k+1) (U+(C - 128)*2 ^ (7*k)) (xs.drop (k+1))=G):=by show _=_;rw[<-HG.o,if_neg om_,if_neg hB,if_neg h128]
       have hm:(C - 128)*2 ^ (7*k)<=127*2 ^ (7*k):=Nat.mul_le_mul_right _ om_;have HO:=hid (or_shift U (C - 128) k ((C:Int) - 128) om_ hU om_ hU64);have HU':Hid (U+(C - 128)*2 ^ (7*k)<2 ^ (7*(k+1))):=by
        exact t112
       have q4:((C:Int) == 0)=false:=by rw[beq_eq_false_iff_ne];omega
       have HK:Hid (k+1<=10/\k+1<=9):=⟨by omega,by omega⟩
       exact t133
   ·exact absurd mV om_
end pen
theorem t91{P:Prop}(h:P:=by
 rw[hz];clear hz h0;go_enter func112,ntmps112;go_wp2;go_ret;exact⟨rfl,0,rfl⟩):P:=h
theorem t55{P:Prop}(h:P:=by
 have:=(HE.o.later (below_drewN (Below.refl _ _) m)).fail z;exact⟨rfl,this.1,this.2⟩):P:=h
namespace pen
open Go.RowKit texts
theorem but_drew{B g:Nat}{w w':World}{m:Nat}(h:But B g (w.drewN m) w'):But B g w w':=h
set_option maxRecDepth 8000 in
theorem eyeVarint_any(b:Nat)(s:Sight)(w:World)(h:EyeAt 123 b s w)(fits most:Nat)(hf:fits<18446744073709551616)(hm:most<18446744073709551616):
  Calls prog 80 #[.pointer (some ⟨b,0,none⟩),.int .u64 (fits:Int),.int .u64 (most:Int)] w (Saw 123 b (.int .u64 ((eVar fits most s).1:Int)) (eVar fits most s).2 w):=by
 obtain⟨r,z⟩:=s;have c0:=bad_any b (r,z) w h;simp only at c0;have HE:=hid h;obtain⟨a,c,st⟩:=h.stand;clear h;unfold eVar;simp only[];by_cases hz:z=0
 ·subst hz;rw[show((0:Nat):Int)=0 from rfl] at c0;rw[if_neg si_];have c1:∀m,Calls prog 99 #[.slice a r.length c] (w.drewN m) (Quiet (grpV (grp 0 0 r)) (w.drewN m)):=fun m=>first_any a c r _ (st.reads.drewN m) st.room st.small st.len
  have d0:∀m,(w.drewN m).cell? ⟨b,0,none⟩=some (.slice a r.length c):=fun m=>(st.drewN m).rest
  have d1:∀m,(w.drewN m).cell? ⟨b,1,none⟩=some (.int .i64 0):=fun m=>(st.drewN m).err
  have f1:∀m,(w.drewN m).frozen? ⟨b,1,none⟩=false:=fun m=>(st.drewN m).block.frozen 1
  have hlen:=st.len;obtain⟨g1,g2,g3,g4⟩:=grp_ok0 r st.small;unfold grpV at c1;have HGN:=hid g2;obtain⟨V,hV⟩:∃V,Hid ((grp 0 0 r).1=V):=⟨_,rfl⟩;obtain⟨N,hN⟩:∃N,Hid ((grp 0 0 r).2.1=N):=⟨_,rfl⟩;obtain⟨E,hE⟩:∃E,Hid ((grp 0 0 r).2.2=E):=⟨_,rfl⟩;simp only[hV.o,hN.o,hE.o] at c1 g1 g3 g4 HGN ⊢;have hF:Hid (∀m z,Saw 123 b (.int .u64 0) (r,z) w (.returned (.int .u64 0)) ((w.drewN m).setCell ⟨b,1,none⟩ (.int .i64 (z:Int)))):=fun m z=>by
   exact t55
  clear st g2;by_cases he:E=0
  ·subst he;rw[if_neg si_];rw[show((0:Nat):Int)=0 from rfl] at c1;by_cases h1:fits<V
   ·rw[if_pos h1];have q1:(fits:Int)<V:=by omega
    go_enter func80,ntmps80;go_wp2_with (first
     | (go_at_call 82;(with_reducible refine c0.mono ?_);clear c0;rintro e w' ⟨rfl,m,rfl⟩)
     | (go_at_call 99;(with_reducible refine(c1 _).mono ?_);clear c1;rintro e w' ⟨rfl,m1,rfl⟩))
    go_ret;exact hF.o _ 4
   ·rw[if_neg h1];have q1:¬(fits:Int)<V:=by omega
    by_cases h2:most<V
    ·rw[if_pos h2];have q2:(most:Int)<V:=by omega
     go_enter func80,ntmps80;go_wp2_with (first
      | (go_at_call 82;(with_reducible refine c0.mono ?_);clear c0;rintro e w' ⟨rfl,m,rfl⟩)
      | (go_at_call 99;(with_reducible refine(c1 _).mono ?_);clear c1;rintro e w' ⟨rfl,m1,rfl⟩))
     go_ret;exact hF.o _ 7
    ·rw[if_neg h2];have q2:¬(most:Int)<V:=by omega
     have lZ:N<=r.length:=by have:=HGN.o rfl;omega
     have c2:∀m,Calls prog 81 #[.pointer (some ⟨b,0,none⟩),.int .i64 (N:Int)] (w.drewN m) (Took 123 b (r.take N) (r.drop N,0) (w.drewN m)):=fun m=>by
      have:=next_any b (r,0) (w.drewN m) (HE.o.later (below_drewN (Below.refl _ _) m)) N om_;rwa [eNext_take N r lZ] at this
     go_enter func80,ntmps80;go_wp2_with (first
      | (go_at_call 82;(with_reducible refine c0.mono ?_);clear c0;rintro e w' ⟨rfl,m,rfl⟩)
      | (go_at_call 99;(with_reducible refine(c1 _).mono ?_);clear c1;rintro e w' ⟨rfl,m1,rfl⟩)
      | (go_at_call 81;(with_reducible refine(c2 _).mono ?_);clear c2;rintro e w' ⟨a',c',rfl,_,_,hE2,bZ⟩))
     go_ret;exact⟨rfl,hE2,but_drew bZ⟩
  ·rw[if_pos he];have q0:((E:Int) != 0)=true:=by rw[bne_iff_ne];omega
   clear he;go_enter func80,ntmps80;go_wp2_with (first
    | (go_at_call 82;(with_reducible refine c0.mono ?_);clear c0;rintro e w' ⟨rfl,m,rfl⟩)
    | (go_at_call 99;(with_reducible refine(c1 _).mono ?_);clear c1;rintro e w' ⟨rfl,m1,rfl⟩))
   go_ret;exact hF.o _ E
 ·rw[if_pos hz];have hi:((z:Int) != 0)=true:=by rw[bne_iff_ne];omega
  clear st hz;go_enter func80,ntmps80;go_wp2_with (go_at_call 82;(with_reducible refine c0.mono ?_);rintro e w' ⟨rfl,m,rfl⟩);go_ret;exact⟨rfl,HE.o.later (below_drewN (Below.refl _ _) m),But.drew m⟩
theorem unzigzag_any(u:Nat)(hu:u<18446744073709551616)(w:World):Calls prog 112 #[.int .u64 (u:Int)] w (Quiet (.int .i64 (unzig u)) w):=by
 have hn:=i64_not ((u / 2:Nat):Int) om_ om_;have hsg:IntKind.i64.signed=true:=rfl;rw[Int.natCast_ediv] at hn;simp only[Int.cast_ofNat_Int] at hn;by_cases h0:u % 2=1
 ·have hz:unzig u= -((u:Int) / 2) - 1:=by unfold unzig;rw[if_pos h0];omega
  have q:((u:Int) % 2 != 0)=true:=by rw[bne_iff_ne];omega
  exact t91
 ·have hz:unzig u=(u:Int) / 2:=by unfold unzig;rw[if_neg h0];omega
  have q:((u:Int) % 2 != 0)=false:=by rw[bne_eq_false_iff_eq];omega
  exact t91
end pen
theorem t60{P:Prop}(h:P:=by
 go_enter func49,ntmps49;go_wp2_with (go_at_call 80;(with_reducible refine c0.mono ?_);clear c0;rintro e w1 ⟨rfl,hE,hB⟩);go_ret;exact⟨rfl,hE,hB⟩):P:=h
namespace pen
open Go.RowKit texts
theorem eyeCount_any(b:Nat)(s:Sight)(w:World)(h:EyeAt 123 b s w)(most:Int)(h1: -9223372036854775808<=most)(h2:most<=9223372036854775807):
  Calls prog 49 #[.pointer (some ⟨b,0,none⟩),.int .i64 most] w (Saw 123 b (.int .i64 ((eCount most s).1:Int)) (eCount most s).2 w):=by
 have c0:=eyeVarint_any b s w h 9223372036854775807 (max most 0).toNat om_ om_;have iU:=(eVar_le 9223372036854775807 (max most 0).toNat s).1;unfold eCount;obtain⟨x,hx⟩:∃x,Hid ((eVar 9223372036854775807 (max most 0).toNat s).1=x):=⟨_,rfl⟩;obtain⟨s',hs'⟩:∃s',Hid ((eVar 9223372036854775807 (max most 0).toNat s).2=s'):=⟨_,rfl⟩;simp only[hx.o,hs'.o] at c0 iU ⊢;rw[show((9223372036854775807:Nat):Int)=9223372036854775807 from rfl,show(((max most 0).toNat:Nat):Int)=max most 0 by omega] at c0;clear h hx hs';by_cases h0:0<=most
 ·rw[show max most 0=most by omega] at c0
  exact t60
 ·rw[show max most 0=0 by omega] at c0;have hi:most<0:=by omega
  exact t60
theorem eyeNum_any(b:Nat)(s:Sight)(w:World)(h:EyeAt 123 b s w):
  Calls prog 100 #[.pointer (some ⟨b,0,none⟩)] w (Saw 123 b (.int .i64 (eInt s).1) (eInt s).2 w):=by
 have c0:=eyeVarint_any b s w h 18446744073709551615 18446744073709551615 om_ om_;have iU:=(eVar_le 18446744073709551615 18446744073709551615 s).1;have c1:Hid (∀w1,Calls prog 112 #[.int .u64 ((eVar 18446744073709551615 18446744073709551615 s).1:Int)] w1 (Quiet (.int .i64 (unzig (eVar 18446744073709551615 18446744073709551615 s).1)) w1)):=fun w1=>unzigzag_any _ om_ w1
 unfold eInt;obtain⟨x,hx⟩:∃x,Hid ((eVar 18446744073709551615 18446744073709551615 s).1=x):=⟨_,rfl⟩;obtain⟨s',hs'⟩:∃s',Hid ((eVar 18446744073709551615 18446744073709551615 s).2=s'):=⟨_,rfl⟩;simp only[hx.o,hs'.o] at c0 c1 iU ⊢;rw[show((18446744073709551615:Nat):Int)=18446744073709551615 from rfl] at c0;obtain⟨y,hy⟩:∃y,Hid (unzig x=y):=⟨_,rfl⟩;rw[hy.o] at c1 ⊢;clear h hx hs' hy;go_enter func100,ntmps100;go_wp2_with (first
  | (go_at_call 80;(with_reducible refine c0.mono ?_);clear c0;rintro e w1 ⟨rfl,hE,hB⟩)
  | (go_at_call 112;(with_reducible refine(c1.o _).mono ?_);clear c1;rintro e w2 ⟨rfl,m,rfl⟩))
 go_ret;exact⟨rfl,hE.later (below_drewN (Below.refl _ _) m),hB⟩
theorem eye_new(t:TypeId)(B:Nat)(xs:List Nat)(w:World)(a:Option Addr)(c:Nat)(ho:w.ownsRow B 5 1 (.slice a xs.length c) xs.length (u8v xs))(hx:∀c∈xs,c<256)(hl:xs.length<=140737488355328):
  EyeAt t w.heap.size (xs,0) (w.alloc (.cells #[.slice a xs.length c,.int .i64 0] t)):=by
 have hc:xs.length<=c:=by obtain⟨a',c',hv,h⟩:=ownsRow_slice ho;cases hv;exact h
 refine⟨hx,hl,a,c,Block.new w t [.slice a xs.length c,.int .i64 0],hc,(Reads.own ho).below ((Below.refl _ _).alloc (Nat.le_refl _) _),fun _ x hx=> ?_⟩;have:=World.ownsRow.lt ho x.block (by rw[hx];rfl);omega
theorem of_any(a:Option Addr)(c:Nat)(xs:List Nat)(w:World)(hr:Reads .u8 w a xs.length xs)(hx:∀c∈xs,c<256)(hl:xs.length<=140737488355328):
  Calls prog 48 #[.slice a xs.length c] w fun e w'=>∃b,e=.returned (.pointer (some ⟨b,0,none⟩))/\w.heap.size<=b/\EyeAt 123 b (xs,0) w'/\Below w.heap.size w w':=by
 have c0:=clone_any a xs.length c xs w hr hl;clear hr;go_enter func48,ntmps48;go_wp2_with (go_at_call 42;(with_reducible refine c0.mono ?_);clear c0;rintro e w1 ⟨v,rfl,ho,hb⟩;obtain⟨a1,c1,rfl,_⟩:=ownsRow_slice ho;have HO:=hid ho;clear ho);go_ret;exact⟨_,rfl,hb.size,eye_new 123 w.heap.size xs w1 a1 c1 HO.o hx hl,hb.alloc hb.size _⟩
end pen
theorem t107{P:Prop}(h:P:=by
 exact⟨rfl,HE2.o,HB.o.1.trans (HB.o.2.mono HB.o.1.2.2.2.1)⟩):P:=h
theorem t40{P:Prop}(h:P:=by
 have hB:But w.heap.size b w w2:=HB.o.1.trans (HB.o.2.mono HB.o.1.2.2.2.1);have iO:=hB.setCell 0 (.slice a r.length c);have s0:=ST.o;exact⟨rfl,⟨s0.small,s0.len,a,c,ST2.o.block.setCell 0 _,s0.room,reads_low s0.reads iO s0.off,s0.off⟩,iO⟩):P:=h
namespace pen
open Go.RowKit texts
set_option maxRecDepth 8000 in
theorem eyeText_any(b:Nat)(s:Sight)(w:World)(h:EyeAt 123 b s w)(most:Int)(h1: -9223372036854775808<=most)(h2:most<=9223372036854775807):
  Calls prog 50 #[.pointer (some ⟨b,0,none⟩),.int .i64 most] w (Saw 123 b (.string (strOf (eText most s).1)) (eText most s).2 w):=by
 have c0:=eyeCount_any b s w h most h1 h2;have iU:=(eVar_le 9223372036854775807 (max most 0).toNat s).1;have gZ:(eCount most s).1<=9223372036854775807:=iU;obtain⟨r,z⟩:=s;obtain⟨a,c,st⟩:=h.stand;unfold eText;obtain⟨x,hx⟩:∃x,Hid ((eCount most (r,z)).1=x):=⟨_,rfl⟩;obtain⟨s1,hs1⟩:∃s',Hid ((eCount most (r,z)).2=s'):=⟨_,rfl⟩;simp only[hx.o,hs1.o] at c0 gZ ⊢;have c1:Hid (∀w1,EyeAt 123 b s1 w1->Calls prog 81 #[.pointer (some ⟨b,0,none⟩),.int .i64 (x:Int)] w1 (Took 123 b (eNext x s1).1 (eNext x s1).2 w1)):=fun w1 hE=>next_any b s1 w1 hE x gZ
 obtain⟨t,ht⟩:∃t,Hid ((eNext x s1).1=t):=⟨_,rfl⟩;obtain⟨⟨r2,z2⟩,hs2⟩:∃s',Hid ((eNext x s1).2=s'):=⟨_,rfl⟩;simp only[ht.o,hs2.o] at c1 ⊢;obtain⟨T,hT⟩:∃T,Hid (strOf t=T):=⟨_,rfl⟩;rw[hT.o];have d0:=st.rest;have ST:=hid st;clear h st hx hs1 ht hs2 iU gZ;by_cases hz:z2=0
 ·rw[if_neg (by simpa using hz)];subst hz;go_enter func50,ntmps50;go_wp2_with (first
   | (go_at_call 49;(with_reducible refine c0.mono ?_);clear c0;rintro e w1 ⟨rfl,hE1,bJ⟩)
   | (go_at_call 81;(with_reducible refine(c1.o _ hE1).mono ?_);clear c1 hE1;rintro e w2 ⟨a',c',rfl,_,gy,hE2,bZ⟩;have hcv:=Reads.str (P:=prog) gy 28 5 underlying28 underlying5 c' 9 underlying9;rw[hT.o] at hcv;obtain⟨a2,k2,st2⟩:=hE2.stand;have e2:=st2.err;clear st2;have HRD:=hid gy;have HE2:=hid hE2;have HB:=hid (And.intro bJ bZ);clear gy hE2 bJ bZ))
  go_ret
  exact t107
 ·rw[if_pos hz];have q:((z2:Int) != 0)=true:=by rw[bne_iff_ne];omega
  clear hz;go_enter func50,ntmps50;go_wp2_with (first
   | (go_at_call 49;(with_reducible refine c0.mono ?_);clear c0;rintro e w1 ⟨rfl,hE1,bJ⟩)
   | (go_at_call 81;(with_reducible refine(c1.o _ hE1).mono ?_);clear c1 hE1;rintro e w2 ⟨a',c',rfl,_,gy,hE2,bZ⟩;have hcv:=Reads.str (P:=prog) gy 28 5 underlying28 underlying5 c' 9 underlying9;rw[hT.o] at hcv;obtain⟨a2,k2,st2⟩:=hE2.stand;have e2:=st2.err;have e3:=st2.rest;have e4:=st2.block.frozen 0;have ST2:=hid st2;clear st2;have HRD:=hid gy;have HE2:=hid hE2;have HB:=hid (And.intro bJ bZ);clear gy hE2 bJ bZ))
  go_ret
  exact t40
end pen
theorem t84{P:Prop}(h:P:=by
 clear h9 p9 bG HG au hB h128 hm h0 hQ
 exact t120):P:=h
theorem t59{P:Prop}(h:P:=by
 clear h9 p9 bG HG hB h128 hm h0 hQ;go_wp2;exact⟨⟨k+1,U+Q,P*128,HK.o.1,HK.o.2,by go_num,by go_num,by go_num,HP,HU'.o,trivial,HV⟩,by simp[intOf];omega⟩):P:=h
namespace pen
open Go.RowKit texts
set_option maxRecDepth 8000 in
theorem eH(a:Option Addr)(c:Nat)(xs:List Nat)(w:World)(hr:Reads .u8 w a xs.length xs)(hc:xs.length<=c)(hx:∀c∈xs,c<256)(hl:xs.length<=140737488355328):
  Calls prog 55 #[.slice a xs.length c] w (Quiet (grpV (grp 0 0 xs)) w):=by
 have HR:=hid hr;clear hr;obtain⟨G,hG⟩:∃G,Hid (grp 0 0 xs=G):=⟨_,rfl⟩;rw[hG.o];have HD:Hid (grp 0 0 (xs.drop 0)=G):=hG.o;go_enter func55,ntmps55;go_wp2;go_loopw [5,6,7] (fun x p i wr=>∃k U P:Nat,k<=xs.length/\k<=9/\i=.int .i64 (k:Int)/\x=.int .u64 (U:Int)/\p=.int .u64 (P:Int)/\Hid (P=2 ^ (7*k))/\U<P/\wr=w/\Hid (grp k U (xs.drop k)=G))
  (fun x p i _=>xs.length - (intOf i).toNat)
 case atStart=>exact⟨0,0,1,Nat.zero_le _,by omega,rfl,rfl,rfl,rfl,by omega,rfl,HD⟩
 case round=>
  obtain⟨k,U,P,qB,mV,rfl,rfl,rfl,hP,hU,rfl,hg⟩:=hrel;have hi10:(k:Int)<10:=by omega
  by_cases au:k<xs.length
  ·have hi:(k:Int)<xs.length:=by omega
   obtain⟨g,off,rfl,hgb,hcell⟩:=HR.o.at au;have hcl:=hcell k au;have iM:=getD_lt hx k;have hg2:=hg.o;rw[drop_next xs k au,grp_form] at hg2;have HG:=hid hg2;obtain⟨C,hC⟩:∃C,Hid (xs.getD k 0=C):=⟨_,rfl⟩;rw[hC.o] at hcl iM HG;clear hcell hg hg2 HR hC;have p9:(128:Nat) ^ k=P:=by rw[hP.o,show(128:Nat)=2 ^ 7 from rfl,<-Nat.pow_mul]
   rw[p9] at HG;have bG:2 ^ (7*k)<=2 ^ 63:=Nat.pow_le_pow_right om_ om_;rw[<-hP.o] at bG;by_cases h9:k=9
   ·have q1:((k:Int) == 9)=true:=by rw[beq_iff_eq];omega
    have q3:(0:Int)<k:=by omega
    by_cases h1:1<C
    ·have q2:(1:Int)<C:=by omega
     have HV:Hid (G=(0,0,4)):=by show _=_;rw[<-HG.o,if_pos ⟨h9,h1⟩]
     clear h9 h1 p9 bG HG au hU
     exact t120
    ·have q2:¬(1:Int)<C:=by omega
     by_cases h0:C=0
     ·have q4:((C:Int) == 0)=true:=by rw[beq_iff_eq];omega
      have HV:Hid (G=(0,0,4)):=by show _=_;rw[<-HG.o,if_neg om_,if_pos om_]
      clear h9 h1 p9 bG HG au h0 hU
      exact t120
     ·have q4:((C:Int) == 0)=false:=by rw[beq_eq_false_iff_ne];omega
      have q5:(C:Int)<128:=by omega
      have HV:Hid (G=(U+C*P,k+1,0)):=by show _=_;rw[<-HG.o,if_neg om_,if_neg om_,if_pos om_]
      obtain rfl:C=1:=by omega
      have sV:U+P<18446744073709551616:=by omega
      rw[show((1:Nat):Int)=1 from rfl] at hcl;clear h9 h1 p9 HG au h0 q4 iM q2 q5;go_wp2;go_ret3;exact⟨by rw[HV.o,Nat.one_mul];rfl,0,rfl⟩
   ·have q1:((k:Int) == 9)=false:=by rw[beq_eq_false_iff_ne];omega
    have dU:P<=72057594037927936:=by rw[hP.o];exact Nat.pow_le_pow_right (show 0<2 by omega) (show 7*k<=56 by omega)
    by_cases hB:0<k/\C=0
    ·have q3:(0:Int)<k:=by omega
     have q4:((C:Int) == 0)=true:=by rw[beq_iff_eq];omega
     have HV:Hid (G=(0,0,4)):=by show _=_;rw[<-HG.o,if_neg om_,if_pos hB]
     clear h9 p9 bG HG au hU hB dU
     exact t120
    ·by_cases h128:C<128
     ·have q5:(C:Int)<128:=by omega
      have hm:C*P<=128*P:=Nat.mul_le_mul_right _ om_;obtain⟨Q,hQ⟩:∃Q,C*P=Q:=⟨_,rfl⟩;have w1:(C:Int)*(P:Int)=(Q:Int):=by rw[<-hQ];simp
      have w2:(C:Int) % 128*(P:Int)=(Q:Int):=by rw[<-w1,show(C:Int) % 128=C by omega]
      have qU:Q<=9223372036854775808:=by omega
      have HV:Hid (G=(U+Q,k+1,0)):=by show _=_;rw[<-HG.o,if_neg om_,if_neg hB,if_pos h128,hQ]
      by_cases h0:0<k
      ·have q3:(0:Int)<k:=by omega
       have q4:((C:Int) == 0)=false:=by rw[beq_eq_false_iff_ne];omega
       exact t84
      ·have q3:¬(0:Int)<k:=by omega
       exact t84
     ·have q5:¬(C:Int)<128:=by omega
      have hm:(C - 128)*P<=127*P:=Nat.mul_le_mul_right _ om_;obtain⟨Q,hQ⟩:∃Q,(C - 128)*P=Q:=⟨_,rfl⟩;have w2:(C:Int) % 128*(P:Int)=(Q:Int):=by rw[<-hQ,show(C:Int) % 128=((C - 128:Nat):Int) by omega];simp
      have qU:Q<=127*P:=by omega
      have HV:Hid (grp (k+1) (U+Q) (xs.drop (k+1))=G):=by show _=_;rw[<-HG.o,if_neg om_,if_neg hB,if_neg h128,hQ]
      have HP:Hid (P*128=2 ^ (7*(k+1))):=by show _=_;rw[hP.o,show 7*(k+1)=7*k+7 by omega,Nat.pow_add]
      have HU':Hid (U+Q<P*128):=by show _<_;omega
      have q4:((C:Int) == 0)=false:=by rw[beq_eq_false_iff_ne];omega
      have HK:Hid (k+1<=xs.length/\k+1<=9):=⟨by omega,by omega⟩;by_cases h0:0<k
      ·have q3:(0:Int)<k:=by omega
       exact t59
      ·have q3:¬(0:Int)<k:=by omega
       exact t59
  ·have hi:¬(k:Int)<xs.length:=by omega
   have HV:Hid (G=(0,0,5)):=by
    exact t103
   clear hg
   exact t120
end pen
theorem t73{P:Prop}(h:P:=by
 go_enter func31,ntmps31;go_wp2;go_ret;exact⟨rfl,0,rfl⟩):P:=h
namespace pen
open Go.RowKit texts
theorem Stand.mJ{t:TypeId}{b:Nat}{r:List Nat}{w:World}{a:Option Addr}{c:Nat}(h:Stand t b r 0 w a c)(n:Nat)(hn:n<=r.length):
  Took t b (r.take n) (r.drop n,0) w (.returned (.slice (shift a 0 c) n c)) (w.setCell ⟨b,0,none⟩ (.slice (shift a n c) (r.length - n) (c - n))):=
 h.took n hn c (Nat.le_trans hn h.room) 0 w rfl
theorem dK(b:Nat)(s:Sight)(w:World)(h:EyeAt 68 b s w):Calls prog 31 #[.pointer (some ⟨b,0,none⟩)] w (Quiet (.int .i64 (eEnd s:Int)) w):=by
 obtain⟨r,z⟩:=s;obtain⟨a,c,st⟩:=h.stand;have c1:=st.rest;have c2:=st.err;have hlen:=st.len;clear h st;by_cases hz:z=0
 ·have hi:((z:Int) == 0)=true:=by rw[hz];rfl
  by_cases hl:0<r.length
  ·have hj:(0:Int)<r.length:=by omega
   rw[show eEnd (r,z)=6 from if_pos ⟨hz,hl⟩];clear hz hl
   exact t73
  ·have hj:¬(0:Int)<r.length:=by omega
   rw[show eEnd (r,z)=z from if_neg (fun h=>hl h.2)];clear hz hl
   exact t73
 ·have hi:((z:Int) == 0)=false:=by rw[beq_eq_false_iff_ne];omega
  rw[show eEnd (r,z)=z from if_neg (fun h=>hz h.1)];clear hz
  exact t73
end pen
end Go.Proofs.YtogfefdlffmioaaGreat
