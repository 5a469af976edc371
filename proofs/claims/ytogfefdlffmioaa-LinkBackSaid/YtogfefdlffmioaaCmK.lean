/- Contracts and lemmas that claims of this seat share: IntRows, PenMath, Str, Stay. Each says its own conditions. -/
import Derived.Test.YtogfefdlffmioaaCmWord
import Derived.Deep.Slices
import Derived.Deep.Strs
import Derived.Lib.SmallJoins
import Derived.Laws.BytesArg
import Derived.Laws.Concat
import Derived.Maps.AppendAt
import Derived.Test.YtogfefdlffmioaaCmA
import Derived.Test.YtogfefdlffmioaaCmF
set_option linter.unusedVariables false
namespace Go.Proofs.Ytogfefdlffmioaa
open Go.Proofs.Try
namespace step
open Go.ChangeShapes Go.WideShapes Go.ChangeAt Go.RowKit Go.Deep
def Ins(w:World)(a:Option Addr)(l:List Int):Prop:=
 l=[]\/∃b off,a=some ⟨b,off,none⟩/\b<w.heap.size/\∀(i:Nat) (n:Int),l[i]?=some n->w.cell? ⟨b,off+i,none⟩=some (.int .i64 n)
theorem Ins.below{w w':World}{a:Option Addr}{l:List Int}(h:Ins w a l)(hb:Below w.heap.size w w'):Ins w' a l:=by
 rcases h with h | ⟨b,off,ha,bI,hc⟩
 ·exact .inl h
 ·refine .inr ⟨b,off,ha,Nat.lt_of_lt_of_le bI hb.size,fun i p hp=> ?_⟩;rw[hb.cell (p:=⟨b,off+i,none⟩) bI];exact hc i p hp
theorem Ins.at{w:World}{a:Option Addr}{l:List Int}(h:Ins w a l){i:Nat}(hi:i<l.length):
  ∃b off p,a=some ⟨b,off,none⟩/\b<w.heap.size/\l[i]?=some p/\w.cell? ⟨b,off+i,none⟩=some (.int .i64 p):=by
 rcases h with rfl | ⟨b,off,ha,bI,hc⟩
 ·simp at hi
 ·have hp:=List.getElem?_eq_getElem hi;exact⟨b,off,_,ha,bI,hp,hc i _ hp⟩
def iO(n:Int):Prop:= -9223372036854775808<=n/\n<=9223372036854775807
section
variable {H:Type} {enc:TypeId×Value->H} {P:Program} {W:World}
def Eb(P:Program)(t:TypeId):Prop:=∃e,P.underlying t=some (.slice e)/\P.underlying e=some (.int .i64)/\P.cellsOf e=1
theorem AZ{t:TypeId}{v:Value}{fuel:Nat}{y:DataW H×List MemPlace}(hR:Eb P t)
  (hf:DataW.trod enc P W 0 (fun _=>true) true fuel t [v]=some y):
  ∃(a:Option Addr) (cap:Nat) (M:List Int),v=.slice a M.length cap/\Ins W a M/\(∀x∈M,iO x)/\M.length<=cap/\cap<=maxLen:=by
 obtain⟨e,ht,he,hc⟩:=hR;rcases open_ints ht he hc hf with ⟨hcs,_⟩ | ⟨x,l,c,zs,hcs,_,hl,hm,hz,hx,hcell,hwz⟩
 ·exact⟨none,0,[],by simpa using hcs,.inl rfl,by simp,Nat.le_refl _,by unfold maxLen;omega⟩
 ·simp only[if_true] at hz;have hlen:(zs.take l).length=l:=by simp;omega
  refine⟨some x,c,zs.take l,by rw[hlen];simpa using hcs, ?_,fun y hy=>wf_i64 _ (hwz _ (List.mem_of_mem_take hy)),by rw[hlen];exact hl,hm⟩;by_cases h:l=0
  ·exact .inl (by subst h;rfl)
  ·right;obtain⟨b,off,spot⟩:=x;have hspot:spot=none:=by simpa[Addr.add] using World.cell?_spot (hcell 0 om_)
   subst hspot;have hb:b<W.heap.size:=by
    exact t86
   refine⟨b,off,rfl,hb,fun i n hi=> ?_⟩;have hil:i<l:=by have:=(List.getElem?_eq_some_iff.1 hi).1;omega
   have h1:=hcell i om_;rw[Addr.add_lit] at h1;rw[h1];have hi':i<zs.length:=by omega
   rw[List.getElem?_take,if_pos hil] at hi;simp[List.getD,hi]
end
theorem Nh:Eb prog 50:=⟨_,underlying50,by kernel_rfl,by kernel_rfl⟩
end step
theorem t71{P:Prop}(h:P:=by
 exact⟨Nat.zero_le _,Nat.zero_le _⟩):P:=h
namespace pen
def vb(x:Nat):List Nat:=if h:x<128 then [x] else(128+x % 128) :: vb (x / 128)
 termination_by x
 decreasing_by omega
theorem gV{x:Nat}(h:x<128):vb x=[x]:=by rw[vb,dif_pos h]
theorem qg{x:Nat}(h:¬x<128):vb x=(128+x % 128) :: vb (x / 128):=by rw[vb,dif_neg h]
theorem iw(x:Nat):∀c∈vb x,c<256:=by
 induction x using Nat.strongRecOn with
 | _ x ih=>
  intro c hc;by_cases h:x<128
  ·rw[gV h,List.mem_singleton] at hc;omega
  ·rw[qg h] at hc;rcases List.mem_cons.1 hc with rfl | hc
   ·omega
   ·exact ih _ om_ c hc
theorem KH(x:Nat):0<(vb x).length:=by
 by_cases h:x<128
 ·rw[gV h];simp
 ·rw[qg h];simp
theorem FU:∀(k x:Nat),x<128 ^ (k+1)->(vb x).length<=k+1
 | 0,x,h=>by rw[gV (by simpa using h)];simp
 | k+1,x,h=>by
  by_cases h1:x<128
  ·rw[gV h1];simp
  ·have:=FU k (x / 128) (by rw[Nat.pow_succ] at h;omega);rw[qg h1,List.length_cons];omega
theorem aT(x:Nat)(h:x<18446744073709551616):(vb x).length<=10:=FU 9 x om_
def grp:Nat->Nat->List Nat->Nat×Nat×Nat
 | _,_,[]=>(0,0,5)
 | i,u,c :: r=>if i=9/\1<c then(0,0,4) else if 0<i/\c=0 then(0,0,4) else if c<128 then(u+c*128 ^ i,i+1,0) else grp (i+1) (u+(c - 128)*128 ^ i) r
theorem Jf(x:Nat):∀(i u:Nat) (r:List Nat),i<=9->x*128 ^ i<18446744073709551616->(i=0\/0<x)->grp i u (vb x++r)=(u+x*128 ^ i,i+(vb x).length,0):=by
 induction x using Nat.strongRecOn with
 | _ x ih=>
  intro i u r hi hx h0;by_cases h:x<128
  ·rw[gV h,List.singleton_append,grp];rw[if_neg,if_neg,if_pos h]
   ·rfl
   ·omega
   ·rintro⟨rfl,h1⟩;omega
  ·have hi9:i≠9:=by rintro rfl;omega
   have hp:x*128 ^ i=(x % 128)*128 ^ i+(x / 128)*128 ^ (i+1):=by
    rw[Nat.pow_succ,Nat.mul_comm (128 ^ i) 128,<-Nat.mul_assoc,<-Nat.add_mul];congr 1;omega
   rw[qg h,List.cons_append,grp,if_neg om_,if_neg om_,if_neg om_,ih (x / 128) om_ (i+1) _ r om_ om_ om_];rw[List.length_cons,show 128+x % 128 - 128=x % 128 by omega,hp];congr 1
   ·omega
   ·congr 1;omega
theorem CZ(x:Nat)(h:x<18446744073709551616)(r:List Nat):grp 0 0 (vb x++r)=(x,(vb x).length,0):=by
 rw[Jf x 0 0 r om_ (by simpa using h) (.inl rfl)];simp
def Hz(i n:Nat)(a:Nat×Nat×Nat):Prop:=a.1<18446744073709551616/\(a.2.2=0->a.2.1<=i+n)/\a.2.1<=10/\(a.2.2=0\/a.2.2=4\/a.2.2=5)
theorem EF:∀(l:List Nat) (i u:Nat),i<=9->u<128 ^ i->(∀c∈l,c<256)->Hz i l.length (grp i u l)
 | [],i,u,hi,hu,hl=>⟨by simp[grp],by simp[grp],by simp[grp],by simp[grp]⟩
 | c :: r,i,u,hi,hu,hl=>by
  have hc:=hl c si_;unfold grp;split
  ·exact⟨by simp,by simp,by simp,by simp⟩
  ·split
   ·exact⟨by simp,by simp,by simp,by simp⟩
   ·rename_i h1 h2;split
    ·rename_i h3;refine⟨?_,fun _=>by simp only[List.length_cons];omega,by show i+1<=10;omega,by simp⟩;show u+c*128 ^ i<18446744073709551616
     by_cases h9:i=9
     ·subst h9;have:c<=1:=by omega
      have:c*128 ^ 9<=1*128 ^ 9:=Nat.mul_le_mul_right _ this;omega
     ·have G8:(c+1)*128 ^ i<=128*128 ^ i:=Nat.mul_le_mul_right _ om_;rw[Nat.add_mul] at G8;have h8:128*128 ^ i<=128 ^ 9:=by rw[Nat.mul_comm,<-Nat.pow_succ];exact Nat.pow_le_pow_right om_ om_
      omega
    ·rename_i h3;have h9:i≠9:=by rintro rfl;omega
     have G8:(c - 128+1)*128 ^ i<=128*128 ^ i:=Nat.mul_le_mul_right _ om_;rw[Nat.add_mul] at G8;have:=EF r (i+1) (u+(c - 128)*128 ^ i) om_ (by rw[Nat.pow_succ,Nat.mul_comm (128 ^ i) 128];omega) (fun d hd=>hl d (by simp[hd]));exact⟨this.1,fun h=>by have:=this.2.1 h;simp only[List.length_cons];omega,this.2.2.1,this.2.2.2⟩
def zig(n:Int):Nat:=if n<0 then(2*(-n - 1)+1).toNat else(2*n).toNat
def nH(u:Nat):Int:=if u % 2=1 then -((u / 2:Nat):Int) - 1 else((u / 2:Nat):Int)
theorem DN(n:Int):nH (zig n)=n:=by
 unfold zig nH;split
 ·rw[if_pos om_];omega
 ·rw[if_neg om_];omega
theorem iU(n:Int)(h1: -9223372036854775808<=n)(h2:n<=9223372036854775807):zig n<18446744073709551616:=by
 unfold zig;split <;> omega
def wb(x:Nat):List Nat:=[x / 16777216,x / 65536 % 256,x / 256 % 256,x % 256]
def nums(s:List UInt8):List Nat:=s.map UInt8.toNat
theorem Fg(s:List UInt8):(nums s).length=s.length:=by simp[nums]
abbrev Piece:=Int×Int×List UInt8
def enc(p:Piece):List Nat:=
 if p.1=0 then [(p.2.1 % 256).toNat] else if p.1=1 then(if p.2.1<0 then [] else vb p.2.1.toNat) else if p.1=2 then vb (zig p.2.1) else if p.1=3 then wb (p.2.1 % 4294967296).toNat
 else vb p.2.2.length++nums p.2.2
abbrev Sight:=List Nat×Nat
def dV(n:Nat)(s:Sight):List Nat×Sight:=if s.2≠0 then([],s) else if s.1.length<n then([],(s.1,5)) else(s.1.take n,(s.1.drop n,0))
def iP(fits most:Nat)(s:Sight):Nat×Sight:=
 if s.2≠0 then(0,s) else if(grp 0 0 s.1).2.2≠0 then(0,(s.1,(grp 0 0 s.1).2.2)) else if fits<(grp 0 0 s.1).1 then(0,(s.1,4)) else if most<(grp 0 0 s.1).1 then(0,(s.1,7))
 else((grp 0 0 s.1).1,(s.1.drop (grp 0 0 s.1).2.1,0))
def au(most:Int)(s:Sight):Nat×Sight:=iP 9223372036854775807 (max most 0).toNat s
def eInt(s:Sight):Int×Sight:=(nH (iP 18446744073709551615 18446744073709551615 s).1,(iP 18446744073709551615 18446744073709551615 s).2)
def dw(most:Int)(s:Sight):List Nat×Sight:=
 ((dV (au most s).1 (au most s).2).1,if(dV (au most s).1 (au most s).2).2.2≠0 then(s.1,(dV (au most s).1 (au most s).2).2.2) else(dV (au most s).1 (au most s).2).2)
def gI(s:Sight):Nat:=if s.2=0/\0<s.1.length then 6 else s.2
theorem Et{n:Nat}{s:Sight}(h:∀c∈s.1,c<256):∀c∈(dV n s).1,c<256:=by
 unfold dV;split
 ·intro c hc;cases hc
 ·split
  ·intro c hc;cases hc
  ·intro c hc;exact h c (List.mem_of_mem_take hc)
theorem CV(n:Nat)(s:Sight):(dV n s).1.length<=n:=by
 unfold dV;split
 ·exact Nat.zero_le _
 ·split
  ·exact Nat.zero_le _
  ·rw[List.length_take];exact Nat.min_le_left _ _
theorem Gq(l:List Nat)(h:∀c∈l,c<256):Hz 0 l.length (grp 0 0 l):=EF l 0 0 om_ si_ h
theorem oH(fits most:Nat)(s:Sight):(iP fits most s).1<=fits/\(iP fits most s).1<=most:=by
 unfold iP;split
 ·exact t71
 ·split
  ·exact t71
  ·split
   ·exact t71
   ·split
    ·exact t71
    ·exact⟨by omega,by omega⟩
theorem wI(n:Nat)(a r:List Nat)(h:a.length=n):dV n (a++r,0)=(a,(r,0)):=by
 subst h;simp[dV]
theorem BU(fits most x:Nat)(r:List Nat)(h:x<18446744073709551616)(h1:x<=fits)(h2:x<=most):iP fits most (vb x++r,0)=(x,(r,0)):=by
 unfold iP;rw[if_neg si_];show(if(grp 0 0 (vb x++r)).2.2≠0 then _ else _)=_
 rw[CZ x h r];simp only[ne_eq,not_true_eq_false,if_false];rw[if_neg om_,if_neg om_];simp
end pen
namespace texts
open Go.RowKit
def kT(l:List UInt8):ByteArray:=⟨l.toArray⟩
theorem Dz(l:List UInt8):(kT l).data.toList=l:=rfl
theorem kD(l:List UInt8):(kT l).size=l.length:=by simp[kT,ByteArray.size]
theorem CG(s:ByteArray):kT s.data.toList=s:=by cases s;simp[kT]
theorem zI(l:List UInt8):(kT l).toList=l:=ByteArray.toList_mk l
end texts
theorem t74{P:Prop}(h:P:=by
 exact ht (Obj.cells.inj (Option.some.inj hk)).2.1):P:=h
namespace ak
open Go.RowKit
def ji(e:TypeId)(w w':World):Prop:=∀(k:Nat) (cs:Array Value) (fr:Nat×Nat),w.heap[k]?=some (Obj.cells cs e fr)->w'.heap[k]?=some (Obj.cells cs e fr)
theorem ji.trans{e:TypeId}{a b c:World}(h:ji e a b)(k:ji e b c):ji e a c:=fun i cs fr hi=>k i cs fr (h i cs fr hi)
theorem kR(e:TypeId){w w':World}(hb:Below w.heap.size w w'):ji e w w':=fun k cs fr hk=>(hb.block k (Array.getElem?_eq_some_iff.1 hk).1).trans hk
theorem ve(e:TypeId){b:Nat}{t:TypeId}{cs:List Value}{w w':World}(hb:But w.heap.size b w w')(hB:Block w b t cs)(ht:t≠e):ji e w w':=by
 intro k cs' fr hk;refine(hb.2.2.2.2 k (Array.getElem?_eq_some_iff.1 hk).1 ?_).trans hk;rintro rfl;unfold Block at hB;rw[hB] at hk
 exact t74
theorem eU(e:TypeId){B e2 sz n:Nat}{u:Value}{xs:List Value}{w w':World}(ho:w.ownsRow B e2 sz u n xs)(hg:w.grownBy w' u.ownBlock)(ht:e2≠e):ji e w w':=by
 intro k cs fr hk;refine(hg.block k (Array.getElem?_eq_some_iff.1 hk).1 ?_).trans hk;intro he;rcases ho.2 with ⟨hv,_⟩ | ⟨g,cap,cur,hv,_,hh,_⟩
 ·rw[hv] at he;simp[Value.ownBlock] at he
 ·rw[hv] at he;simp[Value.ownBlock] at he;subst he;rw[hh] at hk
  exact t74
theorem jE(e:TypeId){g:Nat}{t:TypeId}{cs:List Value}{w:World}(hB:Block w g t cs)(ht:t≠e)(o:Nat)(v:Value):ji e w (w.setCell ⟨g,o,none⟩ v):=by
 intro k cs' fr hk;refine(Below.heap_setCell w ⟨g,o,none⟩ v k ?_).trans hk;rintro rfl;unfold Block at hB;rw[hB] at hk
 exact t74
theorem ji.block{w w':World}{k:Nat}{e:TypeId}{cs:List Value}(h:ji e w w')(hB:Block w k e cs):Block w' k e cs:=h k _ _ hB
theorem ji.row{w w':World}{B e sz n:Nat}{v:Value}{xs:List Value}(h:ji e w w')(ho:w.ownsRow B e sz v n xs):w'.ownsRow B e sz v n xs:=by
 refine⟨ho.1, ?_⟩;rcases ho.2 with h0 | ⟨g,cap,cur,hv,h1,hg,h2⟩
 ·exact .inl h0
 ·exact .inr ⟨g,cap,cur,hv,h1,h g _ _ hg,h2⟩
theorem jy{o:Oper}{act:Act}{w:World}{x y:Operand}{u:Value}{B n g sz bytes:Nat}{t e:TypeId}{i:TypeInfo}{z:Value}{xs news:List Value}
  (ht:prog.underlying t=some (.slice e)) (hi:prog.info? e=some i) (hz:i.zero=some z) (hsz:i.size=sz) (MR:i.bytes=bytes) (hzs:z.cells.size=sz) (h0:0<sz)
  (ho:o.op=.call { callee:=.builtin .append,args:=#[x,y],argTypes:=#[t,t]}) (hx:act.eval x=u) (hy:act.eval y=.slice (some ⟨g,0,none⟩) 1 1)
  (hown:w.ownsRow B e sz u n xs) (hl:news.length=sz) (hc:∀j v,news[j]?=some v->w.cell? ⟨g,j,none⟩=some v) (h1:∀v∈news,v.oneCell'=true) (hbytes:(n+1)*bytes<=140737488355328) (hn:n+1<=1000000) (hB:B<=w.heap.size):
  ∃q w',(execOp act.eval o).run prog w=.ok (.value q) w'/\w'.ownsRow B e sz q (n+1) (xs++news)/\w.grownBy w' u.ownBlock:=by
 obtain⟨q,w',h2,h3,h4,_,_⟩:=run_append_own_at w B t o.type e i z sz bytes ht hi hz hsz MR hzs h0 u n xs hown ⟨g,0,none⟩ 1 1 news om_
  (fun j v hj=>by rw[Addr.add_lit,Nat.zero_add];exact hc j v hj) h1 (by unfold maxLen;omega) hbytes hB
 refine⟨q,w', ?_,h3,h4⟩;unfold execOp;simp[ho,resolve,invoke,builtin,hx,hy,h2,Result.andThen]
theorem ig{w:World}{base n sz:Nat}{a:Option Addr}{cap:Nat}{xs:List Value}{e:TypeId}(h:w.ownsRow base e sz (.slice a n cap) n xs):n<=cap/\cap<=maxLen:=by
 rcases h.2 with ⟨hv,h0⟩ | ⟨b,cap',cur,hv,_,hg,h1,h2,_⟩
 ·cases hv;exact⟨by omega,by unfold maxLen;omega⟩
 ·cases hv;exact⟨h1,h2⟩
theorem aU{o:Oper}{a:Act}{w:World}{ty:TypeId}{x:Operand}{ad:Addr}{q:Option Addr}{n c:Nat}(ho:o.op=.load ty x)(hc:w.cell? ad=some (.slice q n c))(hu:∀w',(isAgg ty).run prog w'=.ok false w')(hx:a.eval x=.pointer (some ad):=by kernel_rfl):
  (execOp a.eval o).run prog w=.ok (.value (.slice q n c)) w:=by
 unfold execOp;rw[ho];simp only[hx];go_simp
end ak
namespace plan
open Go Go.RowKit
theorem toL{P:Program}{md:Region.Mode}{Q:Exit->Act->World->Prop}{l:List Oper}{n:Nat}{listed:Array Bool}{a:Act}{w:World}(f:Nat)(L:Bool->Bool->Bool->Array Bool)(hf:n=f+3)
  (h:wpAnyH P md l.toArray (NoPanic Q) (fun _=>True) (f+3) (L false false false) a w) (hl:listed=L false false false:=by kernel_rfl):wpAnyH P md l.toArray (NoPanic Q) (fun _=>True) n listed a w:=by
 subst hf hl;exact h
end plan
end Go.Proofs.Ytogfefdlffmioaa
