/- Contracts and lemmas that claims of this seat share: IntRows, PenMath, Tail, Arr, Append, Str, ExecAppend. Each says its own conditions. -/
import Derived.Test.YtogfefdlffmioaaGreatCmWord
import Derived.Deep.Slices
import Derived.Deep.Strs
import Derived.Lib.SmallJoins
import Derived.StillTail
import Derived.Deep.RegionHeld3
import Derived.Deep.QuietTactic
import Derived.BigQuiet
import Derived.WalkKit
import Derived.Test.YtogfefdlffmioaaGreatRows
import Derived.Deep.MidRow
import Derived.Deep.WholeRow
import Derived.Laws.OwnMore
import Derived.Deep.Upon
import Derived.Laws.BytesArg
import Derived.Laws.Concat
import Derived.Maps.AppendAt
import Derived.Test.YtogfefdlffmioaaGreatCmA
set_option linter.unusedVariables false
namespace Go.Proofs.YtogfefdlffmioaaGreat
open Go.Proofs.Tryz
namespace step
open Go.ChangeShapes Go.WideShapes Go.ChangeAt Go.RowKit Go.Deep
def Ins(w:World)(a:Option Addr)(l:List Int):Prop:=
 l=[]\/∃b off,a=some ⟨b,off,none⟩/\b<w.heap.size/\∀(i:Nat) (n:Int),l[i]?=some n->w.cell? ⟨b,off+i,none⟩=some (.int .i64 n)
theorem Ins.below{w w':World}{a:Option Addr}{l:List Int}(h:Ins w a l)(hb:Below w.heap.size w w'):Ins w' a l:=by
 rcases h with h | ⟨b,off,ha,au,hc⟩
 ·exact .inl h
 ·refine .inr ⟨b,off,ha,Nat.lt_of_lt_of_le au hb.size,fun i p hp=> ?_⟩;rw[hb.cell (p:=⟨b,off+i,none⟩) au];exact hc i p hp
theorem Ins.at{w:World}{a:Option Addr}{l:List Int}(h:Ins w a l){i:Nat}(hi:i<l.length):
  ∃b off p,a=some ⟨b,off,none⟩/\b<w.heap.size/\l[i]?=some p/\w.cell? ⟨b,off+i,none⟩=some (.int .i64 p):=by
 rcases h with rfl | ⟨b,off,ha,au,hc⟩
 ·simp at hi
 ·have hp:=List.getElem?_eq_getElem hi;exact⟨b,off,_,ha,au,hp,hc i _ hp⟩
def InOk(n:Int):Prop:= -9223372036854775808<=n/\n<=9223372036854775807
section
variable {H:Type} {enc:TypeId×Value->H} {P:Program} {W:World}
def InRow(P:Program)(t:TypeId):Prop:=∃e,P.underlying t=some (.slice e)/\P.underlying e=some (.int .i64)/\P.cellsOf e=1
theorem open_InRow{t:TypeId}{v:Value}{fuel:Nat}{y:DataW H×List MemPlace}(hR:InRow P t)
  (hf:DataW.trod enc P W 0 (fun _=>true) true fuel t [v]=some y):
  ∃(a:Option Addr) (cap:Nat) (M:List Int),v=.slice a M.length cap/\Ins W a M/\(∀x∈M,InOk x)/\M.length<=cap/\cap<=maxLen:=by
 obtain⟨e,ht,he,hc⟩:=hR;rcases open_ints ht he hc hf with ⟨hcs,_⟩ | ⟨x,l,c,zs,hcs,_,hl,hm,hz,hx,hcell,hwz⟩
 ·exact⟨none,0,[],by simpa using hcs,.inl rfl,by simp,Nat.le_refl _,by unfold maxLen;omega⟩
 ·simp only[if_true] at hz;have hlen:(zs.take l).length=l:=by simp;omega
  refine⟨some x,c,zs.take l,by rw[hlen];simpa using hcs, ?_,fun y hy=>wf_i64 _ (hwz _ (List.mem_of_mem_take hy)),by rw[hlen];exact hl,hm⟩;by_cases h:l=0
  ·exact .inl (by subst h;rfl)
  ·right;obtain⟨b,off,spot⟩:=x;have hspot:spot=none:=by simpa[Addr.add] using World.cell?_spot (hcell 0 om_)
   subst hspot;have hb:b<W.heap.size:=by
    exact t97
   refine⟨b,off,rfl,hb,fun i n hi=> ?_⟩;have hil:i<l:=by have:=(List.getElem?_eq_some_iff.1 hi).1;omega
   have h1:=hcell i om_;rw[Addr.add_lit] at h1;rw[h1];have hi':i<zs.length:=by omega
   rw[List.getElem?_take,if_pos hil] at hi;simp[List.getD,hi]
end
theorem inRow:InRow prog 82:=⟨_,underlying82,by kernel_rfl,by kernel_rfl⟩
end step
theorem t81{P:Prop}(h:P:=by
 exact⟨Nat.zero_le _,Nat.zero_le _⟩):P:=h
namespace pen
def vb(x:Nat):List Nat:=if h:x<128 then [x] else(128+x % 128) :: vb (x / 128)
 termination_by x
 decreasing_by omega
theorem vb_small{x:Nat}(h:x<128):vb x=[x]:=by rw[vb,dif_pos h]
theorem vb_big{x:Nat}(h:¬x<128):vb x=(128+x % 128) :: vb (x / 128):=by rw[vb,dif_neg h]
theorem vb_lt(x:Nat):∀c∈vb x,c<256:=by
 induction x using Nat.strongRecOn with
 | _ x ih=>
  intro c hc;by_cases h:x<128
  ·rw[vb_small h,List.mem_singleton] at hc;omega
  ·rw[vb_big h] at hc;rcases List.mem_cons.1 hc with rfl | hc
   ·omega
   ·exact ih _ om_ c hc
theorem vb_pos(x:Nat):0<(vb x).length:=by
 by_cases h:x<128
 ·rw[vb_small h];simp
 ·rw[vb_big h];simp
theorem vb_len:∀(k x:Nat),x<128 ^ (k+1)->(vb x).length<=k+1
 | 0,x,h=>by rw[vb_small (by simpa using h)];simp
 | k+1,x,h=>by
  by_cases h1:x<128
  ·rw[vb_small h1];simp
  ·have:=vb_len k (x / 128) (by rw[Nat.pow_succ] at h;omega);rw[vb_big h1,List.length_cons];omega
theorem vb_ten(x:Nat)(h:x<18446744073709551616):(vb x).length<=10:=vb_len 9 x om_
def grp:Nat->Nat->List Nat->Nat×Nat×Nat
 | _,_,[]=>(0,0,5)
 | i,u,c :: r=>if i=9/\1<c then(0,0,4) else if 0<i/\c=0 then(0,0,4) else if c<128 then(u+c*128 ^ i,i+1,0) else grp (i+1) (u+(c - 128)*128 ^ i) r
def GrpOk(i n:Nat)(a:Nat×Nat×Nat):Prop:=a.1<18446744073709551616/\(a.2.2=0->a.2.1<=i+n)/\a.2.1<=10/\(a.2.2=0\/a.2.2=4\/a.2.2=5)
theorem grp_ok:∀(l:List Nat) (i u:Nat),i<=9->u<128 ^ i->(∀c∈l,c<256)->GrpOk i l.length (grp i u l)
 | [],i,u,hi,hu,hl=>⟨by simp[grp],by simp[grp],by simp[grp],by simp[grp]⟩
 | c :: r,i,u,hi,hu,hl=>by
  have hc:=hl c si_;unfold grp;split
  ·exact⟨by simp,by simp,by simp,by simp⟩
  ·split
   ·exact⟨by simp,by simp,by simp,by simp⟩
   ·rename_i h1 h2;split
    ·rename_i h3;refine⟨?_,fun _=>by simp only[List.length_cons];omega,by show i+1<=10;omega,by simp⟩;show u+c*128 ^ i<18446744073709551616
     by_cases h9:i=9
     ·subst h9;have:c<=1:=by omega
      have:c*128 ^ 9<=1*128 ^ 9:=Nat.mul_le_mul_right _ this;omega
     ·have iU:(c+1)*128 ^ i<=128*128 ^ i:=Nat.mul_le_mul_right _ om_;rw[Nat.add_mul] at iU;have h8:128*128 ^ i<=128 ^ 9:=by rw[Nat.mul_comm,<-Nat.pow_succ];exact Nat.pow_le_pow_right om_ om_
      omega
    ·rename_i h3;have h9:i≠9:=by rintro rfl;omega
     have iU:(c - 128+1)*128 ^ i<=128*128 ^ i:=Nat.mul_le_mul_right _ om_;rw[Nat.add_mul] at iU;have:=grp_ok r (i+1) (u+(c - 128)*128 ^ i) om_ (by rw[Nat.pow_succ,Nat.mul_comm (128 ^ i) 128];omega) (fun d hd=>hl d (by simp[hd]));exact⟨this.1,fun h=>by have:=this.2.1 h;simp only[List.length_cons];omega,this.2.2.1,this.2.2.2⟩
def zig(n:Int):Nat:=if n<0 then(2*(-n - 1)+1).toNat else(2*n).toNat
def unzig(u:Nat):Int:=if u % 2=1 then -((u / 2:Nat):Int) - 1 else((u / 2:Nat):Int)
theorem zig_lt(n:Int)(h1: -9223372036854775808<=n)(h2:n<=9223372036854775807):zig n<18446744073709551616:=by
 unfold zig;split <;> omega
def wb(x:Nat):List Nat:=[x / 16777216,x / 65536 % 256,x / 256 % 256,x % 256]
def nums(s:List UInt8):List Nat:=s.map UInt8.toNat
theorem nums_len(s:List UInt8):(nums s).length=s.length:=by simp[nums]
abbrev Piece:=Int×Int×List UInt8
def enc(p:Piece):List Nat:=
 if p.1=0 then [(p.2.1 % 256).toNat] else if p.1=1 then(if p.2.1<0 then [] else vb p.2.1.toNat) else if p.1=2 then vb (zig p.2.1) else if p.1=3 then wb (p.2.1 % 4294967296).toNat
 else vb p.2.2.length++nums p.2.2
abbrev Sight:=List Nat×Nat
def eNext(n:Nat)(s:Sight):List Nat×Sight:=if s.2≠0 then([],s) else if s.1.length<n then([],(s.1,5)) else(s.1.take n,(s.1.drop n,0))
def eVar(fits most:Nat)(s:Sight):Nat×Sight:=
 if s.2≠0 then(0,s) else if(grp 0 0 s.1).2.2≠0 then(0,(s.1,(grp 0 0 s.1).2.2)) else if fits<(grp 0 0 s.1).1 then(0,(s.1,4)) else if most<(grp 0 0 s.1).1 then(0,(s.1,7))
 else((grp 0 0 s.1).1,(s.1.drop (grp 0 0 s.1).2.1,0))
def eCount(most:Int)(s:Sight):Nat×Sight:=eVar 9223372036854775807 (max most 0).toNat s
def eInt(s:Sight):Int×Sight:=(unzig (eVar 18446744073709551615 18446744073709551615 s).1,(eVar 18446744073709551615 18446744073709551615 s).2)
def eText(most:Int)(s:Sight):List Nat×Sight:=
 ((eNext (eCount most s).1 (eCount most s).2).1,if(eNext (eCount most s).1 (eCount most s).2).2.2≠0 then(s.1,(eNext (eCount most s).1 (eCount most s).2).2.2) else(eNext (eCount most s).1 (eCount most s).2).2)
def eEnd(s:Sight):Nat:=if s.2=0/\0<s.1.length then 6 else s.2
theorem eNext_lt{n:Nat}{s:Sight}(h:∀c∈s.1,c<256):∀c∈(eNext n s).1,c<256:=by
 unfold eNext;split
 ·intro c hc;cases hc
 ·split
  ·intro c hc;cases hc
  ·intro c hc;exact h c (List.mem_of_mem_take hc)
theorem eNext_len(n:Nat)(s:Sight):(eNext n s).1.length<=n:=by
 unfold eNext;split
 ·exact Nat.zero_le _
 ·split
  ·exact Nat.zero_le _
  ·rw[List.length_take];exact Nat.min_le_left _ _
theorem grp_ok0(l:List Nat)(h:∀c∈l,c<256):GrpOk 0 l.length (grp 0 0 l):=grp_ok l 0 0 om_ si_ h
theorem eVar_le(fits most:Nat)(s:Sight):(eVar fits most s).1<=fits/\(eVar fits most s).1<=most:=by
 unfold eVar;split
 ·exact t81
 ·split
  ·exact t81
  ·split
   ·exact t81
   ·split
    ·exact t81
    ·exact⟨by omega,by omega⟩
end pen
theorem t76{P:Prop}(h:P:=by
 rcases Nat.lt_or_ge j n with h | h
 ·exact h
 ·exact absurd hj (tail_waits hs hc hn inv _ i rfl hin hun j h)):P:=h
namespace tail
open Go
section
variable {P:Program} {ops:Array Oper} {md:Region.Mode} {C:World->Prop}
def anyL(P:Program)(md:Region.Mode)(ops:Array Oper)(C:World->Prop)(n:Nat)(L:Array Bool->Act->Prop):Nat->Array Bool->Act->Prop
 | 0,listed,a=>L listed a
 | f+1,listed,a=>
  Region.ready md ops listed≠[]/\∀i∈Region.ready md ops listed,i<n/\qOp P ops C i (anyL P md ops C n L f (listed.setIfInBounds i true)) a
theorem any_of_head{n g:Nat}{L:Array Bool->Act->Prop}{Q':Exit->Act->World->Prop}(hL:∀listed a w,C w->L listed a->wpAny P md ops Q' g listed a w):
  ∀(f:Nat) (listed:Array Bool) (a:Act) (w:World),C w->anyL P md ops C n L f listed a->wpAny P md ops Q' (f+g) listed a w
 | 0,listed,a,w,hw,h=>by rw[Nat.zero_add];exact hL _ _ _ hw h
 | f+1,listed,a,w,hw,h=>by
  rw[show f+1+g=(f+g)+1 by omega];exact⟨fun h0=>absurd h0 h.1,fun i hi=>wpOp_of_qOp hw (fun a' w' hw' h'=>any_of_head hL f _ a' w' hw' h') (h.2 i hi).2⟩
theorem anyL_first{n i:Nat}{oi:Oper}{v:Value}{L:Array Bool->Act->Prop}(hi:ops[i]?=some oi)(hsel:∀(j:Nat) (o:Oper) cs b,ops[j]?=some o->o.op≠ .select cs b)
  (hs:Region.sinkB md ops n=true) (hc:Region.chainB md ops n=true) (hn:n<ops.size) (hin:i<n)
  (hdone:∀listed a,L listed a->∀j∈Region.ready md ops listed,n<=j):
  ∀(f:Nat) (listed:Array Bool) (a:Act),HeadInv md ops n listed->
   (∀j oj,ops[j]?=some oj->j≠i->listed.getD j true=false->(∀e∈oj.after,Region.binds md e=true->e.on≠i)->oi.apart ops oj=true)->
   i∈Region.ready md ops listed->YieldsIn P ops C oi v a->
   anyL P md ops C n L f (listed.setIfInBounds i true) (a.put oi.dst v)->anyL P md ops C n L (f+1) listed a:=by
 intro f;induction f with
 | zero=>
  intro listed a inv _ hr hy H;have hun:=(mem_ready.1 hr).1;refine⟨fun h=>(by rw[h] at hr;cases hr),fun j hj=> ?_⟩;have hjn:j<n:=by
   exact t76
  refine⟨hjn, ?_⟩;by_cases hji:j=i
  ·subst hji;exact hy.qOp hi H
  ·have:=hdone _ _ H j (ready_mono hj hji);omega
 | succ f ih=>
  intro listed a inv kP hr hy H;have hun:=(mem_ready.1 hr).1;refine⟨fun h=>(by rw[h] at hr;cases hr),fun j hj=> ?_⟩;have hjn:j<n:=by
   exact t76
  refine⟨hjn, ?_⟩;by_cases hji:j=i
  ·subst hji;exact hy.qOp hi H
  ·have h1:=(H.2 j (ready_mono hj hji)).2;obtain⟨hjun,oj,hoj,hall⟩:=mem_ready.1 hj;have pM:∀e∈oj.after,Region.binds md e=true->e.on≠i:=fun e he hb heq=>by
    have h1:=hall e he hb;rw[heq,getD_both hun] at h1;cases h1
   have h2:=qOp_put hoj (kP j oj hoj hji hjun pM) (fun cs b=>hsel i oi cs b hi) (fun cs b=>hsel j oj cs b hoj) hy h1;have lK:∀k ok,ops[k]?=some ok->k≠i->(listed.setIfInBounds j true).getD k true=false->
     (∀e∈ok.after,Region.binds md e=true->e.on≠i)->oi.apart ops ok=true:=fun k ok hk qZ hun rE=>by
    refine kP k ok hk qZ ?_ rE;by_cases hjk:j=k
    ·subst hjk;exact hjun
    ·rw[getD_set_ne true hjk] at hun;exact hun
   refine qOp_mono (fun a' h3=>ih (listed.setIfInBounds j true) a' (inv.set hj hjn) lK (ready_mono hr (Ne.symm hji)) h3.1 ?_) h2;rw[Array.setIfInBounds_comm _ _ hji];exact h3.2
theorem anyL_lex{n g:Nat}{Lq:Act->Prop}(hsel:Region.noSelect ops=true)(hs:Region.sinkB md ops n=true)(hc:Region.chainB md ops n=true)(hn:n<ops.size):
  ∀(l:List Oper) (k:Nat) (listed:Array Bool) (a:Act),(∀j,j<l.length->l[j]?=ops[k+j]?)->k+l.length=n->HeadInv md ops n listed->
  Region.lexHead md ops g l.length k listed=true->wpQuiet P ops C Lq l a->
  anyL P md ops C n (fun listed' a'=>Region.seqB md ops g n listed'=true/\Lq a') l.length listed a
 | [],k,listed,a,_,hk,_,hB,h=>by
  have:k=n:=by simpa using hk
  subst this;exact⟨by simpa[Region.lexHead] using hB,h⟩
 | o :: l,k,listed,a,hl,hk,inv,hB,h=>by
  have h0:ops[k]?=some o:=by simpa using(hl 0 si_).symm
  simp only[List.length_cons,Region.lexHead,Bool.and_eq_true] at hB;obtain⟨⟨hr,hf⟩,iO⟩:=hB;have qC:k<n:=by simp only[List.length_cons] at hk;omega
  have qG:k∈Region.ready md ops listed:=by simpa using hr
  have hst:qOp P ops C k (wpQuiet P ops C Lq l) a:=by unfold qOp;simp only[h0];exact h
  obtain⟨v,hy,hK⟩:=yieldsIn_of_qOp h0 hst;exact anyL_first h0 (Region.noSelect_spec hsel) hs hc hn qC (fun listed' a' hL=>seqB_ready hL.1) l.length listed a inv (Region.free_spec h0 hf) qG hy
   (anyL_lex hsel hs hc hn l (k+1) _ _ (fun j hj=>by have:=hl (j+1) (by simp;omega);simpa[Nat.add_assoc,Nat.add_comm 1 j] using this) (by simp only[List.length_cons] at hk;omega) (inv.set qG qC) iO hK)
theorem region{id:Nat}{Q:Exit->Act->World->Prop}{a:Act}{w:World}{l:List Oper}(n:Nat)(hm:P.follows .mixedOrders=true)(hB:Region.lexTailB .any l.toArray n=true)
  (h:wpQuiet P l.toArray (fun w'=>∃n,w'=w.drewN n) (fun a'=>∀w',(∃n,w'=w.drewN n)->wpList P l.toArray Q (l.drop n) a' w') (l.take n) a):(Code.region id l.toArray true).wp P Q a w:=by
 simp only[Region.lexTailB,Bool.and_eq_true,decide_eq_true_eq] at hB;obtain⟨⟨⟨⟨hsel,hn⟩,hs⟩,hc⟩,lT⟩:=hB;have tq:n<l.length:=by simpa using hn
 have nY:(l.take n).length=n:=by simp;omega
 have hdl:(l.drop n).length=l.toArray.size - n:=by simp
 have inv0:HeadInv .any l.toArray n (Array.replicate l.toArray.size false):=
  ⟨by simp,fun j oj _ hl=>(by rw[getD_replicate_false] at hl;cases hl),fun t _ ht=>getD_in (by simpa using ht) (getD_replicate_false _ _)⟩
 have H:=anyL_lex (md:=.any) (g:=l.toArray.size - n) hsel hs hc hn (l.take n) 0 _ a (fun j hj=>by
  have hj':j<n:=by rw[nY] at hj;exact hj
  simp[hj']) (by simpa using nY) inv0 (by rw[nY];exact lT) h
 refine wp_region_any hm ?_;have:=any_of_head (C:=fun w'=>∃n,w'=w.drewN n) (Q':=Q) (g:=l.toArray.size - n) (fun listed a' w' hw' hL=>by
  have:=wpAny_of_seq (md:=.any) (Q':=Q) (l.drop n) n listed a' w' (fun j=>by simp[List.getElem?_drop]) (by rw[hdl];exact hL.1) (hL.2 w' hw');rwa [hdl] at this) _ _ _ _ ⟨1,rfl⟩ H
 rw[nY,show n+(l.toArray.size - n)=l.toArray.size by omega] at this;exact this
theorem held_of_any{Q:Exit->Act->World->Prop}:∀(fuel:Nat) (listed:Array Bool) (a:Act) (w:World),wpAny P md ops Q fuel listed a w->wpAnyH P md ops Q (fun _=>True) fuel listed a w
 | 0,_,_,_,h=>h
 | fuel+1,_,_,_,h=>⟨h.1,fun i hi=>wpOp_mono (fun a' w' h'=>⟨trivial,held_of_any fuel _ a' w' h'⟩) (h.2 i hi)⟩
end
end tail
theorem t53{P:Prop}(h:P:=by
 simp only[results,h];simp at hp;simp[hp,asAddr,run_loadVar_mid w b o ty cs d hc hu hd hi]):P:=h
section
open Go.RowKit
def Block(w:World)(b:Nat)(t:TypeId)(cs:List Value):Prop:=w.heap[b]?=some (.cells cs.toArray t (0,0))
theorem Block.lt{w:World}{b:Nat}{t:TypeId}{cs:List Value}(h:Block w b t cs):b<w.heap.size:=(Array.getElem?_eq_some_iff.1 h).1
theorem Block.cell{w:World}{b:Nat}{t:TypeId}{cs:List Value}(h:Block w b t cs)(j:Nat):w.cell? ⟨b,j,none⟩=cs[j]?:=by
 rw[cell_of_row w b j cs.toArray t (0,0) h];simp
theorem Block.frozen{w:World}{b:Nat}{t:TypeId}{cs:List Value}(h:Block w b t cs)(j:Nat):w.frozen? ⟨b,j,none⟩=false:=frozen_of_row w b j cs.toArray t h
theorem Block.range{w:World}{b:Nat}{t:TypeId}{cs:List Value}(h:Block w b t cs)(o:Nat)(vs:List Value)(hv:∀j v,vs[j]?=some v->cs[o+j]?=some v):w.rangeAt b o vs:=
 fun j v hj=>by rw[h.cell];exact hv j v hj
theorem Block.whole{w:World}{b:Nat}{t:TypeId}{cs:List Value}(h:Block w b t cs):w.rangeAt b 0 cs:=h.range 0 cs (fun j v hj=>by rw[Nat.zero_add];exact hj)
theorem Block.there{w:World}{b:Nat}{t:TypeId}{cs:List Value}(h:Block w b t cs)(o n:Nat)(hn:o+n<=cs.length):w.there b o n:=
 fun j hj=>⟨by rw[h.cell,List.getElem?_eq_getElem om_];rfl,h.frozen _⟩
theorem Block.setCell{w:World}{b:Nat}{t:TypeId}{cs:List Value}(h:Block w b t cs)(j:Nat)(v:Value):Block (w.setCell ⟨b,j,none⟩ v) b t (cs.set j v):=by
 have:=heap_setCell_same w b j cs.toArray t v h;unfold Block;rw[this];simp
def put(cs:List Value):Nat->List Value->List Value
 | _,[]=>cs
 | o,v :: r=>put (cs.set o v) (o+1) r
theorem put_mid(A X C Y:List Value)(h:X.length=Y.length):put (A++X++C) A.length Y=A++Y++C:=by
 induction Y generalizing A X with
 | nil=>obtain rfl:X=[]:=List.eq_nil_of_length_eq_zero (by simpa using h);rfl
 | cons y r ih=>
  cases X with
  | nil=>simp at h
  | cons x X=>
   have e:(A++x :: X++C).set A.length y=(A++[y])++X++C:=by simp
   have:=ih (A++[y]) X (by simpa using h);rw[put,e,show A.length+1=(A++[y]).length by simp,this];simp
theorem put_all(X Y:List Value)(h:X.length=Y.length):put X 0 Y=Y:=by
 have:=put_mid [] X [] Y h;simpa using this
theorem Block.setCells{b:Nat}{t:TypeId}:∀ {vs:List Value} {o:Nat} {w:World} {cs:List Value},Block w b t cs->Block (w.setCells b o vs) b t (put cs o vs)
 | [],_,_,_,h=>h
 | v :: r,o,w,cs,h=>Block.setCells (vs:=r) (o:=o+1) (h.setCell o v)
theorem Block.alloc{w:World}{b:Nat}{t:TypeId}{cs:List Value}(h:Block w b t cs)(ob:Obj):Block (w.alloc ob) b t cs:=(Below.heap_alloc w ob b h.lt).trans h
theorem Block.new(w:World)(t:TypeId)(cs:List Value):Block (w.alloc (.cells cs.toArray t)) w.heap.size t cs:=heap_alloc_last w _
theorem Block.drewN{w:World}{b:Nat}{t:TypeId}{cs:List Value}(h:Block w b t cs)(n:Nat):Block (w.drewN n) b t cs:=h
theorem Block.below{w w':World}{b B:Nat}{t:TypeId}{cs:List Value}(h:Block w b t cs)(hb:Below B w w')(hB:b<B):Block w' b t cs:=(hb.block b hB).trans h
theorem Block.later{w w':World}{b:Nat}{t:TypeId}{cs:List Value}(h:Block w b t cs)(hb:Below w.heap.size w w'):Block w' b t cs:=h.below hb h.lt
theorem Block.apart{w:World}{b:Nat}{t:TypeId}{cs:List Value}(h:Block w b t cs)(g o:Nat)(v:Value)(hg:b≠g):Block (w.setCell ⟨g,o,none⟩ v) b t cs:=
 (Below.heap_setCell w ⟨g,o,none⟩ v b hg).trans h
theorem heap_setCells(g:Nat):∀(vs:List Value) (o:Nat) (w:World) (k:Nat),k≠g->(w.setCells g o vs).heap[k]?=w.heap[k]?
 | [],_,_,_,_=>rfl
 | v :: r,o,w,k,h=>(heap_setCells g r (o+1) _ k h).trans (Below.heap_setCell w ⟨g,o,none⟩ v k h)
theorem size_setCells(g:Nat):∀(vs:List Value) (o:Nat) (w:World),(w.setCells g o vs).heap.size=w.heap.size
 | [],_,_=>rfl
 | v :: r,o,w=>(size_setCells g r (o+1) _).trans si_
theorem rest_setCells(g:Nat):∀(vs:List Value) (o:Nat) (w:World),(w.setCells g o vs).os=w.os/\(w.setCells g o vs).tape=w.tape/\(w.setCells g o vs).output=w.output
 | [],_,_=>⟨rfl,rfl,rfl⟩
 | v :: r,o,w=>rest_setCells g r (o+1) (w.setCell ⟨g,o,none⟩ v)
theorem Block.aparts{w:World}{b:Nat}{t:TypeId}{cs:List Value}(h:Block w b t cs)(g o:Nat)(vs:List Value)(hg:b≠g):Block (w.setCells g o vs) b t cs:=
 (heap_setCells g vs o w b hg).trans h
theorem below_setCells{B g:Nat}{a w:World}(h:Below B a w)(hg:B<=g)(o:Nat)(vs:List Value):Below B a (w.setCells g o vs):=
 h.trans ⟨(rest_setCells g vs o w).1,(rest_setCells g vs o w).2.1,(rest_setCells g vs o w).2.2,by rw[size_setCells];exact Nat.le_refl _,fun k hk=>heap_setCells g vs o w k om_⟩
theorem results_cell{fn:Func}{p:Tmp}{ty:TypeId}{tmps:Array Value}{P:Program}{w:World}{b o:Nat}{cs:List Value}{d:TypeDesc}(h:fn.results=#[.cell p ty])
  (hp:tmps.getD p undef=.pointer (some ⟨b,o,none⟩)) (hc:w.rangeAt b o cs) (hu:P.underlying ty=some d) (hd:d.isRow=true) (hi:(P.info? ty).map (·.size)=some cs.length):
  (results fn tmps).run P w=.ok (.agg cs.toArray) w:=by
 exact t53
theorem ownsRow_later{w w':World}{base e size n:Nat}{v:Value}{xs:List Value}(h:w.ownsRow base e size v n xs)(hb:Below w.heap.size w w'):w'.ownsRow base e size v n xs:=by
 refine⟨h.1, ?_⟩;rcases h.2 with h0 | ⟨g,cap,cur,hv,h1,hg,h2,h3,h4,h5⟩
 ·exact .inl h0
 ·exact .inr ⟨g,cap,cur,hv,h1,(hb.block g (Array.getElem?_eq_some_iff.1 hg).1).trans hg,h2,h3,h4,h5⟩
def But(B g:Nat)(w w':World):Prop:=
 w'.os=w.os/\w'.tape=w.tape/\w'.output=w.output/\w.heap.size<=w'.heap.size/\∀k,k<B->k≠g->w'.heap[k]?=w.heap[k]?
theorem But.refl(B g:Nat)(w:World):But B g w w:=⟨rfl,rfl,rfl,Nat.le_refl _,fun _ _ _=>rfl⟩
theorem But.trans{B g:Nat}{a b c:World}(h:But B g a b)(k:But B g b c):But B g a c:=
 ⟨k.1.trans h.1,k.2.1.trans h.2.1,k.2.2.1.trans h.2.2.1,Nat.le_trans h.2.2.2.1 k.2.2.2.1,fun j h1 h2=>(k.2.2.2.2 j h1 h2).trans (h.2.2.2.2 j h1 h2)⟩
theorem Below.but{B g:Nat}{a b:World}(h:Below B a b):But B g a b:=⟨h.os,h.tape,h.output,h.size,fun k hk _=>h.block k hk⟩
theorem But.below{B B' g:Nat}{a b:World}(h:But B g a b)(hB:B'<=B)(hg:B'<=g):Below B' a b:=⟨h.1,h.2.1,h.2.2.1,h.2.2.2.1,fun k hk=>h.2.2.2.2 k om_ om_⟩
theorem But.mono{B B' g:Nat}{a b:World}(h:But B g a b)(hB:B'<=B):But B' g a b:=⟨h.1,h.2.1,h.2.2.1,h.2.2.2.1,fun k hk hg=>h.2.2.2.2 k om_ hg⟩
theorem But.setCells{B g:Nat}{a w:World}(h:But B g a w)(o:Nat)(vs:List Value):But B g a (w.setCells g o vs):=
 h.trans ⟨(rest_setCells g vs o w).1,(rest_setCells g vs o w).2.1,(rest_setCells g vs o w).2.2,by rw[size_setCells];exact Nat.le_refl _,fun k _ hg=>heap_setCells g vs o w k hg⟩
theorem But.setCell{B g:Nat}{a w:World}(h:But B g a w)(o:Nat)(v:Value):But B g a (w.setCell ⟨g,o,none⟩ v):=h.setCells o [v]
theorem But.step{B g:Nat}{a w w':World}(h:But B g a w)(k:Below w.heap.size w w')(hB:B<=w.heap.size):But B g a w':=h.trans (Below.but (k.mono hB))
theorem But.drewN{B g:Nat}{a w:World}(h:But B g a w)(n:Nat):But B g a (w.drewN n):=h
theorem Block.but{w w':World}{b B g:Nat}{t:TypeId}{cs:List Value}(h:Block w b t cs)(hb:But B g w w')(hB:b<B)(hg:b≠g):Block w' b t cs:=(hb.2.2.2.2 b hB hg).trans h
theorem Reads.but{k:IntKind}{w w':World}{b off len B g:Nat}{xs:List Nat}(h:Reads k w (some ⟨b,off,none⟩) len xs)(hb:But B g w w')(hB:b<B)(hg:b≠g):Reads k w' (some ⟨b,off,none⟩) len xs:=by
 refine⟨h.1, ?_⟩;rcases h.2 with h | ⟨b',off',ha,au,hc⟩
 ·exact .inl h
 ·cases ha
  refine .inr ⟨b,off,rfl,Nat.lt_of_lt_of_le au hb.2.2.2.1,fun i hi=> ?_⟩;rw[World.cell?_of_block (w:=w) (hb.2.2.2.2 b hB hg)];exact hc i hi
theorem Block.reads{k:IntKind}{w:World}{b:Nat}{t:TypeId}{cs:List Value}(h:Block w b t cs)(o:Nat)(xs:List Nat)(hx:∀i,i<xs.length->cs[o+i]?=some (.int k ((xs.getD i 0:Nat):Int)))(n:Nat)(hn:xs.length=n):Reads k w (some ⟨b,o,none⟩) n xs:=
 ⟨hn,.inr ⟨b,o,rfl,h.lt,fun i hi=>by rw[h.cell];exact hx i om_⟩⟩
end
theorem t77{P:Prop}(h:P:=by
 cases ap with
 | none=>exact Src.ofNil w ht c
 | some ad=>exact Src.ofSlice w ht ad 0 c [] si_ si_ si_):P:=h
section
open Go.RowKit
theorem ownsRow_heap{w w':World}{base e size n:Nat}{v:Value}{xs:List Value}(h:w.ownsRow base e size v n xs)(hh:∀g,v.ownBlock=some g->w'.heap[g]?=w.heap[g]?):w'.ownsRow base e size v n xs:=by
 refine⟨h.1, ?_⟩;rcases h.2 with h0 | ⟨g,cap,cur,hv,h1,hg,h2,h3,h4,h5⟩
 ·exact .inl h0
 ·exact .inr ⟨g,cap,cur,hv,h1,(hh g (by rw[hv];rfl)).trans hg,h2,h3,h4,h5⟩
theorem grown_refl(w:World)(row:Option Nat):w.grownBy w row:=⟨rfl,rfl,rfl,Nat.le_refl _,fun _ _ _=>rfl⟩
theorem wpList_append_from{P:Program}{w:World}{ops:Array Oper}{rest:List Oper}{o:Oper}{a:Act}{Q:Exit->Act->World->Prop}(hgd:o.guard=none)(s x:Operand)(t:TypeId)
  (ho:o.op=.call { callee:=.builtin .append,args:=#[s,x],argTypes:=#[t,t]})
  (base:Nat) (e:TypeId) (i:TypeInfo) (z:Value) (bytes:Nat) (ht:P.underlying t=some (.slice e)) (hi:P.info? e=some i) (hz:i.zero=some z)
  (hsize:i.size=1) (lI:i.bytes=bytes) (hzs:z.cells.size=1)
  (v:Value) (n:Nat) (xs:List Value) (hs:a.eval s=v) (hown:w.ownsRow base e 1 v n xs)
  (ap:Option Addr) (m c:Nat) (news:List Value) (hx:a.eval x=.slice ap m c) (hl:news.length=m)
  (jy:m=0\/∃ad,ap=some ad/\∀j u,news[j]?=some u->w.cell? (ad.add j)=some u) (h1:∀u∈news,u.oneCell'=true)
  (jF:n+m<=maxLen) (hbytes:(n+m)*bytes<=140737488355328) (gm:base<=w.heap.size)
  (h:∀v' w',w'.ownsRow base e 1 v' (n+m) (xs++news)->w.grownBy w' v.ownBlock->wpList P ops Q rest (a.put o.dst v') w'):wpList P ops Q (o :: rest) a w:=by
 by_cases hm:m=0
 ·subst hm;obtain rfl:news=[]:=List.eq_nil_of_length_eq_zero hl;obtain⟨bp,cp,rfl,hcp⟩:=ownsRow_slice hown;have hsrc:Src P i.size t (.slice ap 0 c) 0 [] w:=by
   exact t77
  have iq:=run_append_nothing w t t o.type e i ht hi bp n cp hcp _ hsrc;refine wpList_plain hgd fun K hK=> ?_
  unfold Oper.wp;simp[execOp,ho,resolve,invoke,builtin,hs,hx,iq,Result.andThen];exact hK _ _ (h _ w (by simpa using hown) (grown_refl _ _))
 ·rcases jy with h0 | ⟨ad,rfl,hc⟩
  ·exact absurd h0 hm
  ·exact wpList_append_own w hgd s x t ho base e i z 1 bytes ht hi hz hsize lI hzs de_ v n xs hs hown ad m c news hx om_ hc h1 jF hbytes gm (fun v' w' h2 h3 _=>h v' w' h2 h3)
end
namespace texts
open Go.RowKit
def strL(l:List UInt8):ByteArray:=⟨l.toArray⟩
theorem strL_data(l:List UInt8):(strL l).data.toList=l:=rfl
theorem strL_size(l:List UInt8):(strL l).size=l.length:=by simp[strL,ByteArray.size]
theorem strL_of(s:ByteArray):strL s.data.toList=s:=by cases s;simp[strL]
theorem strL_toList(l:List UInt8):(strL l).toList=l:=ByteArray.toList_mk l
end texts
section
open Go Go.RowKit
theorem eG{o:Oper}{act:Act}{w:World}{x y:Operand}{v:Value}{base n m c:Nat}{ap:Option Addr}{ys news:List Nat}
  (ho:o.op=.call { callee:=.builtin .append,args:=#[x,y],argTypes:=#[28,28]}) (hx:act.eval x=v) (hy:act.eval y=.slice ap m c)
  (hown:w.ownsRow base 5 1 v n (ys.map fun x:Nat=>Value.int .u8 (x:Int))) (hr:Reads .u8 w ap m news) (gm:base<=w.heap.size) (hlen:n+m<=140737488355328):
  ∃z w',(execOp act.eval o).run prog w=.ok (.value z) w'/\w'.ownsRow base 5 1 z (n+m) ((ys++news).map fun x:Nat=>Value.int .u8 (x:Int))/\w.grownBy w' v.ownBlock/\(z.ownBlock=v.ownBlock\/z.ownBlock=some w.heap.size):=by
 have hinfo:(prog.info? 5).map (fun i=>(i.zero,i.size,i.bytes))=some (some (.int .u8 0),1,1):=by kernel_rfl
 obtain⟨i0,hi,hz0,hz1,hz2⟩:=info_parts hinfo;by_cases hm:m=0
 ·subst hm;obtain rfl:news=[]:=List.eq_nil_of_length_eq_zero hr.1;obtain⟨bp,cp,rfl,hcp⟩:=ownsRow_slice hown;have hsrc:Src prog i0.size 28 (.slice ap 0 c) 0 [] w:=by
   cases ap with
   | none=>exact Src.ofNil w underlying28 c
   | some ad=>exact Src.ofSlice w underlying28 ad 0 c [] si_ si_ si_
  have iq:=run_append_nothing w 28 28 o.type 5 i0 underlying28 hi bp n cp hcp _ hsrc;refine⟨.slice bp n cp,w, ?_,by simpa using hown,grown_refl _ _,.inl rfl⟩;unfold execOp;simp[ho,resolve,invoke,builtin,hx,hy,iq,Result.andThen]
 ·obtain⟨b,off,rfl,hb,hc⟩:=hr.at (i:=0) om_;obtain⟨z,w',h1,h2,h3,_,h4⟩:=run_append_own_at w base 28 o.type 5 i0 (.int .u8 0) 1 1 underlying28 hi hz0 hz1 hz2 rfl de_ v n _ hown ⟨b,off,none⟩ m c (news.map fun x:Nat=>Value.int .u8 (x:Int)) (by simp[hr.1])
   (fun j u hj=>by
    have hl:j<news.length:=by have:=(List.getElem?_eq_some_iff.1 hj).1;simpa using this
    rw[Addr.add_lit,hc j (by have:=hr.1;omega)];rw[List.getElem?_map,List.getElem?_eq_getElem hl] at hj;rw[<-hj,List.getD_eq_getElem?_getD,List.getElem?_eq_getElem hl];rfl)
   (fun u hu=>by obtain⟨x,_,rfl⟩:=List.mem_map.1 hu;rfl) (by unfold maxLen;omega) om_ gm
  refine⟨z,w', ?_,by rw[List.map_append];exact h2,h3,h4⟩;unfold execOp;simp[ho,resolve,invoke,builtin,hx,hy,h1,Result.andThen]
end
end Go.Proofs.YtogfefdlffmioaaGreat
