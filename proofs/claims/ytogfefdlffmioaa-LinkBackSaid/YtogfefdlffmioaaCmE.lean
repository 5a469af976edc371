/- Contracts and lemmas that claims of this seat share: Tail, Perm, Plan, PlanMore. Each says its own conditions. -/
import Derived.Test.YtogfefdlffmioaaCmWord
import Derived.StillTail
import Derived.Deep.RegionHeld3
import Derived.Deep.QuietTactic
import Derived.BigQuiet
import Derived.WalkKit
import Derived.Test.YtogfefdlffmioaaRows
import Derived.Deep.MidRow
import Derived.Laws.StructEq
import Derived.Below
namespace Go.Proofs.Ytogfefdlffmioaa
open Go.Proofs.Try
theorem t64{P:Prop}(h:P:=by
 rcases Nat.lt_or_ge j n with h | h
 ·exact h
 ·exact absurd hj (tail_waits hs hc hn inv _ i rfl hin hun j h)):P:=h
namespace tail
open Go
section
variable {P:Program} {ops:Array Oper} {md:Region.Mode} {C:World->Prop}
def Ej(P:Program)(md:Region.Mode)(ops:Array Oper)(C:World->Prop)(n:Nat)(L:Array Bool->Act->Prop):Nat->Array Bool->Act->Prop
 | 0,listed,a=>L listed a
 | f+1,listed,a=>
  Region.ready md ops listed≠[]/\∀i∈Region.ready md ops listed,i<n/\qOp P ops C i (Ej P md ops C n L f (listed.setIfInBounds i true)) a
theorem rH{n g:Nat}{L:Array Bool->Act->Prop}{Q':Exit->Act->World->Prop}(hL:∀listed a w,C w->L listed a->wpAny P md ops Q' g listed a w):
  ∀(f:Nat) (listed:Array Bool) (a:Act) (w:World),C w->Ej P md ops C n L f listed a->wpAny P md ops Q' (f+g) listed a w
 | 0,listed,a,w,hw,h=>by rw[Nat.zero_add];exact hL _ _ _ hw h
 | f+1,listed,a,w,hw,h=>by
  rw[show f+1+g=(f+g)+1 by omega];exact⟨fun h0=>absurd h0 h.1,fun i hi=>wpOp_of_qOp hw (fun a' w' hw' h'=>rH hL f _ a' w' hw' h') (h.2 i hi).2⟩
theorem A8{n i:Nat}{oi:Oper}{v:Value}{L:Array Bool->Act->Prop}(hi:ops[i]?=some oi)(hsel:∀(j:Nat) (o:Oper) cs b,ops[j]?=some o->o.op≠ .select cs b)
  (hs:Region.sinkB md ops n=true) (hc:Region.chainB md ops n=true) (hn:n<ops.size) (hin:i<n)
  (hdone:∀listed a,L listed a->∀j∈Region.ready md ops listed,n<=j):
  ∀(f:Nat) (listed:Array Bool) (a:Act),HeadInv md ops n listed->
   (∀j oj,ops[j]?=some oj->j≠i->listed.getD j true=false->(∀e∈oj.after,Region.binds md e=true->e.on≠i)->oi.apart ops oj=true)->
   i∈Region.ready md ops listed->YieldsIn P ops C oi v a->
   Ej P md ops C n L f (listed.setIfInBounds i true) (a.put oi.dst v)->Ej P md ops C n L (f+1) listed a:=by
 intro f;induction f with
 | zero=>
  intro listed a inv _ hr hy H;have hun:=(mem_ready.1 hr).1;refine⟨fun h=>(by rw[h] at hr;cases hr),fun j hj=> ?_⟩;have hjn:j<n:=by
   exact t64
  refine⟨hjn, ?_⟩;by_cases hji:j=i
  ·subst hji;exact hy.qOp hi H
  ·have:=hdone _ _ H j (ready_mono hj hji);omega
 | succ f ih=>
  intro listed a inv Ij hr hy H;have hun:=(mem_ready.1 hr).1;refine⟨fun h=>(by rw[h] at hr;cases hr),fun j hj=> ?_⟩;have hjn:j<n:=by
   exact t64
  refine⟨hjn, ?_⟩;by_cases hji:j=i
  ·subst hji;exact hy.qOp hi H
  ·have h1:=(H.2 j (ready_mono hj hji)).2;obtain⟨hjun,oj,hoj,hall⟩:=mem_ready.1 hj;have Qp:∀e∈oj.after,Region.binds md e=true->e.on≠i:=fun e he hb heq=>by
    have h1:=hall e he hb;rw[heq,getD_both hun] at h1;cases h1
   have h2:=qOp_put hoj (Ij j oj hoj hji hjun Qp) (fun cs b=>hsel i oi cs b hi) (fun cs b=>hsel j oj cs b hoj) hy h1;have JQ:∀k ok,ops[k]?=some ok->k≠i->(listed.setIfInBounds j true).getD k true=false->
     (∀e∈ok.after,Region.binds md e=true->e.on≠i)->oi.apart ops ok=true:=fun k ok hk Ut hun UA=>by
    refine Ij k ok hk Ut ?_ UA;by_cases hjk:j=k
    ·subst hjk;exact hjun
    ·rw[getD_set_ne true hjk] at hun;exact hun
   refine qOp_mono (fun a' h3=>ih (listed.setIfInBounds j true) a' (inv.set hj hjn) JQ (ready_mono hr (Ne.symm hji)) h3.1 ?_) h2;rw[Array.setIfInBounds_comm _ _ hji];exact h3.2
theorem yF{n g:Nat}{Lq:Act->Prop}(hsel:Region.noSelect ops=true)(hs:Region.sinkB md ops n=true)(hc:Region.chainB md ops n=true)(hn:n<ops.size):
  ∀(l:List Oper) (k:Nat) (listed:Array Bool) (a:Act),(∀j,j<l.length->l[j]?=ops[k+j]?)->k+l.length=n->HeadInv md ops n listed->
  Region.lexHead md ops g l.length k listed=true->wpQuiet P ops C Lq l a->
  Ej P md ops C n (fun listed' a'=>Region.seqB md ops g n listed'=true/\Lq a') l.length listed a
 | [],k,listed,a,_,hk,_,hB,h=>by
  have:k=n:=by simpa using hk
  subst this;exact⟨by simpa[Region.lexHead] using hB,h⟩
 | o :: l,k,listed,a,hl,hk,inv,hB,h=>by
  have h0:ops[k]?=some o:=by simpa using(hl 0 si_).symm
  simp only[List.length_cons,Region.lexHead,Bool.and_eq_true] at hB;obtain⟨⟨hr,hf⟩,G5⟩:=hB;have SN:k<n:=by simp only[List.length_cons] at hk;omega
  have SX:k∈Region.ready md ops listed:=by simpa using hr
  have hst:qOp P ops C k (wpQuiet P ops C Lq l) a:=by unfold qOp;simp only[h0];exact h
  obtain⟨v,hy,hK⟩:=yieldsIn_of_qOp h0 hst;exact A8 h0 (Region.noSelect_spec hsel) hs hc hn SN (fun listed' a' hL=>seqB_ready hL.1) l.length listed a inv (Region.free_spec h0 hf) SX hy
   (yF hsel hs hc hn l (k+1) _ _ (fun j hj=>by have:=hl (j+1) (by simp;omega);simpa[Nat.add_assoc,Nat.add_comm 1 j] using this) (by simp only[List.length_cons] at hk;omega) (inv.set SX SN) G5 hK)
theorem region{id:Nat}{Q:Exit->Act->World->Prop}{a:Act}{w:World}{l:List Oper}(n:Nat)(hm:P.follows .mixedOrders=true)(hB:Region.lexTailB .any l.toArray n=true)
  (h:wpQuiet P l.toArray (fun w'=>∃n,w'=w.drewN n) (fun a'=>∀w',(∃n,w'=w.drewN n)->wpList P l.toArray Q (l.drop n) a' w') (l.take n) a):(Code.region id l.toArray true).wp P Q a w:=by
 simp only[Region.lexTailB,Bool.and_eq_true,decide_eq_true_eq] at hB;obtain⟨⟨⟨⟨hsel,hn⟩,hs⟩,hc⟩,JV⟩:=hB;have O8:n<l.length:=by simpa using hn
 have Oe:(l.take n).length=n:=by simp;omega
 have hdl:(l.drop n).length=l.toArray.size - n:=by simp
 have inv0:HeadInv .any l.toArray n (Array.replicate l.toArray.size false):=
  ⟨by simp,fun j oj _ hl=>(by rw[getD_replicate_false] at hl;cases hl),fun t _ ht=>getD_in (by simpa using ht) (getD_replicate_false _ _)⟩
 have H:=yF (md:=.any) (g:=l.toArray.size - n) hsel hs hc hn (l.take n) 0 _ a (fun j hj=>by
  have hj':j<n:=by rw[Oe] at hj;exact hj
  simp[hj']) (by simpa using Oe) inv0 (by rw[Oe];exact JV) h
 refine wp_region_any hm ?_;have:=rH (C:=fun w'=>∃n,w'=w.drewN n) (Q':=Q) (g:=l.toArray.size - n) (fun listed a' w' hw' hL=>by
  have:=wpAny_of_seq (md:=.any) (Q':=Q) (l.drop n) n listed a' w' (fun j=>by simp[List.getElem?_drop]) (by rw[hdl];exact hL.1) (hL.2 w' hw');rwa [hdl] at this) _ _ _ _ ⟨1,rfl⟩ H
 rw[Oe,show n+(l.toArray.size - n)=l.toArray.size by omega] at this;exact this
theorem rU{Q:Exit->Act->World->Prop}:∀(fuel:Nat) (listed:Array Bool) (a:Act) (w:World),wpAny P md ops Q fuel listed a w->wpAnyH P md ops Q (fun _=>True) fuel listed a w
 | 0,_,_,_,h=>h
 | fuel+1,_,_,_,h=>⟨h.1,fun i hi=>wpOp_mono (fun a' w' h'=>⟨trivial,rU fuel _ a' w' h'⟩) (h.2 i hi)⟩
end
end tail
namespace perm
open Go
section
variable {P:Program} {ops:Array Oper} {md:Region.Mode}
def qJ:Op->Bool
 | .move _ | .assign _ | .load _ _ | .binOp .. | .unOp .. | .slice .. | .fieldAddr .. | .indexAddr .. | .index .. | .extract .. | .convert .. =>true
 | .nilCheck _=>true
 | _=>false
theorem zf{ρ:Operand->Value}{o:Oper}{w w':World}{n:Next}(h:qJ o.op=true)(hr:(execOp ρ o).run P w=.ok n w'):∃u,n=.value u:=by
 have key:∀(s:Sem Value),(do let x <-s;pure (Next.value x):Sem Next).run P w=.ok n w'->∃u,n=.value u:=fun s hs=>by
  rw[Sem.run_bind] at hs;cases hq:s.run P w with
  | ok u w1=>rw[hq] at hs;simp[Result.andThen] at hs;exact⟨u,hs.1.symm⟩
  | halt x w1=>rw[hq] at hs;simp[Result.andThen] at hs
 unfold execOp at hr;cases ho:o.op <;> rw[ho] at h hr <;> simp only[qJ] at h <;> try cases h
 case move x=>simp at hr;exact⟨_,hr.1.symm⟩
 case assign x=>simp at hr;exact⟨_,hr.1.symm⟩
 case nilCheck x=>
  dsimp only at hr;split at hr
  ·simp[runtimePanic,Sem.run_bind,Result.andThen] at hr
  ·simp[runtimePanic] at hr
  ·simp[runtimePanic] at hr
  ·split at hr
   ·simp[runtimePanic] at hr
   ·simp only[Sem.run_bind] at hr;generalize Sem.run P program _=r1 at hr;cases r1 with
    | halt x w1=>simp[Result.andThen] at hr
    | ok p w1=>
     simp only[Result.andThen] at hr;generalize Sem.run P (nilAhead _ _ _ _) _=r2 at hr;cases r2 with
     | halt x w2=>simp at hr
     | ok q w2=>
      simp only at hr;split at hr
      ·simp[unsupported,Result.andThen] at hr
      ·simp at hr;exact⟨_,hr.1.symm⟩
   ·simp at hr;exact⟨_,hr.1.symm⟩
  ·simp at hr;exact⟨_,hr.1.symm⟩
 all_goals exact key _ hr
theorem vS{o:Oper}{v:Value}{a:Act}(hp:qJ o.op=true)(hy:YieldsIn P ops (fun _=>True) o v a):YieldsIf P ops (fun _=>True) o v a:=by
 rcases hy with ⟨hw,hv⟩ | hy
 ·refine .inl ⟨hw,fun w' _=> ?_⟩;have h3:=hv w' trivial;unfold Oper.quietAt at h3;generalize hr:(execOp a.eval o).run P w'=r at h3;cases r with
  | halt x w2=>simp only[Oper.quietUpon] at h3
  | ok n w2=>
   obtain⟨u,rfl⟩:=zf hp hr;simp only[Oper.quietUpon] at h3;rw[h3.1,h3.2]
 ·exact .inr hy
def nX(md:Region.Mode)(ops:Array Oper)(F:Array Bool->Bool):List Nat->Array Bool->Bool
 | [],listed=>F listed
 | k :: is,listed=>(Region.ready md ops listed).contains k && Region.free md ops listed k && ((ops[k]?).map (fun o=>qJ o.op) == some true) && nX md ops F is (listed.setIfInBounds k true)
def wV(md:Region.Mode)(ops:Array Oper):List Nat->Array Bool->Bool
 | [],listed=>(Region.ready md ops listed).isEmpty
 | k :: js,listed=>decide (Region.ready md ops listed=[k]) && decide (k<ops.size) && wV md ops js (listed.setIfInBounds k true)
def Io(md:Region.Mode)(ops:Array Oper)(is js:List Nat):Bool:=
 Region.noSelect ops && decide (is.length+js.length=ops.size) && nX md ops (wV md ops js) is (Array.replicate ops.size false)
def nth:List Oper->Nat->List Oper
 | [],_=>[]
 | o :: _,0=>[o]
 | _ :: l,k+1=>nth l k
def iJ(ops:List Oper):List Nat->List Oper
 | []=>[]
 | k :: is=>nth ops k++iJ ops is
theorem AU:∀ {l:List Oper} {k:Nat} {o:Oper},l[k]?=some o->nth l k=[o]
 | [],k,o,h=>by simp at h
 | _ :: _,0,o,h=>by simp at h;simp[nth,h]
 | _ :: l,k+1,o,h=>by simp only[nth];exact AU (by simpa using h)
theorem sH{Q:Exit->Act->World->Prop}{l:List Oper}:∀(js:List Nat) (listed:Array Bool) (a:Act) (w:World),wV md l.toArray js listed=true->
  wpList P l.toArray Q (iJ l js) a w->wpAny P md l.toArray Q js.length listed a w
 | [],_,_,_,hB,h=>⟨by simpa[wV] using hB,h⟩
 | k :: js,listed,a,w,hB,h=>by
  simp only[wV,Bool.and_eq_true,decide_eq_true_eq] at hB;obtain⟨⟨hr,hk⟩,G5⟩:=hB;have SL:k<l.length:=by simpa using hk
  have h0:l.toArray[k]?=some l[k]:=by simp[SL]
  have e:iJ l (k :: js)=l[k] :: iJ l js:=by simp[iJ,AU (show l[k]?=some l[k] by simp[SL])]
  rw[e] at h;refine⟨fun h1=>(by rw[hr] at h1;cases h1),fun i hi=> ?_⟩;rw[hr] at hi;have hik:i=k:=by simpa using hi
  subst hik;have hw:wpOp P l.toArray Q i (wpList P l.toArray Q (iJ l js)) a w:=by unfold wpOp;simp only[h0];exact h
  exact wpOp_mono (fun a' w' h'=>sH js _ a' w' G5 h') hw
theorem wO{Q:Exit->Act->World->Prop}{Lq:Act->Prop}{l:List Oper}{w:World}(F:Array Bool->Bool)(g:Nat)(hsel:Region.noSelect l.toArray=true)
  (hQ:∀c a a' w,Q (.panic c) a w->Q (.panic c) a' w) (hK:∀listed a,F listed=true->Lq a->wpAny P md l.toArray Q g listed a w):
  ∀(is:List Nat) (listed:Array Bool) (a:Act),nX md l.toArray F is listed=true->wpQuiet P l.toArray (fun _=>True) Lq (iJ l is) a->
   wpAnyH P md l.toArray Q (fun _=>True) (is.length+g) listed a w
 | [],listed,a,hB,h=>by
  simp only[List.length_nil,Nat.zero_add];exact tail.rU _ _ _ _ (hK _ _ (by simpa[nX] using hB) h)
 | k :: is,listed,a,hB,h=>by
  simp only[nX,Bool.and_eq_true] at hB;obtain⟨⟨⟨hr,hf⟩,hp⟩,G5⟩:=hB;have L6:(l.toArray[k]?).map (fun o=>qJ o.op)=some true:=by simpa using hp
  obtain⟨o,h0,ho⟩:=Option.map_eq_some_iff.1 L6;have GR:l[k]?=some o:=by simpa using h0
  have e:iJ l (k :: is)=o :: iJ l is:=by simp[iJ,AU GR]
  rw[e] at h;have hst:qOp P l.toArray (fun _=>True) k (wpQuiet P l.toArray (fun _=>True) Lq (iJ l is)) a:=by unfold qOp;simp only[h0];exact h
  obtain⟨v,hy,hK'⟩:=yieldsIn_of_qOp h0 hst;rw[show(k :: is).length+g=(is.length+g)+1 from by simp only[List.length_cons];omega];exact wpAnyH_take h0 hsel hf hr (fun c a w h=>hQ c _ _ w h) (vS ho hy) trivial (wO F g hsel hQ hK is _ _ G5 hK')
theorem region{id:Nat}{Q:Exit->Act->World->Prop}{a:Act}{w:World}{l:List Oper}(is js:List Nat)(hmx:P.follows .mixedOrders=true)(hB:Io .any l.toArray is js=true)
  (h:wpQuiet P l.toArray (fun _=>True) (fun a'=>wpList P l.toArray (NoPanic Q) (iJ l js) a' w.drew) (iJ l is) a):(Code.region id l.toArray true).wp P Q a w:=by
 simp only[Io,Bool.and_eq_true,decide_eq_true_eq] at hB;obtain⟨⟨hsel,hlen⟩,JV⟩:=hB;refine wp_region_noPanic (wp_region_held (S:=fun _=>True) hmx ?_);have key:=wO (md:=.any) (Q:=NoPanic Q) (w:={ w with drawn:=w.drawn+1}) (wV .any l.toArray js) js.length hsel (fun c a a' w h=>h)
  (fun listed a' hF hL=>sH js listed a' _ hF hL) is _ a JV h
 rwa [hlen] at key
end
end perm
theorem t68{P:Prop}(h:P:=by
 have e:l.toArray.size=l.length:=by simp
 rw[e];exact h):P:=h
namespace plan
open Go Go.RowKit
section
variable {P:Program} {md:Region.Mode} {Q:Exit->Act->World->Prop} {l:List Oper}
def Rest(P:Program)(md:Region.Mode)(l:List Oper)(Q:Exit->Act->World->Prop)(f:Nat)(listed:Array Bool)(a:Act)(w:World):Prop:=
 wpAnyH P md l.toArray (NoPanic Q) (Below w.heap.size w) f listed a w
theorem weaken{S S':World->Prop}(hS:∀w,S' w->S w):∀(f:Nat) (listed:Array Bool) (a:Act) (w:World),wpAnyH P md l.toArray Q S' f listed a w->wpAnyH P md l.toArray Q S f listed a w
 | 0,_,_,_,h=>h
 | f+1,_,_,_,h=>⟨h.1,fun i hi=>wpOp_mono (fun a' w' h'=>⟨hS _ h'.1,weaken hS f _ a' w' h'.2⟩) (h.2 i hi)⟩
theorem Rest.first{f:Nat}{listed:Array Bool}{a:Act}{w:World}(i:Nat)(o:Oper)(v:Value)(hi:l[i]?=some o)(hv:∀w',Below w.heap.size w w'->(execOp a.eval o).run P w'=.ok (.value v) w')
  (h:Rest P md l Q f (listed.setIfInBounds i true) (a.put o.dst v) w) (hs:Region.noSelect l.toArray=true:=by kernel_rfl) (hf:Region.free md l.toArray listed i=true:=by kernel_rfl) (hr:(Region.ready md l.toArray listed).contains i=true:=by kernel_rfl) (hw:Region.wanted o (yielded l.toArray a.tmps)=true:=by kernel_rfl):Rest P md l Q (f+1) listed a w:=
 wpAnyH_take (by simpa using hi) hs hf hr (fun c a' w' h=>h) (.inl ⟨hw,hv⟩) (Below.refl _ _) h
theorem Rest.value{f:Nat}{listed:Array Bool}{a:Act}{w:World}(i:Nat)(o:Oper)(v:Value)(hi:l[i]?=some o)
  (h:Rest P md l Q f (listed.setIfInBounds i true) (a.put o.dst v) w) (hr:Region.ready md l.toArray listed=[i]:=by kernel_rfl) (hw:Region.wanted o (yielded l.toArray a.tmps)=true:=by kernel_rfl) (hv:(execOp a.eval o).run P w=.ok (.value v) w:=by kernel_rfl):Rest P md l Q (f+1) listed a w:=by
 refine wpAnyH_all hr si_ fun j hj=> ?_
 obtain rfl:j=i:=by simpa using hj
 have hi':l.toArray[j]?=some o:=by simpa using hi
 unfold wpOp;simp only[hi',hw,if_true,Oper.wp,hv,Oper.upon_value];exact .inl ⟨Below.refl _ _,h⟩
theorem Rest.call{f:Nat}{listed:Array Bool}{a:Act}{w:World}(i:Nat)(o:Oper)(F:FuncId)(args:Array Value)(hi:l[i]?=some o)
  (h:Calls P F args w fun e w'=>∃v,e=.returned v/\Below w.heap.size w w'/\Rest P md l Q f (listed.setIfInBounds i true) (a.put o.dst v) w') (hr:Region.ready md l.toArray listed=[i]:=by kernel_rfl) (hw:Region.wanted o (yielded l.toArray a.tmps)=true:=by kernel_rfl) (hv:(execOp a.eval o).run P w=.ok (.enter F args) w:=by kernel_rfl):Rest P md l Q (f+1) listed a w:=by
 refine wpAnyH_all hr si_ fun j hj=> ?_
 obtain rfl:j=i:=by simpa using hj
 have hi':l.toArray[j]?=some o:=by simpa using hi
 unfold wpOp;simp only[hi',hw,if_true,Oper.wp,hv,Oper.upon];refine .inl (h.mono ?_);rintro e w' ⟨v,rfl,hb,hR⟩;exact⟨hb,weaken (fun w'' aJ=>hb.trans (aJ.mono hb.size)) _ _ _ _ hR⟩
theorem Rest.done{listed:Array Bool}{a:Act}{w:World}(h:Q .normal a w)(hr:Region.ready md l.toArray listed=[]:=by kernel_rfl):Rest P md l Q 0 listed a w:=⟨hr,NoPanic.normal h⟩
theorem jX{o:Oper}{a:Act}{w:World}{ty:TypeId}{x:Operand}{b:Nat}{cs:List Value}{d:TypeDesc}(ho:o.op=.load ty x)(hc:w.rangeAt b 0 cs)
  (hu:P.underlying ty=some d) (hd:d.isRow=true) (hi:(P.info? ty).map (·.size)=some cs.length) (hx:a.eval x=.pointer (some ⟨b,0,none⟩):=by kernel_rfl):(execOp a.eval o).run P w=.ok (.value (.agg cs.toArray)) w:=by
 unfold execOp;simp[ho,hx,run_loadAt_mid w b 0 ty cs d hc hu hd hi]
theorem region{id:Nat}{a:Act}{w:World}(hmx:P.follows .mixedOrders=true)(h:Rest P .any l Q l.length (Array.replicate l.length false) a w.drew):(Code.region id l.toArray true).wp P Q a w:=by
 refine wp_region_noPanic (wp_region_held (S:=Below w.drew.heap.size w.drew) hmx ?_)
 exact t68
end
end plan
namespace plan
open Go Go.RowKit
section
variable {P:Program} {md:Region.Mode} {Q:Exit->Act->World->Prop} {l:List Oper}
theorem Rest.skip{f:Nat}{listed:Array Bool}{a:Act}{w:World}(i:Nat)(o:Oper)(hi:l[i]?=some o)
  (h:Rest P md l Q f (listed.setIfInBounds i true) (a.put o.dst undef) w) (hs:Region.noSelect l.toArray=true:=by kernel_rfl) (hf:Region.free md l.toArray listed i=true:=by kernel_rfl) (hr:(Region.ready md l.toArray listed).contains i=true:=by kernel_rfl) (hw:Region.wanted o (yielded l.toArray a.tmps)=false:=by kernel_rfl):Rest P md l Q (f+1) listed a w:=
 wpAnyH_take (by simpa using hi) hs hf hr (fun c a' w' h=>h) (.inr ⟨hw,rfl⟩) (Below.refl _ _) h
end
end plan
end Go.Proofs.Ytogfefdlffmioaa
