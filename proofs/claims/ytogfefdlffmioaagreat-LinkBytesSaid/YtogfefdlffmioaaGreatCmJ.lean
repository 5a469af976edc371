/- Contracts and lemmas that claims of this seat share: Perm, Plan, PlanMore, Line, Sym. Each says its own conditions. -/
import Derived.Test.YtogfefdlffmioaaGreatCmWord
import Derived.Deep.MidRow
import Derived.Laws.StructEq
import Derived.Below
import Derived.Test.YtogfefdlffmioaaGreatCmD
set_option linter.unusedVariables false
namespace Go.Proofs.YtogfefdlffmioaaGreat
open Go.Proofs.Tryz
namespace perm
open Go
section
variable {P:Program} {ops:Array Oper} {md:Region.Mode}
def plainOp:Op->Bool
 | .move _ | .assign _ | .load _ _ | .binOp .. | .unOp .. | .slice .. | .fieldAddr .. | .indexAddr .. | .index .. | .extract .. | .convert .. =>true
 | .nilCheck _=>true
 | _=>false
theorem plain_value{ρ:Operand->Value}{o:Oper}{w w':World}{n:Next}(h:plainOp o.op=true)(hr:(execOp ρ o).run P w=.ok n w'):∃u,n=.value u:=by
 have key:∀(s:Sem Value),(do let x <-s;pure (Next.value x):Sem Next).run P w=.ok n w'->∃u,n=.value u:=fun s hs=>by
  rw[Sem.run_bind] at hs;cases hq:s.run P w with
  | ok u w1=>rw[hq] at hs;simp[Result.andThen] at hs;exact⟨u,hs.1.symm⟩
  | halt x w1=>rw[hq] at hs;simp[Result.andThen] at hs
 unfold execOp at hr;cases ho:o.op <;> rw[ho] at h hr <;> simp only[plainOp] at h <;> try cases h
 case move x=>simp at hr;exact⟨_,hr.1.symm⟩
 case assign x=>simp at hr;exact⟨_,hr.1.symm⟩
 case nilCheck x=>
  dsimp only at hr;split at hr
  ·simp[runtimePanic,Sem.run_bind,Result.andThen] at hr
  ·simp[runtimePanic] at hr
  ·simp[runtimePanic] at hr
  ·split at hr
   ·simp[runtimePanic] at hr
   ·simp only[Sem.run_bind] at hr;generalize Sem.run P program _=r1 at hr;cases r1 with
    | halt x w1=>simp[Result.andThen] at hr
    | ok p w1=>
     simp only[Result.andThen] at hr;generalize Sem.run P (nilAhead _ _ _ _) _=r2 at hr;cases r2 with
     | halt x w2=>simp at hr
     | ok q w2=>
      simp only at hr;split at hr
      ·simp[unsupported,Result.andThen] at hr
      ·simp at hr;exact⟨_,hr.1.symm⟩
   ·simp at hr;exact⟨_,hr.1.symm⟩
  ·simp at hr;exact⟨_,hr.1.symm⟩
 all_goals exact key _ hr
theorem yieldsIf_of_in{o:Oper}{v:Value}{a:Act}(hp:plainOp o.op=true)(hy:YieldsIn P ops (fun _=>True) o v a):YieldsIf P ops (fun _=>True) o v a:=by
 rcases hy with ⟨hw,hv⟩ | hy
 ·refine .inl ⟨hw,fun w' _=> ?_⟩;have h3:=hv w' trivial;unfold Oper.quietAt at h3;generalize hr:(execOp a.eval o).run P w'=r at h3;cases r with
  | halt x w2=>simp only[Oper.quietUpon] at h3
  | ok n w2=>
   obtain⟨u,rfl⟩:=plain_value hp hr;simp only[Oper.quietUpon] at h3;rw[h3.1,h3.2]
 ·exact .inr hy
def lexFirst(md:Region.Mode)(ops:Array Oper)(F:Array Bool->Bool):List Nat->Array Bool->Bool
 | [],listed=>F listed
 | k :: is,listed=>(Region.ready md ops listed).contains k && Region.free md ops listed k && ((ops[k]?).map (fun o=>plainOp o.op) == some true) && lexFirst md ops F is (listed.setIfInBounds k true)
def seqOf(md:Region.Mode)(ops:Array Oper):List Nat->Array Bool->Bool
 | [],listed=>(Region.ready md ops listed).isEmpty
 | k :: js,listed=>decide (Region.ready md ops listed=[k]) && decide (k<ops.size) && seqOf md ops js (listed.setIfInBounds k true)
def permB(md:Region.Mode)(ops:Array Oper)(is js:List Nat):Bool:=
 Region.noSelect ops && decide (is.length+js.length=ops.size) && lexFirst md ops (seqOf md ops js) is (Array.replicate ops.size false)
def nth:List Oper->Nat->List Oper
 | [],_=>[]
 | o :: _,0=>[o]
 | _ :: l,k+1=>nth l k
def pickOps(ops:List Oper):List Nat->List Oper
 | []=>[]
 | k :: is=>nth ops k++pickOps ops is
theorem nth_of:∀ {l:List Oper} {k:Nat} {o:Oper},l[k]?=some o->nth l k=[o]
 | [],k,o,h=>by simp at h
 | _ :: _,0,o,h=>by simp at h;simp[nth,h]
 | _ :: l,k+1,o,h=>by simp only[nth];exact nth_of (by simpa using h)
theorem wpAny_seqOf{Q:Exit->Act->World->Prop}{l:List Oper}:∀(js:List Nat) (listed:Array Bool) (a:Act) (w:World),seqOf md l.toArray js listed=true->
  wpList P l.toArray Q (pickOps l js) a w->wpAny P md l.toArray Q js.length listed a w
 | [],_,_,_,hB,h=>⟨by simpa[seqOf] using hB,h⟩
 | k :: js,listed,a,w,hB,h=>by
  simp only[seqOf,Bool.and_eq_true,decide_eq_true_eq] at hB;obtain⟨⟨hr,hk⟩,iO⟩:=hB;have qA:k<l.length:=by simpa using hk
  have h0:l.toArray[k]?=some l[k]:=by simp[qA]
  have e:pickOps l (k :: js)=l[k] :: pickOps l js:=by simp[pickOps,nth_of (show l[k]?=some l[k] by simp[qA])]
  rw[e] at h;refine⟨fun h1=>(by rw[hr] at h1;cases h1),fun i hi=> ?_⟩;rw[hr] at hi;have hik:i=k:=by simpa using hi
  subst hik;have hw:wpOp P l.toArray Q i (wpList P l.toArray Q (pickOps l js)) a w:=by unfold wpOp;simp only[h0];exact h
  exact wpOp_mono (fun a' w' h'=>wpAny_seqOf js _ a' w' iO h') hw
theorem first_ops{Q:Exit->Act->World->Prop}{Lq:Act->Prop}{l:List Oper}{w:World}(F:Array Bool->Bool)(g:Nat)(hsel:Region.noSelect l.toArray=true)
  (hQ:∀c a a' w,Q (.panic c) a w->Q (.panic c) a' w) (hK:∀listed a,F listed=true->Lq a->wpAny P md l.toArray Q g listed a w):
  ∀(is:List Nat) (listed:Array Bool) (a:Act),lexFirst md l.toArray F is listed=true->wpQuiet P l.toArray (fun _=>True) Lq (pickOps l is) a->
   wpAnyH P md l.toArray Q (fun _=>True) (is.length+g) listed a w
 | [],listed,a,hB,h=>by
  simp only[List.length_nil,Nat.zero_add];exact tail.held_of_any _ _ _ _ (hK _ _ (by simpa[lexFirst] using hB) h)
 | k :: is,listed,a,hB,h=>by
  simp only[lexFirst,Bool.and_eq_true] at hB;obtain⟨⟨⟨hr,hf⟩,hp⟩,iO⟩:=hB;have rF:(l.toArray[k]?).map (fun o=>plainOp o.op)=some true:=by simpa using hp
  obtain⟨o,h0,ho⟩:=Option.map_eq_some_iff.1 rF;have kD:l[k]?=some o:=by simpa using h0
  have e:pickOps l (k :: is)=o :: pickOps l is:=by simp[pickOps,nth_of kD]
  rw[e] at h;have hst:qOp P l.toArray (fun _=>True) k (wpQuiet P l.toArray (fun _=>True) Lq (pickOps l is)) a:=by unfold qOp;simp only[h0];exact h
  obtain⟨v,hy,hK'⟩:=yieldsIn_of_qOp h0 hst;rw[show(k :: is).length+g=(is.length+g)+1 from by simp only[List.length_cons];omega];exact wpAnyH_take h0 hsel hf hr (fun c a w h=>hQ c _ _ w h) (yieldsIf_of_in ho hy) trivial (first_ops F g hsel hQ hK is _ _ iO hK')
theorem region{id:Nat}{Q:Exit->Act->World->Prop}{a:Act}{w:World}{l:List Oper}(is js:List Nat)(hmx:P.follows .mixedOrders=true)(hB:permB .any l.toArray is js=true)
  (h:wpQuiet P l.toArray (fun _=>True) (fun a'=>wpList P l.toArray (NoPanic Q) (pickOps l js) a' w.drew) (pickOps l is) a):(Code.region id l.toArray true).wp P Q a w:=by
 simp only[permB,Bool.and_eq_true,decide_eq_true_eq] at hB;obtain⟨⟨hsel,hlen⟩,lT⟩:=hB;refine wp_region_noPanic (wp_region_held (S:=fun _=>True) hmx ?_);have key:=first_ops (md:=.any) (Q:=NoPanic Q) (w:={ w with drawn:=w.drawn+1}) (seqOf .any l.toArray js) js.length hsel (fun c a a' w h=>h)
  (fun listed a' hF hL=>wpAny_seqOf js listed a' _ hF hL) is _ a lT h
 rwa [hlen] at key
end
end perm
theorem t78{P:Prop}(h:P:=by
 have e:l.toArray.size=l.length:=by simp
 rw[e];exact h):P:=h
namespace plan
open Go Go.RowKit
section
variable {P:Program} {md:Region.Mode} {Q:Exit->Act->World->Prop} {l:List Oper}
def Rest(P:Program)(md:Region.Mode)(l:List Oper)(Q:Exit->Act->World->Prop)(f:Nat)(listed:Array Bool)(a:Act)(w:World):Prop:=
 wpAnyH P md l.toArray (NoPanic Q) (Below w.heap.size w) f listed a w
theorem weaken{S S':World->Prop}(hS:∀w,S' w->S w):∀(f:Nat) (listed:Array Bool) (a:Act) (w:World),wpAnyH P md l.toArray Q S' f listed a w->wpAnyH P md l.toArray Q S f listed a w
 | 0,_,_,_,h=>h
 | f+1,_,_,_,h=>⟨h.1,fun i hi=>wpOp_mono (fun a' w' h'=>⟨hS _ h'.1,weaken hS f _ a' w' h'.2⟩) (h.2 i hi)⟩
theorem Rest.first{f:Nat}{listed:Array Bool}{a:Act}{w:World}(i:Nat)(o:Oper)(v:Value)(hi:l[i]?=some o)(hv:∀w',Below w.heap.size w w'->(execOp a.eval o).run P w'=.ok (.value v) w')
  (h:Rest P md l Q f (listed.setIfInBounds i true) (a.put o.dst v) w) (hs:Region.noSelect l.toArray=true:=by kernel_rfl) (hf:Region.free md l.toArray listed i=true:=by kernel_rfl) (hr:(Region.ready md l.toArray listed).contains i=true:=by kernel_rfl) (hw:Region.wanted o (yielded l.toArray a.tmps)=true:=by kernel_rfl):Rest P md l Q (f+1) listed a w:=
 wpAnyH_take (by simpa using hi) hs hf hr (fun c a' w' h=>h) (.inl ⟨hw,hv⟩) (Below.refl _ _) h
theorem Rest.value{f:Nat}{listed:Array Bool}{a:Act}{w:World}(i:Nat)(o:Oper)(v:Value)(hi:l[i]?=some o)
  (h:Rest P md l Q f (listed.setIfInBounds i true) (a.put o.dst v) w) (hr:Region.ready md l.toArray listed=[i]:=by kernel_rfl) (hw:Region.wanted o (yielded l.toArray a.tmps)=true:=by kernel_rfl) (hv:(execOp a.eval o).run P w=.ok (.value v) w:=by kernel_rfl):Rest P md l Q (f+1) listed a w:=by
 refine wpAnyH_all hr si_ fun j hj=> ?_
 obtain rfl:j=i:=by simpa using hj
 have hi':l.toArray[j]?=some o:=by simpa using hi
 unfold wpOp;simp only[hi',hw,if_true,Oper.wp,hv,Oper.upon_value];exact .inl ⟨Below.refl _ _,h⟩
theorem Rest.call{f:Nat}{listed:Array Bool}{a:Act}{w:World}(i:Nat)(o:Oper)(F:FuncId)(args:Array Value)(hi:l[i]?=some o)
  (h:Calls P F args w fun e w'=>∃v,e=.returned v/\Below w.heap.size w w'/\Rest P md l Q f (listed.setIfInBounds i true) (a.put o.dst v) w') (hr:Region.ready md l.toArray listed=[i]:=by kernel_rfl) (hw:Region.wanted o (yielded l.toArray a.tmps)=true:=by kernel_rfl) (hv:(execOp a.eval o).run P w=.ok (.enter F args) w:=by kernel_rfl):Rest P md l Q (f+1) listed a w:=by
 refine wpAnyH_all hr si_ fun j hj=> ?_
 obtain rfl:j=i:=by simpa using hj
 have hi':l.toArray[j]?=some o:=by simpa using hi
 unfold wpOp;simp only[hi',hw,if_true,Oper.wp,hv,Oper.upon];refine .inl (h.mono ?_);rintro e w' ⟨v,rfl,hb,hR⟩;exact⟨hb,weaken (fun w'' af=>hb.trans (af.mono hb.size)) _ _ _ _ hR⟩
theorem Rest.done{listed:Array Bool}{a:Act}{w:World}(h:Q .normal a w)(hr:Region.ready md l.toArray listed=[]:=by kernel_rfl):Rest P md l Q 0 listed a w:=⟨hr,NoPanic.normal h⟩
theorem exec_load{o:Oper}{a:Act}{w:World}{ty:TypeId}{x:Operand}{b:Nat}{cs:List Value}{d:TypeDesc}(ho:o.op=.load ty x)(hc:w.rangeAt b 0 cs)
  (hu:P.underlying ty=some d) (hd:d.isRow=true) (hi:(P.info? ty).map (·.size)=some cs.length) (hx:a.eval x=.pointer (some ⟨b,0,none⟩):=by kernel_rfl):(execOp a.eval o).run P w=.ok (.value (.agg cs.toArray)) w:=by
 unfold execOp;simp[ho,hx,run_loadAt_mid w b 0 ty cs d hc hu hd hi]
theorem exec_convert{o:Oper}{a:Act}{w:World}{s d:TypeId}{x:Operand}{v u:Value}(ho:o.op=.convert s d x)(hr:(convert s d v).run P w=.ok u w)(hx:a.eval x=v:=by kernel_rfl):(execOp a.eval o).run P w=.ok (.value u) w:=by
 unfold execOp;simp[ho,hx,hr]
theorem region{id:Nat}{a:Act}{w:World}(hmx:P.follows .mixedOrders=true)(h:Rest P .any l Q l.length (Array.replicate l.length false) a w.drew):(Code.region id l.toArray true).wp P Q a w:=by
 refine wp_region_noPanic (wp_region_held (S:=Below w.drew.heap.size w.drew) hmx ?_)
 exact t78
end
end plan
namespace plan
open Go Go.RowKit
section
variable {P:Program} {md:Region.Mode} {Q:Exit->Act->World->Prop} {l:List Oper}
theorem Rest.skip{f:Nat}{listed:Array Bool}{a:Act}{w:World}(i:Nat)(o:Oper)(hi:l[i]?=some o)
  (h:Rest P md l Q f (listed.setIfInBounds i true) (a.put o.dst undef) w) (hs:Region.noSelect l.toArray=true:=by kernel_rfl) (hf:Region.free md l.toArray listed i=true:=by kernel_rfl) (hr:(Region.ready md l.toArray listed).contains i=true:=by kernel_rfl) (hw:Region.wanted o (yielded l.toArray a.tmps)=false:=by kernel_rfl):Rest P md l Q (f+1) listed a w:=
 wpAnyH_take (by simpa using hi) hs hf hr (fun c a' w' h=>h) (.inr ⟨hw,rfl⟩) (Below.refl _ _) h
end
end plan
namespace plan
open Go Go.RowKit
structure Line (P:Program) (l:List Oper) (Q:Exit->Act->World->Prop) (i:Nat) (a:Act) (w:World):Prop where
 out:wpList P l.toArray Q (l.drop i) a w
section
variable {P:Program} {l:List Oper} {Q:Exit->Act->World->Prop} {a:Act} {w:World}
theorem line{id:Nat}(h:Line P l Q 0 a w):(Code.region id l.toArray false).wp P Q a w:=wp_region_lit h.out
theorem line_value{w1:World}(i:Nat)(o:Oper)(v:Value)(hi:l[i]?=some o)(hw:Region.wanted o (yielded l.toArray a.tmps)=true)(hv:(execOp a.eval o).run P w=.ok (.value v) w1)(h:Line P l Q (i+1) (a.put o.dst v) w1):Line P l Q i a w:=by
 have hk:=(List.getElem?_eq_some_iff.1 hi).1;have he:=(List.getElem?_eq_some_iff.1 hi).2;replace h:=h.out;refine⟨?_⟩;rw[List.drop_eq_getElem_cons hk,he];unfold wpList;rw[if_pos hw];refine .inl ?_;unfold Oper.wp;rw[hv,Oper.upon_value];exact h
theorem line_same(i:Nat)(o:Oper)(v:Value)(hi:l[i]?=some o)(h:Line P l Q (i+1) (a.put o.dst v) w)(hw:Region.wanted o (yielded l.toArray a.tmps)=true:=by kernel_rfl)(hv:(execOp a.eval o).run P w=.ok (.value v) w:=by kernel_rfl):Line P l Q i a w:=line_value i o v hi hw hv h
theorem line_skip(i:Nat)(o:Oper)(hi:l[i]?=some o)(h:Line P l Q (i+1) (a.put o.dst undef) w)(hw:Region.wanted o (yielded l.toArray a.tmps)=false:=by kernel_rfl):Line P l Q i a w:=by
 have hk:=(List.getElem?_eq_some_iff.1 hi).1;have he:=(List.getElem?_eq_some_iff.1 hi).2;replace h:=h.out;refine⟨?_⟩;rw[List.drop_eq_getElem_cons hk,he];unfold wpList;rw[if_neg (by rw[hw];simp)];exact h
theorem line_call(i:Nat)(o:Oper)(F:FuncId)(args:Array Value)(hi:l[i]?=some o)(hw:Region.wanted o (yielded l.toArray a.tmps)=true)(hv:(execOp a.eval o).run P w=.ok (.enter F args) w)(h:Calls P F args w fun e w'=>∃v,e=.returned v/\Line P l Q (i+1) (a.put o.dst v) w'):Line P l Q i a w:=by
 have hk:=(List.getElem?_eq_some_iff.1 hi).1;have he:=(List.getElem?_eq_some_iff.1 hi).2;refine⟨?_⟩;rw[List.drop_eq_getElem_cons hk,he];unfold wpList;rw[if_pos hw];refine .inl ?_;unfold Oper.wp;rw[hv];simp only[Oper.upon];refine h.mono ?_;rintro e w' ⟨v,rfl,hR⟩;exact hR.out
theorem line_done{n:Nat}(hn:l.length<=n)(h:Q .normal a w):Line P l Q n a w:=by
 refine⟨?_⟩;rw[List.drop_of_length_le hn];exact h
end
end plan
namespace plan
open Go Go.RowKit
def gate(x:Value)(want:Bool):Bool:=(match x with | .bool b=>some b | _=>none:Option Bool) == some want
theorem gate_iff{x:Value}{want:Bool}:gate x want=true↔x=.bool want:=by
 unfold gate;cases x <;> simp
theorem wanted_gate{o:Oper}{ops:Array Oper}{tmps:Array Value}{j:Nat}{want:Bool}{x:Value}(hg:o.guard=some (j,want))(hj:((ops[j]?).bind (·.dst)).bind (tmps[·]?)=some x):Region.wanted o (yielded ops tmps)=gate x want:=by
 unfold Region.wanted yielded gate;rw[hg];simp only[hj];cases x <;> rfl
section
variable {P:Program} {l:List Oper} {Q:Exit->Act->World->Prop} {a:Act} {w:World}
theorem sym_op(i j:Nat)(o:Oper)(want:Bool)(x v:Value)(hi:l[i]?=some o)(hg:o.guard=some (j,want))
  (hv:x=.bool want->(execOp a.eval o).run P w=.ok (.value v) w) (h:∀y,(x=.bool want->y=v)->Line P l Q (i+1) (a.put o.dst y) w) (hj:((l.toArray[j]?).bind (·.dst)).bind (a.tmps[·]?)=some x:=by kernel_rfl):Line P l Q i a w:=by
 by_cases hb:gate x want=true
 ·exact line_same i o v hi (hw:=((wanted_gate hg hj).trans hb)) (hv:=(hv (gate_iff.1 hb))) (h v (fun _=>rfl))
 ·exact line_skip i o hi (hw:=((wanted_gate hg hj).trans (by simpa using hb))) (h undef (fun e=>absurd (gate_iff.2 e) hb))
theorem sym_call(i j:Nat)(o:Oper)(want:Bool)(x v:Value)(F:FuncId)(args:Array Value)(S:World->Prop)(hi:l[i]?=some o)(hg:o.guard=some (j,want))(hS:S w)
  (hv:x=.bool want->(execOp a.eval o).run P w=.ok (.enter F args) w) (hC:x=.bool want->Calls P F args w fun e w'=>e=.returned v/\S w') (h:∀y w',S w'->(x=.bool want->y=v)->Line P l Q (i+1) (a.put o.dst y) w') (hj:((l.toArray[j]?).bind (·.dst)).bind (a.tmps[·]?)=some x:=by kernel_rfl):Line P l Q i a w:=by
 by_cases hb:gate x want=true
 ·refine line_call i o F args hi ((wanted_gate hg hj).trans hb) (hv (gate_iff.1 hb)) ((hC (gate_iff.1 hb)).mono ?_);rintro e w' ⟨rfl,aJ⟩;exact⟨v,rfl,h v w' aJ (fun _=>rfl)⟩
 ·exact line_skip i o hi (hw:=((wanted_gate hg hj).trans (by simpa using hb))) (h undef w hS (fun e=>absurd (gate_iff.2 e) hb))
theorem call_S(i:Nat)(o:Oper)(v:Value)(F:FuncId)(args:Array Value)(S:World->Prop)(hi:l[i]?=some o)(hC:Calls P F args w fun e w'=>e=.returned v/\S w')(h:∀w',S w'->Line P l Q (i+1) (a.put o.dst v) w')(hw:Region.wanted o (yielded l.toArray a.tmps)=true:=by kernel_rfl)(hv:(execOp a.eval o).run P w=.ok (.enter F args) w:=by kernel_rfl):Line P l Q i a w:=by
 refine line_call i o F args hi hw hv (hC.mono ?_);rintro e w' ⟨rfl,aJ⟩;exact⟨v,rfl,h w' aJ⟩
theorem exec_pick_or{o:Oper}{x y:Operand}{c e:Bool}(ho:o.op=.pick x (.const (.bool true)) y)(hy:c=false->a.eval y=.bool e)(hx:a.eval x=.bool c:=by kernel_rfl):(execOp a.eval o).run P w=.ok (.value (.bool (c || e))) w:=by
 unfold execOp;rw[ho];cases c
 ·simp only[hx,hy rfl];go_simp
 ·simp only[hx];go_simp
theorem exec_pick_and{o:Oper}{x y:Operand}{c e:Bool}(ho:o.op=.pick x y (.const (.bool false)))(hy:c=true->a.eval y=.bool e)(hx:a.eval x=.bool c:=by kernel_rfl):(execOp a.eval o).run P w=.ok (.value (.bool (c && e))) w:=by
 unfold execOp;rw[ho];cases c
 ·simp only[hx];go_simp
 ·simp only[hx,hy rfl];go_simp
theorem exec_as{o:Oper}{c e:Bool}(h:(execOp a.eval o).run P w=.ok (.value (.bool c)) w)(he:c=e):(execOp a.eval o).run P w=.ok (.value (.bool e)) w:=he ▸ h
theorem exec_assign_b{o:Oper}{x:Operand}{c e:Bool}(ho:o.op=.assign x)(he:c=e)(hx:a.eval x=.bool c:=by kernel_rfl):(execOp a.eval o).run P w=.ok (.value (.bool e)) w:=by
 unfold execOp;rw[ho];simp only[hx,he];go_simp
end
end plan
end Go.Proofs.YtogfefdlffmioaaGreat
