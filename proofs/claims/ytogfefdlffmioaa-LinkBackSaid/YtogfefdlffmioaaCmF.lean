/- Contracts and lemmas that claims of this seat share: Arr, Append, Four, Drift, RegionS, PlanPair. Each says its own conditions. -/
import Derived.Test.YtogfefdlffmioaaCmWord
import Derived.Deep.MidRow
import Derived.Deep.WholeRow
import Derived.Laws.OwnMore
import Derived.Deep.Upon
import Derived.Test.YtogfefdlffmioaaCmA
import Derived.Test.YtogfefdlffmioaaCmE
set_option linter.unusedVariables false
namespace Go.Proofs.Ytogfefdlffmioaa
open Go.Proofs.Try
theorem t43{P:Prop}(h:P:=by
 simp only[results,h];simp at hp;simp[hp,asAddr,run_loadVar_mid w b o ty cs d hc hu hd hi]):P:=h
section
open Go.RowKit
def Block(w:World)(b:Nat)(t:TypeId)(cs:List Value):Prop:=w.heap[b]?=some (.cells cs.toArray t (0,0))
theorem Block.lt{w:World}{b:Nat}{t:TypeId}{cs:List Value}(h:Block w b t cs):b<w.heap.size:=(Array.getElem?_eq_some_iff.1 h).1
theorem Block.cell{w:World}{b:Nat}{t:TypeId}{cs:List Value}(h:Block w b t cs)(j:Nat):w.cell? ⟨b,j,none⟩=cs[j]?:=by
 rw[cell_of_row w b j cs.toArray t (0,0) h];simp
theorem Block.frozen{w:World}{b:Nat}{t:TypeId}{cs:List Value}(h:Block w b t cs)(j:Nat):w.frozen? ⟨b,j,none⟩=false:=frozen_of_row w b j cs.toArray t h
theorem Block.range{w:World}{b:Nat}{t:TypeId}{cs:List Value}(h:Block w b t cs)(o:Nat)(vs:List Value)(hv:∀j v,vs[j]?=some v->cs[o+j]?=some v):w.rangeAt b o vs:=
 fun j v hj=>by rw[h.cell];exact hv j v hj
theorem Block.whole{w:World}{b:Nat}{t:TypeId}{cs:List Value}(h:Block w b t cs):w.rangeAt b 0 cs:=h.range 0 cs (fun j v hj=>by rw[Nat.zero_add];exact hj)
theorem Block.there{w:World}{b:Nat}{t:TypeId}{cs:List Value}(h:Block w b t cs)(o n:Nat)(hn:o+n<=cs.length):w.there b o n:=
 fun j hj=>⟨by rw[h.cell,List.getElem?_eq_getElem om_];rfl,h.frozen _⟩
theorem Block.setCell{w:World}{b:Nat}{t:TypeId}{cs:List Value}(h:Block w b t cs)(j:Nat)(v:Value):Block (w.setCell ⟨b,j,none⟩ v) b t (cs.set j v):=by
 have:=heap_setCell_same w b j cs.toArray t v h;unfold Block;rw[this];simp
def put(cs:List Value):Nat->List Value->List Value
 | _,[]=>cs
 | o,v :: r=>put (cs.set o v) (o+1) r
theorem He(A X C Y:List Value)(h:X.length=Y.length):put (A++X++C) A.length Y=A++Y++C:=by
 induction Y generalizing A X with
 | nil=>obtain rfl:X=[]:=List.eq_nil_of_length_eq_zero (by simpa using h);rfl
 | cons y r ih=>
  cases X with
  | nil=>simp at h
  | cons x X=>
   have e:(A++x :: X++C).set A.length y=(A++[y])++X++C:=by simp
   have:=ih (A++[y]) X (by simpa using h);rw[put,e,show A.length+1=(A++[y]).length by simp,this];simp
theorem tJ(X Y:List Value)(h:X.length=Y.length):put X 0 Y=Y:=by
 have:=He [] X [] Y h;simpa using this
theorem Block.setCells{b:Nat}{t:TypeId}:∀ {vs:List Value} {o:Nat} {w:World} {cs:List Value},Block w b t cs->Block (w.setCells b o vs) b t (put cs o vs)
 | [],_,_,_,h=>h
 | v :: r,o,w,cs,h=>Block.setCells (vs:=r) (o:=o+1) (h.setCell o v)
theorem Block.alloc{w:World}{b:Nat}{t:TypeId}{cs:List Value}(h:Block w b t cs)(ob:Obj):Block (w.alloc ob) b t cs:=(Below.heap_alloc w ob b h.lt).trans h
theorem Block.new(w:World)(t:TypeId)(cs:List Value):Block (w.alloc (.cells cs.toArray t)) w.heap.size t cs:=heap_alloc_last w _
theorem Block.drewN{w:World}{b:Nat}{t:TypeId}{cs:List Value}(h:Block w b t cs)(n:Nat):Block (w.drewN n) b t cs:=h
theorem Block.below{w w':World}{b B:Nat}{t:TypeId}{cs:List Value}(h:Block w b t cs)(hb:Below B w w')(hB:b<B):Block w' b t cs:=(hb.block b hB).trans h
theorem Block.later{w w':World}{b:Nat}{t:TypeId}{cs:List Value}(h:Block w b t cs)(hb:Below w.heap.size w w'):Block w' b t cs:=h.below hb h.lt
theorem Block.apart{w:World}{b:Nat}{t:TypeId}{cs:List Value}(h:Block w b t cs)(g o:Nat)(v:Value)(hg:b≠g):Block (w.setCell ⟨g,o,none⟩ v) b t cs:=
 (Below.heap_setCell w ⟨g,o,none⟩ v b hg).trans h
theorem jI(g:Nat):∀(vs:List Value) (o:Nat) (w:World) (k:Nat),k≠g->(w.setCells g o vs).heap[k]?=w.heap[k]?
 | [],_,_,_,_=>rfl
 | v :: r,o,w,k,h=>(jI g r (o+1) _ k h).trans (Below.heap_setCell w ⟨g,o,none⟩ v k h)
theorem size_setCells(g:Nat):∀(vs:List Value) (o:Nat) (w:World),(w.setCells g o vs).heap.size=w.heap.size
 | [],_,_=>rfl
 | v :: r,o,w=>(size_setCells g r (o+1) _).trans si_
theorem gq(g:Nat):∀(vs:List Value) (o:Nat) (w:World),(w.setCells g o vs).os=w.os/\(w.setCells g o vs).tape=w.tape/\(w.setCells g o vs).output=w.output
 | [],_,_=>⟨rfl,rfl,rfl⟩
 | v :: r,o,w=>gq g r (o+1) (w.setCell ⟨g,o,none⟩ v)
theorem Block.IL{w:World}{b:Nat}{t:TypeId}{cs:List Value}(h:Block w b t cs)(g o:Nat)(vs:List Value)(hg:b≠g):Block (w.setCells g o vs) b t cs:=
 (jI g vs o w b hg).trans h
theorem below_setCells{B g:Nat}{a w:World}(h:Below B a w)(hg:B<=g)(o:Nat)(vs:List Value):Below B a (w.setCells g o vs):=
 h.trans ⟨(gq g vs o w).1,(gq g vs o w).2.1,(gq g vs o w).2.2,by rw[size_setCells];exact Nat.le_refl _,fun k hk=>jI g vs o w k om_⟩
theorem fU{fn:Func}{p:Tmp}{ty:TypeId}{tmps:Array Value}{P:Program}{w:World}{b o:Nat}{cs:List Value}{d:TypeDesc}(h:fn.results=#[.cell p ty])
  (hp:tmps.getD p undef=.pointer (some ⟨b,o,none⟩)) (hc:w.rangeAt b o cs) (hu:P.underlying ty=some d) (hd:d.isRow=true) (hi:(P.info? ty).map (·.size)=some cs.length):
  (results fn tmps).run P w=.ok (.agg cs.toArray) w:=by
 exact t43
theorem dL{w w':World}{base e size n:Nat}{v:Value}{xs:List Value}(h:w.ownsRow base e size v n xs)(hb:Below w.heap.size w w'):w'.ownsRow base e size v n xs:=by
 refine⟨h.1, ?_⟩;rcases h.2 with h0 | ⟨g,cap,cur,hv,h1,hg,h2,h3,h4,h5⟩
 ·exact .inl h0
 ·exact .inr ⟨g,cap,cur,hv,h1,(hb.block g (Array.getElem?_eq_some_iff.1 hg).1).trans hg,h2,h3,h4,h5⟩
def But(B g:Nat)(w w':World):Prop:=
 w'.os=w.os/\w'.tape=w.tape/\w'.output=w.output/\w.heap.size<=w'.heap.size/\∀k,k<B->k≠g->w'.heap[k]?=w.heap[k]?
theorem But.refl(B g:Nat)(w:World):But B g w w:=⟨rfl,rfl,rfl,Nat.le_refl _,fun _ _ _=>rfl⟩
theorem But.trans{B g:Nat}{a b c:World}(h:But B g a b)(k:But B g b c):But B g a c:=
 ⟨k.1.trans h.1,k.2.1.trans h.2.1,k.2.2.1.trans h.2.2.1,Nat.le_trans h.2.2.2.1 k.2.2.2.1,fun j h1 h2=>(k.2.2.2.2 j h1 h2).trans (h.2.2.2.2 j h1 h2)⟩
theorem Below.but{B g:Nat}{a b:World}(h:Below B a b):But B g a b:=⟨h.os,h.tape,h.output,h.size,fun k hk _=>h.block k hk⟩
theorem But.below{B B' g:Nat}{a b:World}(h:But B g a b)(hB:B'<=B)(hg:B'<=g):Below B' a b:=⟨h.1,h.2.1,h.2.2.1,h.2.2.2.1,fun k hk=>h.2.2.2.2 k om_ om_⟩
theorem But.mono{B B' g:Nat}{a b:World}(h:But B g a b)(hB:B'<=B):But B' g a b:=⟨h.1,h.2.1,h.2.2.1,h.2.2.2.1,fun k hk hg=>h.2.2.2.2 k om_ hg⟩
theorem But.setCells{B g:Nat}{a w:World}(h:But B g a w)(o:Nat)(vs:List Value):But B g a (w.setCells g o vs):=
 h.trans ⟨(gq g vs o w).1,(gq g vs o w).2.1,(gq g vs o w).2.2,by rw[size_setCells];exact Nat.le_refl _,fun k _ hg=>jI g vs o w k hg⟩
theorem But.setCell{B g:Nat}{a w:World}(h:But B g a w)(o:Nat)(v:Value):But B g a (w.setCell ⟨g,o,none⟩ v):=h.setCells o [v]
theorem But.step{B g:Nat}{a w w':World}(h:But B g a w)(k:Below w.heap.size w w')(hB:B<=w.heap.size):But B g a w':=h.trans (Below.but (k.mono hB))
theorem But.drewN{B g:Nat}{a w:World}(h:But B g a w)(n:Nat):But B g a (w.drewN n):=h
theorem Block.but{w w':World}{b B g:Nat}{t:TypeId}{cs:List Value}(h:Block w b t cs)(hb:But B g w w')(hB:b<B)(hg:b≠g):Block w' b t cs:=(hb.2.2.2.2 b hB hg).trans h
theorem Reads.but{k:IntKind}{w w':World}{b off len B g:Nat}{xs:List Nat}(h:Reads k w (some ⟨b,off,none⟩) len xs)(hb:But B g w w')(hB:b<B)(hg:b≠g):Reads k w' (some ⟨b,off,none⟩) len xs:=by
 refine⟨h.1, ?_⟩;rcases h.2 with h | ⟨b',off',ha,bI,hc⟩
 ·exact .inl h
 ·cases ha
  refine .inr ⟨b,off,rfl,Nat.lt_of_lt_of_le bI hb.2.2.2.1,fun i hi=> ?_⟩;rw[World.cell?_of_block (w:=w) (hb.2.2.2.2 b hB hg)];exact hc i hi
theorem Block.reads{k:IntKind}{w:World}{b:Nat}{t:TypeId}{cs:List Value}(h:Block w b t cs)(o:Nat)(xs:List Nat)(hx:∀i,i<xs.length->cs[o+i]?=some (.int k ((xs.getD i 0:Nat):Int)))(n:Nat)(hn:xs.length=n):Reads k w (some ⟨b,o,none⟩) n xs:=
 ⟨hn,.inr ⟨b,o,rfl,h.lt,fun i hi=>by rw[h.cell];exact hx i om_⟩⟩
end
section
open Go.RowKit
theorem bM{w w':World}{base e size n:Nat}{v:Value}{xs:List Value}(h:w.ownsRow base e size v n xs)(hh:∀g,v.ownBlock=some g->w'.heap[g]?=w.heap[g]?):w'.ownsRow base e size v n xs:=by
 refine⟨h.1, ?_⟩;rcases h.2 with h0 | ⟨g,cap,cur,hv,h1,hg,h2,h3,h4,h5⟩
 ·exact .inl h0
 ·exact .inr ⟨g,cap,cur,hv,h1,(hh g (by rw[hv];rfl)).trans hg,h2,h3,h4,h5⟩
theorem Ai(w:World)(row:Option Nat):w.grownBy w row:=⟨rfl,rfl,rfl,Nat.le_refl _,fun _ _ _=>rfl⟩
end
theorem t73{P:Prop}(h:P:=by
 unfold execOp;simp[ho,hx,hy,run_storeAt_mid w g 0 ty cells (hb.there 0 cells.size om_) hs h1]):P:=h
theorem t70{P:Prop}(h:P:=by
 have:=hB.lt;simp only[ne_eq,Value.pointer.injEq,Option.some.injEq,Addr.mk.injEq,and_true];omega):P:=h
namespace plan
open Go Go.RowKit
theorem qK(a:Act)(d:Nat)(u v:Value):(a.put (some d) u).put (some d) v=a.put (some d) v:=by
 simp[Act.put]
theorem put_comm(a:Act)(d e:Nat)(u v:Value)(h:d≠e):(a.put (some d) u).put (some e) v=(a.put (some e) v).put (some d) u:=by
 simp only[Act.put,Act.mk.injEq,and_true];exact Array.setIfInBounds_comm u v h
section
variable {P:Program} {md:Region.Mode} {Q:Exit->Act->World->Prop} {l:List Oper}
theorem every{S:World->Prop}{f:Nat}{listed:Array Bool}{a:Act}{w:World}(dR:Region.ready md l.toArray listed≠[])
  (h:∀i∈Region.ready md l.toArray listed,∃o,l[i]?=some o/\o.guard=none/\
   ((∃v w1,(execOp a.eval o).run P w=.ok (.value v) w1/\S w1/\wpAnyH P md l.toArray (NoPanic Q) S f (listed.setIfInBounds i true) (a.put o.dst v) w1)\/
    (∃F args,(execOp a.eval o).run P w=.ok (.enter F args) w/\Calls P F args w fun e w'=>∃v,e=.returned v/\S w'/\wpAnyH P md l.toArray (NoPanic Q) S f (listed.setIfInBounds i true) (a.put o.dst v) w'))):
  wpAnyH P md l.toArray (NoPanic Q) S (f+1) listed a w:=by
 refine wpAnyH_all rfl dR fun i hi=> ?_
 obtain⟨o,ho,hg,h⟩:=h i hi;have hi':l.toArray[i]?=some o:=by simpa using ho
 have hw:Region.wanted o (yielded l.toArray a.tmps)=true:=by unfold Region.wanted;rw[hg]
 unfold wpOp;rcases h with ⟨v,w1,hv,hb,hR⟩ | ⟨F,args,hv,hc⟩
 ·simp only[hi',hw,if_true,Oper.wp,hv,Oper.upon];exact .inl ⟨hb,hR⟩
 ·simp only[hi',hw,if_true,Oper.wp,hv,Oper.upon];refine .inl (hc.mono ?_);rintro e w' ⟨v,rfl,hb,hR⟩;exact⟨hb,hR⟩
theorem store{f:Nat}{listed:Array Bool}{a:Act}{w0 w:World}(B i:Nat)(o:Oper)(ty:TypeId)(x y:Operand)(g:Nat)(t:TypeId)(cs:List Value)(cells:Array Value)(hi:l[i]?=some o)(hg:o.guard=none)(ho:o.op=.store ty x y)(hd:o.dst=none)
  (hr:Region.ready md l.toArray listed=[i]) (hx:a.eval x=.pointer (some ⟨g,0,none⟩)) (hy:a.eval y=.agg cells) (hb:Block w g t cs) (hl:cs.length=cells.size) (hs:(P.info? ty).map (·.size)=some cells.size) (h1:cells.all (·.oneCell')=true)
  (h0:Below B w0 w) (hB:B<=g)
  (hS:∀w',Below B w0 w'->Block w' g t cells.toList->(∀g' t' cs',g'≠g->Block w g' t' cs'->Block w' g' t' cs')->wpAnyH P md l.toArray (NoPanic Q) (Below B w0) f (listed.setIfInBounds i true) a w'):
  wpAnyH P md l.toArray (NoPanic Q) (Below B w0) (f+1) listed a w:=by
 refine wpAnyH_all hr si_ fun j hj=> ?_
 obtain rfl:j=i:=by simpa using hj
 have hi':l.toArray[j]?=some o:=by simpa using hi
 have hw:Region.wanted o (yielded l.toArray a.tmps)=true:=by unfold Region.wanted;rw[hg]
 have Kr:(execOp a.eval o).run P w=.ok .skip (w.setCells g 0 cells.toList):=by
  exact t73
 have jV:Below B w0 (w.setCells g 0 cells.toList):=below_setCells h0 hB _ _;unfold wpOp;simp only[hi',hw,if_true,Oper.wp,Kr,Oper.upon];refine .inl ⟨jV, ?_⟩;rw[hd];refine hS _ jV ?_ fun g' t' cs' dR h'=>h'.IL g 0 _ dR
 have:=hb.setCells (vs:=cells.toList) (o:=0);rwa [tJ _ _ (by simpa using hl)] at this
def at4(a0:Act)(d2 d5 d6 d7:Nat)(v2 v5 p6 p7:Value):Act:=(((a0.put (some d2) v2).put (some d5) v5).put (some d6) p6).put (some d7) p7
structure Inv4 (w0:World) (t:TypeId) (Z:List Value) (V2 V5:Value) (b2 b5 b6 b7:Bool) (v2 v5 p6 p7:Value) (w:World):Prop where
 below:Below w0.heap.size w0 w
 c2:b2=true->v2=V2
 c5:b5=true->v5=V5
 a6:b6=true->∃g,p6=.pointer (some ⟨g,0,none⟩)/\w0.heap.size<=g/\Block w g t Z
 a7:b7=true->∃g,p7=.pointer (some ⟨g,0,none⟩)/\w0.heap.size<=g/\Block w g t Z
 ne:b6=true->b7=true->p6≠p7
theorem Inv4.later{w0 w w':World}{t:TypeId}{Z:List Value}{V2 V5:Value}{b2 b5 b6 b7:Bool}{v2 v5 p6 p7:Value}(h:Inv4 w0 t Z V2 V5 b2 b5 b6 b7 v2 v5 p6 p7 w)(hb:Below w.heap.size w w'):
  Inv4 w0 t Z V2 V5 b2 b5 b6 b7 v2 v5 p6 p7 w':=
 ⟨h.below.trans (hb.mono h.below.size),h.c2,h.c5,fun e=>(h.a6 e).imp fun g ⟨h1,h2,h3⟩=>⟨h1,h2,h3.later hb⟩,fun e=>(h.a7 e).imp fun g ⟨h1,h2,h3⟩=>⟨h1,h2,h3.later hb⟩,h.ne⟩
theorem four(a0:Act)(w0:World)(t:TypeId)(Z:List Value)(V2 V5:Value)(d2 d5 d6 d7:Nat)(o2 o5 o6 o7:Oper)(F:FuncId)(x2 x5:Array Value)
  (n25:d2≠d5) (n26:d2≠d6) (n27:d2≠d7) (n56:d5≠d6) (n57:d5≠d7) (n67:d6≠d7)
  (l2:l[2]?=some o2) (l5:l[5]?=some o5) (l6:l[6]?=some o6) (l7:l[7]?=some o7)
  (g2:o2.guard=none) (g5:o5.guard=none) (g6:o6.guard=none) (g7:o7.guard=none)
  (s2:o2.dst=some d2) (s5:o5.dst=some d5) (s6:o6.dst=some d6) (s7:o7.dst=some d7)
  (Kq:∀b2 b5 b6 b7,(b5=true->b2=true)->(b2 && b5 && b6 && b7)=false->
   Region.ready md l.toArray #[true,true,b2,true,true,b5,b6,b7,false,false]=(if b2=true then(if b5=true then [] else [5]) else [2])++((if b6=true then [] else [6])++(if b7=true then [] else [7])))
  (r2:∀v2 v5 p6 p7 w,(execOp (at4 a0 d2 d5 d6 d7 v2 v5 p6 p7).eval o2).run P w=.ok (.enter F x2) w)
  (r5:∀v2 v5 p6 p7 w,(execOp (at4 a0 d2 d5 d6 d7 v2 v5 p6 p7).eval o5).run P w=.ok (.enter F x5) w)
  (r6:∀v2 v5 p6 p7 w,(execOp (at4 a0 d2 d5 d6 d7 v2 v5 p6 p7).eval o6).run P w=.ok (.value (.pointer (some ⟨w.heap.size,0,none⟩))) (w.alloc (.cells Z.toArray t)))
  (r7:∀v2 v5 p6 p7 w,(execOp (at4 a0 d2 d5 d6 d7 v2 v5 p6 p7).eval o7).run P w=.ok (.value (.pointer (some ⟨w.heap.size,0,none⟩))) (w.alloc (.cells Z.toArray t)))
  (k2:∀w,Calls P F x2 w fun e w'=>e=.returned V2/\Below w.heap.size w w') (k5:∀w,Calls P F x5 w fun e w'=>e=.returned V5/\Below w.heap.size w w')
  (rest:∀g g' w',w0.heap.size<=g->w0.heap.size<=g'->g≠g'->Block w' g t Z->Block w' g' t Z->Below w0.heap.size w0 w'->
   wpAnyH P md l.toArray (NoPanic Q) (Below w0.heap.size w0) 2 #[true,true,true,true,true,true,true,true,false,false] (at4 a0 d2 d5 d6 d7 V2 V5 (.pointer (some ⟨g,0,none⟩)) (.pointer (some ⟨g',0,none⟩))) w'):
  ∀(n:Nat) (b2 b5 b6 b7:Bool) (v2 v5 p6 p7:Value) (w:World),(b5=true->b2=true)->n=(if b2=true then 0 else 1)+(if b5=true then 0 else 1)+(if b6=true then 0 else 1)+(if b7=true then 0 else 1)->
   Inv4 w0 t Z V2 V5 b2 b5 b6 b7 v2 v5 p6 p7 w->
   wpAnyH P md l.toArray (NoPanic Q) (Below w0.heap.size w0) (n+2) #[true,true,b2,true,true,b5,b6,b7,false,false] (at4 a0 d2 d5 d6 d7 v2 v5 p6 p7) w:=by
 have e2:∀v2 v5 p6 p7 v,(at4 a0 d2 d5 d6 d7 v2 v5 p6 p7).put (some d2) v=at4 a0 d2 d5 d6 d7 v v5 p6 p7:=by
  intro v2 v5 p6 p7 v;unfold at4;rw[put_comm _ d7 d2 _ _ n27.symm,put_comm _ d6 d2 _ _ n26.symm,put_comm _ d5 d2 _ _ n25.symm,qK]
 have e5:∀v2 v5 p6 p7 v,(at4 a0 d2 d5 d6 d7 v2 v5 p6 p7).put (some d5) v=at4 a0 d2 d5 d6 d7 v2 v p6 p7:=by
  intro v2 v5 p6 p7 v;unfold at4;rw[put_comm _ d7 d5 _ _ n57.symm,put_comm _ d6 d5 _ _ n56.symm,qK]
 have e6:∀v2 v5 p6 p7 v,(at4 a0 d2 d5 d6 d7 v2 v5 p6 p7).put (some d6) v=at4 a0 d2 d5 d6 d7 v2 v5 v p7:=by
  intro v2 v5 p6 p7 v;unfold at4;rw[put_comm _ d7 d6 _ _ n67.symm,qK]
 have e7:∀v2 v5 p6 p7 v,(at4 a0 d2 d5 d6 d7 v2 v5 p6 p7).put (some d7) v=at4 a0 d2 d5 d6 d7 v2 v5 p6 v:=by
  intro v2 v5 p6 p7 v;unfold at4;rw[qK]
 have hal:∀w:World,Below w.heap.size w (w.alloc (.cells Z.toArray t)):=fun w=>(Below.refl _ w).alloc (Nat.le_refl _) _
 intro n;induction n with
 | zero=>
  intro b2 b5 b6 b7 v2 v5 p6 p7 w KW hn inv;cases b2 <;> cases b5 <;> cases b6 <;> cases b7 <;> simp at hn
  obtain rfl:=inv.c2 rfl;obtain rfl:=inv.c5 rfl;obtain⟨g,rfl,hg,hB⟩:=inv.a6 rfl;obtain⟨g',rfl,hg',G5⟩:=inv.a7 rfl;exact rest g g' w hg hg' (by rintro rfl;exact inv.ne rfl rfl rfl) hB G5 inv.below
 | succ n ih=>
  intro b2 b5 b6 b7 v2 v5 p6 p7 w KW hn inv;have hall:(b2 && b5 && b6 && b7)=false:=by
   cases b2 <;> cases b5 <;> cases b6 <;> cases b7 <;> simp at hn ⊢
  have hr:=Kq b2 b5 b6 b7 KW hall;refine every ?_ ?_
  ·rw[hr];cases b2 <;> cases b5 <;> cases b6 <;> cases b7 <;> simp at hall ⊢
  ·rw[hr];intro i hi;simp only[List.mem_append] at hi;rcases hi with hi | hi | hi
   ·cases b2 with
    | false=>
     obtain rfl:i=2:=by simpa using hi
     obtain rfl:b5=false:=by cases b5 <;> simp at KW ⊢
     refine⟨o2,l2,g2,.inr ⟨F,x2,r2 _ _ _ _ _,(k2 w).mono ?_⟩⟩;rintro e w' ⟨rfl,hb⟩;refine⟨V2,rfl,(inv.later hb).below, ?_⟩;rw[s2,e2];have i':=inv.later hb;exact ih true false b6 b7 V2 v5 p6 p7 w' si_ (by simp at hn ⊢;omega) ⟨i'.below,fun _=>rfl,i'.c5,i'.a6,i'.a7,i'.ne⟩
    | true=>
     cases b5 with
     | true=>simp at hi
     | false=>
      obtain rfl:i=5:=by simpa using hi
      refine⟨o5,l5,g5,.inr ⟨F,x5,r5 _ _ _ _ _,(k5 w).mono ?_⟩⟩;rintro e w' ⟨rfl,hb⟩;refine⟨V5,rfl,(inv.later hb).below, ?_⟩;rw[s5,e5];have i':=inv.later hb;exact ih true true b6 b7 v2 V5 p6 p7 w' si_ (by simp at hn ⊢;omega) ⟨i'.below,i'.c2,fun _=>rfl,i'.a6,i'.a7,i'.ne⟩
   ·cases b6 with
    | true=>simp at hi
    | false=>
     obtain rfl:i=6:=by simpa using hi
     refine⟨o6,l6,g6,.inl ⟨_,_,r6 _ _ _ _ _,(inv.later (hal w)).below, ?_⟩⟩;rw[s6,e6];have i':=inv.later (hal w);refine ih b2 b5 true b7 v2 v5 _ p7 _ KW (by simp at hn ⊢;omega) ⟨i'.below,i'.c2,i'.c5,fun _=>⟨_,rfl,inv.below.size,Block.new w t Z⟩,i'.a7,fun _ e7=> ?_⟩;obtain⟨g,rfl,_,hB⟩:=inv.a7 e7
     exact t70
   ·cases b7 with
    | true=>simp at hi
    | false=>
     obtain rfl:i=7:=by simpa using hi
     refine⟨o7,l7,g7,.inl ⟨_,_,r7 _ _ _ _ _,(inv.later (hal w)).below, ?_⟩⟩;rw[s7,e7];have i':=inv.later (hal w);refine ih b2 b5 b6 true v2 v5 p6 _ _ KW (by simp at hn ⊢;omega) ⟨i'.below,i'.c2,i'.c5,i'.a6,fun _=>⟨_,rfl,inv.below.size,Block.new w t Z⟩,fun e6 _=> ?_⟩;obtain⟨g,rfl,_,hB⟩:=inv.a6 e6
     exact t70
end
end plan
namespace plan
open Go Go.RowKit
section
variable {P:Program} {md:Region.Mode} {Q:Exit->Act->World->Prop} {l:List Oper}
theorem Nl{S:World->Prop}{f:Nat}{listed:Array Bool}{a:Act}{w w1:World}(i:Nat)(o:Oper)(v:Value)(hi:l[i]?=some o)(hg:o.guard=none)(hS:S w1)(h:wpAnyH P md l.toArray (NoPanic Q) S f (listed.setIfInBounds i true) (a.put o.dst v) w1)(hr:Region.ready md l.toArray listed=[i]:=by kernel_rfl)(hv:(execOp a.eval o).run P w=.ok (.value v) w1:=by kernel_rfl):wpAnyH P md l.toArray (NoPanic Q) S (f+1) listed a w:=by
 refine every (by rw[hr];simp) fun j hj=> ?_
 rw[hr] at hj;obtain rfl:j=i:=by simpa using hj
 exact⟨o,hi,hg,.inl ⟨v,w1,hv,hS,h⟩⟩
theorem Es{S:World->Prop}{listed:Array Bool}{a:Act}{w:World}(h:Q .normal a w)(hr:Region.ready md l.toArray listed=[]:=by kernel_rfl):wpAnyH P md l.toArray (NoPanic Q) S 0 listed a w:=⟨hr,NoPanic.normal h⟩
end
end plan
namespace plan
open Go Go.RowKit
section
variable {P:Program} {md:Region.Mode} {Q:Exit->Act->World->Prop} {l:List Oper}
theorem gm{S:World->Prop}{f:Nat}{listed:Array Bool}{a:Act}{w:World}(i:Nat)(o:Oper)(v:Value)(hi:l[i]?=some o)(hv:∀w',S w'->(execOp a.eval o).run P w'=.ok (.value v) w')(hS:S w)
  (h:wpAnyH P md l.toArray (NoPanic Q) S f (listed.setIfInBounds i true) (a.put o.dst v) w) (hs:Region.noSelect l.toArray=true:=by kernel_rfl) (hf:Region.free md l.toArray listed i=true:=by kernel_rfl) (hr:(Region.ready md l.toArray listed).contains i=true:=by kernel_rfl) (hw:Region.wanted o (yielded l.toArray a.tmps)=true:=by kernel_rfl):wpAnyH P md l.toArray (NoPanic Q) S (f+1) listed a w:=
 wpAnyH_take (by simpa using hi) hs hf hr (fun c a' w' h=>h) (.inl ⟨hw,hv⟩) hS h
theorem En{S:World->Prop}{f:Nat}{listed:Array Bool}{a:Act}{w:World}(i:Nat)(o:Oper)(F:FuncId)(args:Array Value)(hi:l[i]?=some o)
  (h:Calls P F args w fun e w'=>∃v,e=.returned v/\S w'/\wpAnyH P md l.toArray (NoPanic Q) S f (listed.setIfInBounds i true) (a.put o.dst v) w') (hr:Region.ready md l.toArray listed=[i]:=by kernel_rfl) (hw:Region.wanted o (yielded l.toArray a.tmps)=true:=by kernel_rfl) (hv:(execOp a.eval o).run P w=.ok (.enter F args) w:=by kernel_rfl):wpAnyH P md l.toArray (NoPanic Q) S (f+1) listed a w:=by
 refine wpAnyH_all hr si_ fun j hj=> ?_
 obtain rfl:j=i:=by simpa using hj
 have hi':l.toArray[j]?=some o:=by simpa using hi
 unfold wpOp;simp only[hi',hw,if_true,Oper.wp,hv,Oper.upon];refine .inl (h.mono ?_);rintro e w' ⟨v,rfl,hS,hR⟩;exact⟨hS,hR⟩
theorem xY{S:World->Prop}{id:Nat}{a:Act}{w:World}(h:wpAnyH P .any l.toArray (NoPanic Q) S l.length (Array.replicate l.length false) a w.drew)(hmx:P.follows .mixedOrders=true:=by kernel_rfl):(Code.region id l.toArray true).wp P Q a w:=by
 refine wp_region_noPanic (wp_region_held (S:=S) hmx ?_)
 exact t68
end
end plan
namespace plan
open Go Go.RowKit
section
variable {P:Program} {md:Region.Mode} {Q:Exit->Act->World->Prop} {l:List Oper}
theorem kH{o:Oper}{a:Act}{w:World}{ty:TypeId}{x y:Operand}{g:Nat}{t:TypeId}{cs:List Value}{cells:Array Value}(ho:o.op=.store ty x y)
  (hb:Block w g t cs) (hl:cs.length=cells.size) (hs:(P.info? ty).map (·.size)=some cells.size) (h1:cells.all (·.oneCell')=true) (hx:a.eval x=.pointer (some ⟨g,0,none⟩):=by kernel_rfl) (hy:a.eval y=.agg cells:=by kernel_rfl):(execOp a.eval o).run P w=.ok .skip (w.setCells g 0 cells.toList):=by
 exact t73
end
end plan
end Go.Proofs.Ytogfefdlffmioaa
