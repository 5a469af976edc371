/- Contracts and lemmas that claims of this seat share: Tail, Arr, ItemOpen, Perm, Plan, Four, PlanMore, Line, Sym, Cut, WholeShelf. Each says its own conditions. -/
import Derived.Test.YtogkgbnpodojjaaGreatCmWord
import Derived.StillTail
import Derived.Deep.RegionHeld3
import Derived.Deep.QuietTactic
import Derived.BigQuiet
import Derived.WalkKit
import Derived.Test.YtogkgbnpodojjaaGreatRows
import Derived.Deep.MidRow
import Derived.Deep.WholeRow
import Derived.Laws.OwnMore
import Derived.Deep.Slices
import Derived.Deep.Strs
import Derived.Lib.SmallJoins
import Derived.Laws.StructEq
import Derived.Below
import Derived.Shelf.SlSortCmp.NoneTotal
import Derived.Shelf.SlicesQ.IndexFunc
import Derived.Test.YtogkgbnpodojjaaGreatCmA
set_option linter.unusedVariables false
namespace Go.Proofs.YtogkgbnpodojjaaGreat
open Go.Proofs.Tryz
theorem t91{P:Prop}(h:P:=by
 rcases Nat.lt_or_ge j n with h | h
 ·exact h
 ·exact absurd hj (tail_waits hs hc hn inv _ i rfl hin hun j h)):P:=h
namespace tail
open Go
section
variable {P:Program} {ops:Array Oper} {md:Region.Mode} {C:World->Prop}
def FK (P:Program) (md:Region.Mode) (ops:Array Oper) (C:World->Prop) (n:Nat) (L:Array Bool->Act->Prop):Nat->Array Bool->Act->Prop
 | 0,listed,a=>L listed a
 | f+1,listed,a=>
  Region.ready md ops listed≠[]/\∀i∈Region.ready md ops listed,i<n/\qOp P ops C i (FK P md ops C n L f (listed.setIfInBounds i true)) a
theorem ru {n g:Nat} {L:Array Bool->Act->Prop} {Q':Exit->Act->World->Prop} (hL:∀listed a w,C w->L listed a->wpAny P md ops Q' g listed a w):
  ∀(f:Nat) (listed:Array Bool) (a:Act) (w:World),C w->FK P md ops C n L f listed a->wpAny P md ops Q' (f+g) listed a w
 | 0,listed,a,w,hw,h=>by rw [Nat.zero_add];exact hL _ _ _ hw h
 | f+1,listed,a,w,hw,h=>by
  rw [show f+1+g=(f+g)+1 by omega];exact ⟨fun h0=>absurd h0 h.1,fun i hi=>wpOp_of_qOp hw (fun a' w' hw' h'=>ru hL f _ a' w' hw' h') (h.2 i hi).2⟩
theorem Bf {n i:Nat} {oi:Oper} {v:Value} {L:Array Bool->Act->Prop} (hi:ops[i]?=some oi) (hsel:∀(j:Nat) (o:Oper) cs b,ops[j]?=some o->o.op≠ .select cs b)
  (hs:Region.sinkB md ops n=true) (hc:Region.chainB md ops n=true) (hn:n<ops.size) (hin:i<n)
  (hdone:∀listed a,L listed a->∀j∈Region.ready md ops listed,n<=j):
  ∀(f:Nat) (listed:Array Bool) (a:Act),HeadInv md ops n listed->
   (∀j oj,ops[j]?=some oj->j≠i->listed.getD j true=false->(∀e∈oj.after,Region.binds md e=true->e.on≠i)->oi.apart ops oj=true)->
   i∈Region.ready md ops listed->YieldsIn P ops C oi v a->
   FK P md ops C n L f (listed.setIfInBounds i true) (a.put oi.dst v)->FK P md ops C n L (f+1) listed a:=by
 intro f;induction f with
 | zero=>
  intro listed a inv _ hr hy H;have hun:=(mem_ready.1 hr).1;refine ⟨fun h=>(by rw [h] at hr;cases hr),fun j hj=> ?_⟩;have hjn:j<n:=by
   exact t91
  refine ⟨hjn, ?_⟩;by_cases hji:j=i
  ·subst hji;exact hy.qOp hi H
  ·have:=hdone _ _ H j (ready_mono hj hji);omega
 | succ f ih=>
  intro listed a inv hfree hr hy H;have hun:=(mem_ready.1 hr).1;refine ⟨fun h=>(by rw [h] at hr;cases hr),fun j hj=> ?_⟩;have hjn:j<n:=by
   exact t91
  refine ⟨hjn, ?_⟩;by_cases hji:j=i
  ·subst hji;exact hy.qOp hi H
  ·have h1:=(H.2 j (ready_mono hj hji)).2;obtain ⟨hjun,oj,hoj,hall⟩:=mem_ready.1 hj;have hnot:∀e∈oj.after,Region.binds md e=true->e.on≠i:=fun e he hb heq=>by
    have h1:=hall e he hb;rw [heq,getD_both hun] at h1;cases h1
   have h2:=qOp_put hoj (hfree j oj hoj hji hjun hnot) (fun cs b=>hsel i oi cs b hi) (fun cs b=>hsel j oj cs b hoj) hy h1;have hfree':∀k ok,ops[k]?=some ok->k≠i->(listed.setIfInBounds j true).getD k true=false->
     (∀e∈ok.after,Region.binds md e=true->e.on≠i)->oi.apart ops ok=true:=fun k ok hk hki hun hno=>by
    refine hfree k ok hk hki ?_ hno;by_cases hjk:j=k
    ·subst hjk;exact hjun
    ·rw [getD_set_ne true hjk] at hun;exact hun
   refine qOp_mono (fun a' h3=>ih (listed.setIfInBounds j true) a' (inv.set hj hjn) hfree' (ready_mono hr (Ne.symm hji)) h3.1 ?_) h2;rw [Array.setIfInBounds_comm _ _ hji];exact h3.2
theorem zf {n g:Nat} {Lq:Act->Prop} (hsel:Region.noSelect ops=true) (hs:Region.sinkB md ops n=true) (hc:Region.chainB md ops n=true) (hn:n<ops.size):
  ∀(l:List Oper) (k:Nat) (listed:Array Bool) (a:Act),(∀j,j<l.length->l[j]?=ops[k+j]?)->k+l.length=n->HeadInv md ops n listed->
  Region.lexHead md ops g l.length k listed=true->wpQuiet P ops C Lq l a->
  FK P md ops C n (fun listed' a'=>Region.seqB md ops g n listed'=true/\Lq a') l.length listed a
 | [],k,listed,a,_,hk,_,hB,h=>by
  have:k=n:=by simpa using hk
  subst this;exact ⟨by simpa [Region.lexHead] using hB,h⟩
 | o :: l,k,listed,a,hl,hk,inv,hB,h=>by
  have h0:ops[k]?=some o:=by simpa using (hl 0 si_).symm
  simp only [List.length_cons,Region.lexHead,Bool.and_eq_true] at hB;obtain ⟨⟨hr,hf⟩,hB'⟩:=hB;have hkn:k<n:=by simp only [List.length_cons] at hk;omega
  have hr':k∈Region.ready md ops listed:=by simpa using hr
  have hst:qOp P ops C k (wpQuiet P ops C Lq l) a:=by unfold qOp;simp only [h0];exact h
  obtain ⟨v,hy,hK⟩:=yieldsIn_of_qOp h0 hst;exact Bf h0 (Region.noSelect_spec hsel) hs hc hn hkn (fun listed' a' hL=>seqB_ready hL.1) l.length listed a inv (Region.free_spec h0 hf) hr' hy
   (zf hsel hs hc hn l (k+1) _ _ (fun j hj=>by have:=hl (j+1) (by simp;omega);simpa [Nat.add_assoc,Nat.add_comm 1 j] using this) (by simp only [List.length_cons] at hk;omega) (inv.set hr' hkn) hB' hK)
theorem region {id:Nat} {Q:Exit->Act->World->Prop} {a:Act} {w:World} {l:List Oper} (n:Nat) (hm:P.follows .mixedOrders=true) (hB:Region.lexTailB .any l.toArray n=true)
  (h:wpQuiet P l.toArray (fun w'=>∃n,w'=w.drewN n) (fun a'=>∀w',(∃n,w'=w.drewN n)->wpList P l.toArray Q (l.drop n) a' w') (l.take n) a):(Code.region id l.toArray true).wp P Q a w:=by
 simp only [Region.lexTailB,Bool.and_eq_true,decide_eq_true_eq] at hB;obtain ⟨⟨⟨⟨hsel,hn⟩,hs⟩,hc⟩,hlex⟩:=hB;have hn':n<l.length:=by simpa using hn
 have htl:(l.take n).length=n:=by simp;omega
 have hdl:(l.drop n).length=l.toArray.size - n:=by simp
 have inv0:HeadInv .any l.toArray n (Array.replicate l.toArray.size false):=
  ⟨by simp,fun j oj _ hl=>(by rw [getD_replicate_false] at hl;cases hl),fun t _ ht=>getD_in (by simpa using ht) (getD_replicate_false _ _)⟩
 have H:=zf (md:=.any) (g:=l.toArray.size - n) hsel hs hc hn (l.take n) 0 _ a (fun j hj=>by
  have hj':j<n:=by rw [htl] at hj;exact hj
  simp [hj']) (by simpa using htl) inv0 (by rw [htl];exact hlex) h
 refine wp_region_any hm ?_;have:=ru (C:=fun w'=>∃n,w'=w.drewN n) (Q':=Q) (g:=l.toArray.size - n) (fun listed a' w' hw' hL=>by
  have:=wpAny_of_seq (md:=.any) (Q':=Q) (l.drop n) n listed a' w' (fun j=>by simp [List.getElem?_drop]) (by rw [hdl];exact hL.1) (hL.2 w' hw');rwa [hdl] at this) _ _ _ _ ⟨1,rfl⟩ H
 rw [htl,show n+(l.toArray.size - n)=l.toArray.size by omega] at this;exact this
theorem rU {Q:Exit->Act->World->Prop}:∀(fuel:Nat) (listed:Array Bool) (a:Act) (w:World),wpAny P md ops Q fuel listed a w->wpAnyH P md ops Q (fun _=>True) fuel listed a w
 | 0,_,_,_,h=>h
 | fuel+1,_,_,_,h=>⟨h.1,fun i hi=>wpOp_mono (fun a' w' h'=>⟨trivial,rU fuel _ a' w' h'⟩) (h.2 i hi)⟩
end
end tail
theorem t48{P:Prop}(h:P:=by
 simp only [results,h];simp at hp;simp [hp,asAddr,run_loadVar_mid w b o ty cs d hc hu hd hi]):P:=h
section
open Go.RowKit
def Block (w:World) (b:Nat) (t:TypeId) (cs:List Value):Prop:=w.heap[b]?=some (.cells cs.toArray t (0,0))
theorem Block.lt {w:World} {b:Nat} {t:TypeId} {cs:List Value} (h:Block w b t cs):b<w.heap.size:=(Array.getElem?_eq_some_iff.1 h).1
theorem Block.cell {w:World} {b:Nat} {t:TypeId} {cs:List Value} (h:Block w b t cs) (j:Nat):w.cell? ⟨b,j,none⟩=cs[j]?:=by
 rw [cell_of_row w b j cs.toArray t (0,0) h];simp
theorem Block.frozen {w:World} {b:Nat} {t:TypeId} {cs:List Value} (h:Block w b t cs) (j:Nat):w.frozen? ⟨b,j,none⟩=false:=frozen_of_row w b j cs.toArray t h
theorem Block.range {w:World} {b:Nat} {t:TypeId} {cs:List Value} (h:Block w b t cs) (o:Nat) (vs:List Value) (hv:∀j v,vs[j]?=some v->cs[o+j]?=some v):w.rangeAt b o vs:=
 fun j v hj=>by rw [h.cell];exact hv j v hj
theorem Block.whole {w:World} {b:Nat} {t:TypeId} {cs:List Value} (h:Block w b t cs):w.rangeAt b 0 cs:=h.range 0 cs (fun j v hj=>by rw [Nat.zero_add];exact hj)
theorem Block.there {w:World} {b:Nat} {t:TypeId} {cs:List Value} (h:Block w b t cs) (o n:Nat) (hn:o+n<=cs.length):w.there b o n:=
 fun j hj=>⟨by rw [h.cell,List.getElem?_eq_getElem om_];rfl,h.frozen _⟩
theorem Block.setCell {w:World} {b:Nat} {t:TypeId} {cs:List Value} (h:Block w b t cs) (j:Nat) (v:Value):Block (w.setCell ⟨b,j,none⟩ v) b t (cs.set j v):=by
 have:=heap_setCell_same w b j cs.toArray t v h;unfold Block;rw [this];simp
def put (cs:List Value):Nat->List Value->List Value
 | _,[]=>cs
 | o,v :: r=>put (cs.set o v) (o+1) r
theorem J8 (A X C Y:List Value) (h:X.length=Y.length):put (A++X++C) A.length Y=A++Y++C:=by
 induction Y generalizing A X with
 | nil=>obtain rfl:X=[]:=List.eq_nil_of_length_eq_zero (by simpa using h);rfl
 | cons y r ih=>
  cases X with
  | nil=>simp at h
  | cons x X=>
   have e:(A++x :: X++C).set A.length y=(A++[y])++X++C:=by simp
   have:=ih (A++[y]) X (by simpa using h);rw [put,e,show A.length+1=(A++[y]).length by simp,this];simp
theorem dS (X Y:List Value) (h:X.length=Y.length):put X 0 Y=Y:=by
 have:=J8 [] X [] Y h;simpa using this
theorem Block.setCells {b:Nat} {t:TypeId}:∀ {vs:List Value} {o:Nat} {w:World} {cs:List Value},Block w b t cs->Block (w.setCells b o vs) b t (put cs o vs)
 | [],_,_,_,h=>h
 | v :: r,o,w,cs,h=>Block.setCells (vs:=r) (o:=o+1) (h.setCell o v)
theorem Block.alloc {w:World} {b:Nat} {t:TypeId} {cs:List Value} (h:Block w b t cs) (ob:Obj):Block (w.alloc ob) b t cs:=(Below.heap_alloc w ob b h.lt).trans h
theorem Block.new (w:World) (t:TypeId) (cs:List Value):Block (w.alloc (.cells cs.toArray t)) w.heap.size t cs:=heap_alloc_last w _
theorem Block.drewN {w:World} {b:Nat} {t:TypeId} {cs:List Value} (h:Block w b t cs) (n:Nat):Block (w.drewN n) b t cs:=h
theorem Block.below {w w':World} {b B:Nat} {t:TypeId} {cs:List Value} (h:Block w b t cs) (hb:Below B w w') (hB:b<B):Block w' b t cs:=(hb.block b hB).trans h
theorem Block.later {w w':World} {b:Nat} {t:TypeId} {cs:List Value} (h:Block w b t cs) (hb:Below w.heap.size w w'):Block w' b t cs:=h.below hb h.lt
theorem Block.apart {w:World} {b:Nat} {t:TypeId} {cs:List Value} (h:Block w b t cs) (g o:Nat) (v:Value) (hg:b≠g):Block (w.setCell ⟨g,o,none⟩ v) b t cs:=
 (Below.heap_setCell w ⟨g,o,none⟩ v b hg).trans h
theorem dU (g:Nat):∀(vs:List Value) (o:Nat) (w:World) (k:Nat),k≠g->(w.setCells g o vs).heap[k]?=w.heap[k]?
 | [],_,_,_,_=>rfl
 | v :: r,o,w,k,h=>(dU g r (o+1) _ k h).trans (Below.heap_setCell w ⟨g,o,none⟩ v k h)
theorem size_setCells (g:Nat):∀(vs:List Value) (o:Nat) (w:World),(w.setCells g o vs).heap.size=w.heap.size
 | [],_,_=>rfl
 | v :: r,o,w=>(size_setCells g r (o+1) _).trans si_
theorem fD (g:Nat):∀(vs:List Value) (o:Nat) (w:World),(w.setCells g o vs).os=w.os/\(w.setCells g o vs).tape=w.tape/\(w.setCells g o vs).output=w.output
 | [],_,_=>⟨rfl,rfl,rfl⟩
 | v :: r,o,w=>fD g r (o+1) (w.setCell ⟨g,o,none⟩ v)
theorem Block.jB {w:World} {b:Nat} {t:TypeId} {cs:List Value} (h:Block w b t cs) (g o:Nat) (vs:List Value) (hg:b≠g):Block (w.setCells g o vs) b t cs:=
 (dU g vs o w b hg).trans h
theorem below_setCells {B g:Nat} {a w:World} (h:Below B a w) (hg:B<=g) (o:Nat) (vs:List Value):Below B a (w.setCells g o vs):=
 h.trans ⟨(fD g vs o w).1,(fD g vs o w).2.1,(fD g vs o w).2.2,by rw [size_setCells];exact Nat.le_refl _,fun k hk=>dU g vs o w k om_⟩
theorem ah {P:Program} {w:World} {ops:Array Oper} {rest:List Oper} {op:Oper} {a:Act} {Q:Exit->Act->World->Prop} (hgd:op.guard=none) (ty:TypeId) (x y:Operand) (ho:op.op=.store ty x y)
  (b o:Nat) (cells:Array Value) (hx:a.eval x=.pointer (some ⟨b,o,none⟩)) (hy:a.eval y=.agg cells)
  (ht:w.there b o cells.size) (hi:(P.info? ty).map (·.size)=some cells.size) (h1:cells.all (·.oneCell')=true)
  (h:∀w',Hid (w.setCells b o cells.toList=w')->wpList P ops Q rest (a.put op.dst undef) w'):wpList P ops Q (op :: rest) a w:=
 wpList_store_mid hgd ty x y ho b o cells hx hy ht hi h1 (h _ rfl)
theorem aI {fn:Func} {p:Tmp} {ty:TypeId} {tmps:Array Value} {P:Program} {w:World} {b o:Nat} {cs:List Value} {d:TypeDesc} (h:fn.results=#[.cell p ty])
  (hp:tmps.getD p undef=.pointer (some ⟨b,o,none⟩)) (hc:w.rangeAt b o cs) (hu:P.underlying ty=some d) (hd:d.isRow=true) (hi:(P.info? ty).map (·.size)=some cs.length):
  (results fn tmps).run P w=.ok (.agg cs.toArray) w:=by
 exact t48
theorem ai {w w':World} {base e size n:Nat} {v:Value} {xs:List Value} (h:w.ownsRow base e size v n xs) (hb:Below w.heap.size w w'):w'.ownsRow base e size v n xs:=by
 refine ⟨h.1, ?_⟩;rcases h.2 with h0 | ⟨g,cap,cur,hv,h1,hg,h2,h3,h4,h5⟩
 ·exact .inl h0
 ·exact .inr ⟨g,cap,cur,hv,h1,(hb.block g (Array.getElem?_eq_some_iff.1 hg).1).trans hg,h2,h3,h4,h5⟩
def But (B g:Nat) (w w':World):Prop:=
 w'.os=w.os/\w'.tape=w.tape/\w'.output=w.output/\w.heap.size<=w'.heap.size/\∀k,k<B->k≠g->w'.heap[k]?=w.heap[k]?
theorem But.refl (B g:Nat) (w:World):But B g w w:=⟨rfl,rfl,rfl,Nat.le_refl _,fun _ _ _=>rfl⟩
theorem But.trans {B g:Nat} {a b c:World} (h:But B g a b) (k:But B g b c):But B g a c:=
 ⟨k.1.trans h.1,k.2.1.trans h.2.1,k.2.2.1.trans h.2.2.1,Nat.le_trans h.2.2.2.1 k.2.2.2.1,fun j h1 h2=>(k.2.2.2.2 j h1 h2).trans (h.2.2.2.2 j h1 h2)⟩
theorem Below.but {B g:Nat} {a b:World} (h:Below B a b):But B g a b:=⟨h.os,h.tape,h.output,h.size,fun k hk _=>h.block k hk⟩
theorem But.below {B B' g:Nat} {a b:World} (h:But B g a b) (hB:B'<=B) (hg:B'<=g):Below B' a b:=⟨h.1,h.2.1,h.2.2.1,h.2.2.2.1,fun k hk=>h.2.2.2.2 k om_ om_⟩
theorem But.mono {B B' g:Nat} {a b:World} (h:But B g a b) (hB:B'<=B):But B' g a b:=⟨h.1,h.2.1,h.2.2.1,h.2.2.2.1,fun k hk hg=>h.2.2.2.2 k om_ hg⟩
theorem But.setCells {B g:Nat} {a w:World} (h:But B g a w) (o:Nat) (vs:List Value):But B g a (w.setCells g o vs):=
 h.trans ⟨(fD g vs o w).1,(fD g vs o w).2.1,(fD g vs o w).2.2,by rw [size_setCells];exact Nat.le_refl _,fun k _ hg=>dU g vs o w k hg⟩
theorem But.setCell {B g:Nat} {a w:World} (h:But B g a w) (o:Nat) (v:Value):But B g a (w.setCell ⟨g,o,none⟩ v):=h.setCells o [v]
theorem But.step {B g:Nat} {a w w':World} (h:But B g a w) (k:Below w.heap.size w w') (hB:B<=w.heap.size):But B g a w':=h.trans (Below.but (k.mono hB))
theorem But.drewN {B g:Nat} {a w:World} (h:But B g a w) (n:Nat):But B g a (w.drewN n):=h
theorem Block.but {w w':World} {b B g:Nat} {t:TypeId} {cs:List Value} (h:Block w b t cs) (hb:But B g w w') (hB:b<B) (hg:b≠g):Block w' b t cs:=(hb.2.2.2.2 b hB hg).trans h
theorem Reads.but {k:IntKind} {w w':World} {b off len B g:Nat} {xs:List Nat} (h:Reads k w (some ⟨b,off,none⟩) len xs) (hb:But B g w w') (hB:b<B) (hg:b≠g):Reads k w' (some ⟨b,off,none⟩) len xs:=by
 refine ⟨h.1, ?_⟩;rcases h.2 with h | ⟨b',off',ha,hlt,hc⟩
 ·exact .inl h
 ·cases ha
  refine .inr ⟨b,off,rfl,Nat.lt_of_lt_of_le hlt hb.2.2.2.1,fun i hi=> ?_⟩;rw [World.cell?_of_block (w:=w) (hb.2.2.2.2 b hB hg)];exact hc i hi
theorem Block.reads {k:IntKind} {w:World} {b:Nat} {t:TypeId} {cs:List Value} (h:Block w b t cs) (o:Nat) (xs:List Nat) (hx:∀i,i<xs.length->cs[o+i]?=some (.int k ((xs.getD i 0:Nat):Int))) (n:Nat) (hn:xs.length=n):Reads k w (some ⟨b,o,none⟩) n xs:=
 ⟨hn,.inr ⟨b,o,rfl,h.lt,fun i hi=>by rw [h.cell];exact hx i om_⟩⟩
end
namespace item
open Go.ChangeShapes Go.WideShapes Go.ChangeAt Go.RowKit Go.Deep
structure It where
 (key:Nat) (data:ByteArray)
instance:Inhabited It:=⟨⟨0,⟨#[]⟩⟩⟩
structure It.Good (W:World) (p:It):Prop where
 unit:True
 bkey:p.key<4294967296
theorem It.Good.below {W W':World} {p:It} (h:p.Good W) (hb:Below W.heap.size W W'):p.Good W':=⟨h.unit,h.bkey⟩
section
variable {H:Type} {enc:TypeId×Value->H} {P:Program} {W:World}
theorem Fq {t0 t1:TypeId} {n:Nat} {v0 v1:Value} {y0 y1:DataW H×List MemPlace} (u0:P.underlying t0=some (.int .u32)) (u1:P.underlying t1=some .string)
  (h0:DataW.trod enc P W 0 (fun _=>true) true n t0 [v0]=some y0) (h1:DataW.trod enc P W 0 (fun _=>true) true n t1 [v1]=some y1):
  ∃p:It,p.Good W/\v0=.int .u32 (p.key:Nat)/\v1=.string p.data:=by
 obtain ⟨z0,e0,_,w0⟩:=DataW.trod_int u0 h0;have a0:=wf_u32 _ w0;obtain ⟨x0,rfl⟩:=Int.eq_ofNat_of_zero_le a0.1;obtain ⟨x1,e1,_⟩:=DataW.trod_string u1 h1;exact ⟨⟨x0,x1⟩,⟨trivial,by show x0<_;omega⟩,by simpa using e0,by simpa using e1⟩
def Its (w:World) (a:Option Addr) (l:List It):Prop:=
 l=[]\/∃b off,a=some ⟨b,off,none⟩/\b<w.heap.size/\∀i p,l[i]?=some p->w.cell? ⟨b,off+i*2,none⟩=some (.int .u32 (p.key:Nat))/\w.cell? ⟨b,off+i*2+1,none⟩=some (.string p.data)
theorem H6 {t e:TypeId} {f0 f1:Field} {a:Option Addr} {len cap:Nat} {d:DataW H} {pl:List MemPlace} (ht:P.underlying t=some (.slice e)) (he:P.underlying e=some (.struct #[f0,f1])) (hone:oneCellFields P #[f0,f1]=true) (hC:P.cellsOf e=2)
  (u0:P.underlying f0.type=some (.int .u32)) (u1:P.underlying f1.type=some .string)
  (h0:DataW.Trod enc P W 0 (fun _=>true) true t (.slice a len cap) d pl):∃l:List It,len=l.length/\Its W a l/\(∀p∈l,p.Good W)/\len<=cap/\cap<=maxLen:=by
 obtain ⟨fuel,hf⟩:=h0;have hf2:DataW.trod enc P W 0 (fun _=>true) true fuel t [.slice a len cap]=some (d,pl):=by simpa [Value.cells] using hf
 rcases open_slice ht hf2 with ⟨hcs,_⟩ | ⟨A,len',cap',q,n,D,Pl,hcs,_,hlc,hcm,hm,hx0,hrow⟩
 ·simp at hcs;obtain ⟨rfl,rfl,rfl⟩:=hcs;exact ⟨[],rfl,.inl rfl,by simp,Nat.le_refl _,by unfold maxLen;omega⟩
 ·simp at hcs;obtain ⟨rfl,rfl,rfl⟩:=hcs;simp only [if_true] at hm;have each:∀r,r<len->∃p:It,p.Good W/\W.cell? (A.add (r*2))=some (.int .u32 (p.key:Nat))/\W.cell? (A.add (r*2+1))=some (.string p.data):=by
   intro r hr;obtain ⟨cs',h1,h2⟩:=hrow r om_;rw [hC] at h1;obtain ⟨_,hlen0,hcell⟩:=World.cells?_some h1;obtain ⟨ys,m,_,_,hl,hlen,hx⟩:=DataW.trod_struct he h2;rw [hC] at hl;match cs',hl with
   | [c0,c1],_=>
    have each:∀(i:Nat) (f:Field) (c:Value),#[f0,f1][i]?=some f->[c0,c1][i]?=some c->∃y,DataW.trod enc P W 0 (fun _=>true) true m f.type [c]=some y:=by
     intro i f c hi hc;obtain ⟨o,k⟩:=hone_of hone i f hi;have hi6:i<2:=by have:=(Array.getElem?_eq_some_iff.1 hi).1;simpa using this
     have h1:=hx i f hi;rw [o,k] at h1;have e:(([c0,c1].drop i).take 1)=[c]:=by
      rw [List.take_one];have:([c0,c1].drop i).head?=some c:=by
       rw [List.head?_drop];simpa using hc
      rw [this];rfl
     rw [e] at h1;have hy:ys[i]?=some (ys[i]'(by rw [hlen];exact hi6)):=List.getElem?_eq_getElem _;exact ⟨_,h1.trans hy⟩
    obtain ⟨y0,g0⟩:=each 0 f0 c0 rfl rfl;obtain ⟨y1,g1⟩:=each 1 f1 c1 rfl rfl;obtain ⟨p,hp,rfl,rfl⟩:=Fq u0 u1 g0 g1;have k0:=hcell 0 om_;have k1:=hcell 1 om_;rw [add_add] at k0 k1;exact ⟨p,hp,by simpa using k0,by simpa using k1⟩
  obtain ⟨y,hy⟩:=choose_lt each;refine ⟨(List.range len).map y,by simp, ?_, ?_,by omega,hcm⟩
  ·by_cases hz:len=0
   ·subst hz;exact .inl rfl
   ·right;obtain ⟨b,off,spot⟩:=A;have hc0:=(hy 0 om_).2.1;have hspot:spot=none:=by simpa [Addr.add] using World.cell?_spot hc0
    subst hspot;have hb:b<W.heap.size:=by
     have:=World.block_lt_of_cell? W _ hc0;simpa [Addr.add] using this
    refine ⟨b,off,rfl,hb,fun i p hp=> ?_⟩;have hi:i<len:=by have:=(List.getElem?_eq_some_iff.1 hp).1;simpa using this
    simp [hi] at hp;subst hp;obtain ⟨_,e50,e51⟩:=hy i hi;rw [Addr.add_lit] at e50 e51;exact ⟨e50,by rw [Nat.add_assoc];exact e51⟩
  ·intro p hp;obtain ⟨i,hi,rfl⟩:=List.mem_map.1 hp;exact (hy i (List.mem_range.1 hi)).1
end
theorem Its.below {w w':World} {a:Option Addr} {l:List It} (h:Its w a l) (hb:Below w.heap.size w w'):Its w' a l:=by
 rcases h with h | ⟨b,off,ha,hlt,hc⟩
 ·exact .inl h
 ·refine .inr ⟨b,off,ha,Nat.lt_of_lt_of_le hlt hb.size,fun i p hp=> ?_⟩;rw [hb.cell (p:=⟨b,off+i*2,none⟩) hlt,hb.cell (p:=⟨b,off+i*2+1,none⟩) hlt];exact hc i p hp
theorem Its.at {w:World} {a:Option Addr} {l:List It} (h:Its w a l) {i:Nat} (hi:i<l.length):
  ∃b off p,a=some ⟨b,off,none⟩/\b<w.heap.size/\l[i]?=some p/\w.cell? ⟨b,off+i*2,none⟩=some (.int .u32 (p.key:Nat))/\w.cell? ⟨b,off+i*2+1,none⟩=some (.string p.data):=by
 rcases h with rfl | ⟨b,off,ha,hlt,hc⟩
 ·simp at hi
 ·have hp:=List.getElem?_eq_getElem hi;exact ⟨b,off,_,ha,hlt,hp,hc i _ hp⟩
def Jl (P:Program) (t:TypeId):Prop:=∃(e:TypeId) (f0 f1:Field),P.underlying t=some (.slice e)/\P.underlying e=some (.struct #[f0,f1])/\oneCellFields P #[f0,f1]=true/\P.cellsOf e=2/\P.underlying f0.type=some (.int .u32)/\P.underlying f1.type=some .string
theorem Cf {H:Type} {enc:TypeId×Value->H} {P:Program} {W:World} {t:TypeId} {v:Value} {n:Nat} {y:DataW H×List MemPlace} (hR:Jl P t) (h:DataW.trod enc P W 0 (fun _=>true) true n t [v]=some y):∃a cap L,v=.slice a (List.length L) cap/\Its W a L/\(∀p∈L,p.Good W)/\L.length<=cap/\cap<=maxLen:=by
 obtain ⟨e,f0,f1,ht,he,hone,hC,u0,u1⟩:=hR;have hv:∃a len cap,v=.slice a len cap:=by
  rcases open_slice ht h with ⟨hcs,_⟩ | ⟨A,len,cap,m,n1,D,Pl,hcs,_⟩
  ·exact ⟨none,0,0,by simpa using hcs⟩
  ·exact ⟨_,_,_,by simpa using hcs⟩
 obtain ⟨a,len,cap,rfl⟩:=hv;obtain ⟨L,rfl,h1,h2,h3,h4⟩:=H6 ht he hone hC u0 u1 (W:=W) (enc:=enc) (d:=y.1) (pl:=y.2) ⟨n,by simpa [Value.cells] using h⟩;exact ⟨a,cap,L,rfl,h1,h2,h3,h4⟩
end item
namespace perm
open Go
section
variable {P:Program} {ops:Array Oper} {md:Region.Mode}
def qA:Op->Bool
 | .move _ | .assign _ | .load _ _ | .binOp .. | .unOp .. | .slice .. | .fieldAddr .. | .indexAddr .. | .index .. | .extract .. | .convert .. =>true
 | .nilCheck _=>true
 | _=>false
theorem Az {ρ:Operand->Value} {o:Oper} {w w':World} {n:Next} (h:qA o.op=true) (hr:(execOp ρ o).run P w=.ok n w'):∃u,n=.value u:=by
 have key:∀(s:Sem Value),(do let x <-s;pure (Next.value x):Sem Next).run P w=.ok n w'->∃u,n=.value u:=fun s hs=>by
  rw [Sem.run_bind] at hs;cases hq:s.run P w with
  | ok u w1=>rw [hq] at hs;simp [Result.andThen] at hs;exact ⟨u,hs.1.symm⟩
  | halt x w1=>rw [hq] at hs;simp [Result.andThen] at hs
 unfold execOp at hr;cases ho:o.op <;> rw [ho] at h hr <;> simp only [qA] at h <;> try cases h
 case move x=>simp at hr;exact ⟨_,hr.1.symm⟩
 case assign x=>simp at hr;exact ⟨_,hr.1.symm⟩
 case nilCheck x=>
  dsimp only at hr;split at hr
  ·simp [runtimePanic,Sem.run_bind,Result.andThen] at hr
  ·simp [runtimePanic] at hr
  ·simp [runtimePanic] at hr
  ·split at hr
   ·simp [runtimePanic] at hr
   ·simp only [Sem.run_bind] at hr;generalize Sem.run P program _=r1 at hr;cases r1 with
    | halt x w1=>simp [Result.andThen] at hr
    | ok p w1=>
     simp only [Result.andThen] at hr;generalize Sem.run P (nilAhead _ _ _ _) _=r2 at hr;cases r2 with
     | halt x w2=>simp at hr
     | ok q w2=>
      simp only at hr;split at hr
      ·simp [unsupported,Result.andThen] at hr
      ·simp at hr;exact ⟨_,hr.1.symm⟩
   ·simp at hr;exact ⟨_,hr.1.symm⟩
  ·simp at hr;exact ⟨_,hr.1.symm⟩
 all_goals exact key _ hr
theorem vT {o:Oper} {v:Value} {a:Act} (hp:qA o.op=true) (hy:YieldsIn P ops (fun _=>True) o v a):YieldsIf P ops (fun _=>True) o v a:=by
 rcases hy with ⟨hw,hv⟩ | hy
 ·refine .inl ⟨hw,fun w' _=> ?_⟩;have h3:=hv w' trivial;unfold Oper.quietAt at h3;generalize hr:(execOp a.eval o).run P w'=r at h3;cases r with
  | halt x w2=>simp only [Oper.quietUpon] at h3
  | ok n w2=>
   obtain ⟨u,rfl⟩:=Az hp hr;simp only [Oper.quietUpon] at h3;rw [h3.1,h3.2]
 ·exact .inr hy
def ny (md:Region.Mode) (ops:Array Oper) (F:Array Bool->Bool):List Nat->Array Bool->Bool
 | [],listed=>F listed
 | k :: is,listed=>(Region.ready md ops listed).contains k && Region.free md ops listed k && ((ops[k]?).map (fun o=>qA o.op) == some true) && ny md ops F is (listed.setIfInBounds k true)
def xN (md:Region.Mode) (ops:Array Oper):List Nat->Array Bool->Bool
 | [],listed=>(Region.ready md ops listed).isEmpty
 | k :: js,listed=>decide (Region.ready md ops listed=[k]) && decide (k<ops.size) && xN md ops js (listed.setIfInBounds k true)
def JE (md:Region.Mode) (ops:Array Oper) (is js:List Nat):Bool:=
 Region.noSelect ops && decide (is.length+js.length=ops.size) && ny md ops (xN md ops js) is (Array.replicate ops.size false)
def nth:List Oper->Nat->List Oper
 | [],_=>[]
 | o :: _,0=>[o]
 | _ :: l,k+1=>nth l k
def iq (ops:List Oper):List Nat->List Oper
 | []=>[]
 | k :: is=>nth ops k++iq ops is
theorem C9:∀ {l:List Oper} {k:Nat} {o:Oper},l[k]?=some o->nth l k=[o]
 | [],k,o,h=>by simp at h
 | _ :: _,0,o,h=>by simp at h;simp [nth,h]
 | _ :: l,k+1,o,h=>by simp only [nth];exact C9 (by simpa using h)
theorem sH {Q:Exit->Act->World->Prop} {l:List Oper}:∀(js:List Nat) (listed:Array Bool) (a:Act) (w:World),xN md l.toArray js listed=true->
  wpList P l.toArray Q (iq l js) a w->wpAny P md l.toArray Q js.length listed a w
 | [],_,_,_,hB,h=>⟨by simpa [xN] using hB,h⟩
 | k :: js,listed,a,w,hB,h=>by
  simp only [xN,Bool.and_eq_true,decide_eq_true_eq] at hB;obtain ⟨⟨hr,hk⟩,hB'⟩:=hB;have hk':k<l.length:=by simpa using hk
  have h0:l.toArray[k]?=some l[k]:=by simp [hk']
  have e:iq l (k :: js)=l[k] :: iq l js:=by simp [iq,C9 (show l[k]?=some l[k] by simp [hk'])]
  rw [e] at h;refine ⟨fun h1=>(by rw [hr] at h1;cases h1),fun i hi=> ?_⟩;rw [hr] at hi;have hik:i=k:=by simpa using hi
  subst hik;have hw:wpOp P l.toArray Q i (wpList P l.toArray Q (iq l js)) a w:=by unfold wpOp;simp only [h0];exact h
  exact wpOp_mono (fun a' w' h'=>sH js _ a' w' hB' h') hw
theorem xq {Q:Exit->Act->World->Prop} {Lq:Act->Prop} {l:List Oper} {w:World} (F:Array Bool->Bool) (g:Nat) (hsel:Region.noSelect l.toArray=true)
  (hQ:∀c a a' w,Q (.panic c) a w->Q (.panic c) a' w) (hK:∀listed a,F listed=true->Lq a->wpAny P md l.toArray Q g listed a w):
  ∀(is:List Nat) (listed:Array Bool) (a:Act),ny md l.toArray F is listed=true->wpQuiet P l.toArray (fun _=>True) Lq (iq l is) a->
   wpAnyH P md l.toArray Q (fun _=>True) (is.length+g) listed a w
 | [],listed,a,hB,h=>by
  simp only [List.length_nil,Nat.zero_add];exact tail.rU _ _ _ _ (hK _ _ (by simpa [ny] using hB) h)
 | k :: is,listed,a,hB,h=>by
  simp only [ny,Bool.and_eq_true] at hB;obtain ⟨⟨⟨hr,hf⟩,hp⟩,hB'⟩:=hB;have hp':(l.toArray[k]?).map (fun o=>qA o.op)=some true:=by simpa using hp
  obtain ⟨o,h0,ho⟩:=Option.map_eq_some_iff.1 hp';have hl0:l[k]?=some o:=by simpa using h0
  have e:iq l (k :: is)=o :: iq l is:=by simp [iq,C9 hl0]
  rw [e] at h;have hst:qOp P l.toArray (fun _=>True) k (wpQuiet P l.toArray (fun _=>True) Lq (iq l is)) a:=by unfold qOp;simp only [h0];exact h
  obtain ⟨v,hy,hK'⟩:=yieldsIn_of_qOp h0 hst;rw [show (k :: is).length+g=(is.length+g)+1 from by simp only [List.length_cons];omega];exact wpAnyH_take h0 hsel hf hr (fun c a w h=>hQ c _ _ w h) (vT ho hy) trivial (xq F g hsel hQ hK is _ _ hB' hK')
theorem region {id:Nat} {Q:Exit->Act->World->Prop} {a:Act} {w:World} {l:List Oper} (is js:List Nat) (hmx:P.follows .mixedOrders=true) (hB:JE .any l.toArray is js=true)
  (h:wpQuiet P l.toArray (fun _=>True) (fun a'=>wpList P l.toArray (NoPanic Q) (iq l js) a' w.drew) (iq l is) a):(Code.region id l.toArray true).wp P Q a w:=by
 simp only [JE,Bool.and_eq_true,decide_eq_true_eq] at hB;obtain ⟨⟨hsel,hlen⟩,hlex⟩:=hB;refine wp_region_noPanic (wp_region_held (S:=fun _=>True) hmx ?_);have key:=xq (md:=.any) (Q:=NoPanic Q) (w:={ w with drawn:=w.drawn+1}) (xN .any l.toArray js) js.length hsel (fun c a a' w h=>h)
  (fun listed a' hF hL=>sH js listed a' _ hF hL) is _ a hlex h
 rwa [hlen] at key
end
end perm
theorem t116{P:Prop}(h:P:=by
 have e:l.toArray.size=l.length:=by simp
 rw [e];exact h):P:=h
namespace plan
open Go Go.RowKit
section
variable {P:Program} {md:Region.Mode} {Q:Exit->Act->World->Prop} {l:List Oper}
def Rest (P:Program) (md:Region.Mode) (l:List Oper) (Q:Exit->Act->World->Prop) (f:Nat) (listed:Array Bool) (a:Act) (w:World):Prop:=
 wpAnyH P md l.toArray (NoPanic Q) (Below w.heap.size w) f listed a w
theorem weaken {S S':World->Prop} (hS:∀w,S' w->S w):∀(f:Nat) (listed:Array Bool) (a:Act) (w:World),wpAnyH P md l.toArray Q S' f listed a w->wpAnyH P md l.toArray Q S f listed a w
 | 0,_,_,_,h=>h
 | f+1,_,_,_,h=>⟨h.1,fun i hi=>wpOp_mono (fun a' w' h'=>⟨hS _ h'.1,weaken hS f _ a' w' h'.2⟩) (h.2 i hi)⟩
theorem Rest.first {f:Nat} {listed:Array Bool} {a:Act} {w:World} (i:Nat) (o:Oper) (v:Value) (hi:l[i]?=some o) (hv:∀w',Below w.heap.size w w'->(execOp a.eval o).run P w'=.ok (.value v) w')
  (h:Rest P md l Q f (listed.setIfInBounds i true) (a.put o.dst v) w) (hs:Region.noSelect l.toArray=true:=by kernel_rfl) (hf:Region.free md l.toArray listed i=true:=by kernel_rfl) (hr:(Region.ready md l.toArray listed).contains i=true:=by kernel_rfl) (hw:Region.wanted o (yielded l.toArray a.tmps)=true:=by kernel_rfl):Rest P md l Q (f+1) listed a w:=
 wpAnyH_take (by simpa using hi) hs hf hr (fun c a' w' h=>h) (.inl ⟨hw,hv⟩) (Below.refl _ _) h
theorem Rest.value {f:Nat} {listed:Array Bool} {a:Act} {w:World} (i:Nat) (o:Oper) (v:Value) (hi:l[i]?=some o)
  (h:Rest P md l Q f (listed.setIfInBounds i true) (a.put o.dst v) w) (hr:Region.ready md l.toArray listed=[i]:=by kernel_rfl) (hw:Region.wanted o (yielded l.toArray a.tmps)=true:=by kernel_rfl) (hv:(execOp a.eval o).run P w=.ok (.value v) w:=by kernel_rfl):Rest P md l Q (f+1) listed a w:=by
 refine wpAnyH_all hr si_ fun j hj=> ?_
 obtain rfl:j=i:=by simpa using hj
 have hi':l.toArray[j]?=some o:=by simpa using hi
 unfold wpOp;simp only [hi',hw,if_true,Oper.wp,hv,Oper.upon_value];exact .inl ⟨Below.refl _ _,h⟩
theorem Rest.call {f:Nat} {listed:Array Bool} {a:Act} {w:World} (i:Nat) (o:Oper) (F:FuncId) (args:Array Value) (hi:l[i]?=some o)
  (h:Calls P F args w fun e w'=>∃v,e=.returned v/\Below w.heap.size w w'/\Rest P md l Q f (listed.setIfInBounds i true) (a.put o.dst v) w') (hr:Region.ready md l.toArray listed=[i]:=by kernel_rfl) (hw:Region.wanted o (yielded l.toArray a.tmps)=true:=by kernel_rfl) (hv:(execOp a.eval o).run P w=.ok (.enter F args) w:=by kernel_rfl):Rest P md l Q (f+1) listed a w:=by
 refine wpAnyH_all hr si_ fun j hj=> ?_
 obtain rfl:j=i:=by simpa using hj
 have hi':l.toArray[j]?=some o:=by simpa using hi
 unfold wpOp;simp only [hi',hw,if_true,Oper.wp,hv,Oper.upon];refine .inl (h.mono ?_);rintro e w' ⟨v,rfl,hb,hR⟩;exact ⟨hb,weaken (fun w'' hb'=>hb.trans (hb'.mono hb.size)) _ _ _ _ hR⟩
theorem Rest.done {listed:Array Bool} {a:Act} {w:World} (h:Q .normal a w) (hr:Region.ready md l.toArray listed=[]:=by kernel_rfl):Rest P md l Q 0 listed a w:=⟨hr,NoPanic.normal h⟩
theorem jb {o:Oper} {a:Act} {w:World} {ty:TypeId} {x:Operand} {b:Nat} {cs:List Value} {d:TypeDesc} (ho:o.op=.load ty x) (hc:w.rangeAt b 0 cs)
  (hu:P.underlying ty=some d) (hd:d.isRow=true) (hi:(P.info? ty).map (·.size)=some cs.length) (hx:a.eval x=.pointer (some ⟨b,0,none⟩):=by kernel_rfl):(execOp a.eval o).run P w=.ok (.value (.agg cs.toArray)) w:=by
 unfold execOp;simp [ho,hx,run_loadAt_mid w b 0 ty cs d hc hu hd hi]
theorem region {id:Nat} {a:Act} {w:World} (hmx:P.follows .mixedOrders=true) (h:Rest P .any l Q l.length (Array.replicate l.length false) a w.drew):(Code.region id l.toArray true).wp P Q a w:=by
 refine wp_region_noPanic (wp_region_held (S:=Below w.drew.heap.size w.drew) hmx ?_)
 exact t116
end
end plan
theorem t99{P:Prop}(h:P:=by
 unfold execOp;simp [ho,hx,hy,run_storeAt_mid w g 0 ty cells (hb.there 0 cells.size om_) hs h1]):P:=h
theorem t95{P:Prop}(h:P:=by
 have:=hB.lt;simp only [ne_eq,Value.pointer.injEq,Option.some.injEq,Addr.mk.injEq,and_true];omega):P:=h
namespace plan
open Go Go.RowKit
theorem qB (a:Act) (d:Nat) (u v:Value):(a.put (some d) u).put (some d) v=a.put (some d) v:=by
 simp [Act.put]
theorem put_comm (a:Act) (d e:Nat) (u v:Value) (h:d≠e):(a.put (some d) u).put (some e) v=(a.put (some e) v).put (some d) u:=by
 simp only [Act.put,Act.mk.injEq,and_true];exact Array.setIfInBounds_comm u v h
section
variable {P:Program} {md:Region.Mode} {Q:Exit->Act->World->Prop} {l:List Oper}
theorem every {S:World->Prop} {f:Nat} {listed:Array Bool} {a:Act} {w:World} (hne:Region.ready md l.toArray listed≠[])
  (h:∀i∈Region.ready md l.toArray listed,∃o,l[i]?=some o/\o.guard=none/\
   ((∃v w1,(execOp a.eval o).run P w=.ok (.value v) w1/\S w1/\wpAnyH P md l.toArray (NoPanic Q) S f (listed.setIfInBounds i true) (a.put o.dst v) w1)\/
    (∃F args,(execOp a.eval o).run P w=.ok (.enter F args) w/\Calls P F args w fun e w'=>∃v,e=.returned v/\S w'/\wpAnyH P md l.toArray (NoPanic Q) S f (listed.setIfInBounds i true) (a.put o.dst v) w'))):
  wpAnyH P md l.toArray (NoPanic Q) S (f+1) listed a w:=by
 refine wpAnyH_all rfl hne fun i hi=> ?_
 obtain ⟨o,ho,hg,h⟩:=h i hi;have hi':l.toArray[i]?=some o:=by simpa using ho
 have hw:Region.wanted o (yielded l.toArray a.tmps)=true:=by unfold Region.wanted;rw [hg]
 unfold wpOp;rcases h with ⟨v,w1,hv,hb,hR⟩ | ⟨F,args,hv,hc⟩
 ·simp only [hi',hw,if_true,Oper.wp,hv,Oper.upon];exact .inl ⟨hb,hR⟩
 ·simp only [hi',hw,if_true,Oper.wp,hv,Oper.upon];refine .inl (hc.mono ?_);rintro e w' ⟨v,rfl,hb,hR⟩;exact ⟨hb,hR⟩
theorem store {f:Nat} {listed:Array Bool} {a:Act} {w0 w:World} (B i:Nat) (o:Oper) (ty:TypeId) (x y:Operand) (g:Nat) (t:TypeId) (cs:List Value) (cells:Array Value) (hi:l[i]?=some o) (hg:o.guard=none) (ho:o.op=.store ty x y) (hd:o.dst=none)
  (hr:Region.ready md l.toArray listed=[i]) (hx:a.eval x=.pointer (some ⟨g,0,none⟩)) (hy:a.eval y=.agg cells) (hb:Block w g t cs) (hl:cs.length=cells.size) (hs:(P.info? ty).map (·.size)=some cells.size) (h1:cells.all (·.oneCell')=true)
  (h0:Below B w0 w) (hB:B<=g)
  (hS:∀w',Below B w0 w'->Block w' g t cells.toList->(∀g' t' cs',g'≠g->Block w g' t' cs'->Block w' g' t' cs')->wpAnyH P md l.toArray (NoPanic Q) (Below B w0) f (listed.setIfInBounds i true) a w'):
  wpAnyH P md l.toArray (NoPanic Q) (Below B w0) (f+1) listed a w:=by
 refine wpAnyH_all hr si_ fun j hj=> ?_
 obtain rfl:j=i:=by simpa using hj
 have hi':l.toArray[j]?=some o:=by simpa using hi
 have hw:Region.wanted o (yielded l.toArray a.tmps)=true:=by unfold Region.wanted;rw [hg]
 have hrun:(execOp a.eval o).run P w=.ok .skip (w.setCells g 0 cells.toList):=by
  exact t99
 have hbl:Below B w0 (w.setCells g 0 cells.toList):=below_setCells h0 hB _ _;unfold wpOp;simp only [hi',hw,if_true,Oper.wp,hrun,Oper.upon];refine .inl ⟨hbl, ?_⟩;rw [hd];refine hS _ hbl ?_ fun g' t' cs' hne h'=>h'.jB g 0 _ hne
 have:=hb.setCells (vs:=cells.toList) (o:=0);rwa [dS _ _ (by simpa using hl)] at this
def at4 (a0:Act) (d2 d5 d6 d7:Nat) (v2 v5 p6 p7:Value):Act:=(((a0.put (some d2) v2).put (some d5) v5).put (some d6) p6).put (some d7) p7
structure Inv4 (w0:World) (t:TypeId) (Z:List Value) (V2 V5:Value) (b2 b5 b6 b7:Bool) (v2 v5 p6 p7:Value) (w:World):Prop where
 below:Below w0.heap.size w0 w
 c2:b2=true->v2=V2
 c5:b5=true->v5=V5
 a6:b6=true->∃g,p6=.pointer (some ⟨g,0,none⟩)/\w0.heap.size<=g/\Block w g t Z
 a7:b7=true->∃g,p7=.pointer (some ⟨g,0,none⟩)/\w0.heap.size<=g/\Block w g t Z
 ne:b6=true->b7=true->p6≠p7
theorem Inv4.later {w0 w w':World} {t:TypeId} {Z:List Value} {V2 V5:Value} {b2 b5 b6 b7:Bool} {v2 v5 p6 p7:Value} (h:Inv4 w0 t Z V2 V5 b2 b5 b6 b7 v2 v5 p6 p7 w) (hb:Below w.heap.size w w'):
  Inv4 w0 t Z V2 V5 b2 b5 b6 b7 v2 v5 p6 p7 w':=
 ⟨h.below.trans (hb.mono h.below.size),h.c2,h.c5,fun e=>(h.a6 e).imp fun g ⟨h1,h2,h3⟩=>⟨h1,h2,h3.later hb⟩,fun e=>(h.a7 e).imp fun g ⟨h1,h2,h3⟩=>⟨h1,h2,h3.later hb⟩,h.ne⟩
theorem four (a0:Act) (w0:World) (t:TypeId) (Z:List Value) (V2 V5:Value) (d2 d5 d6 d7:Nat) (o2 o5 o6 o7:Oper) (F:FuncId) (x2 x5:Array Value)
  (n25:d2≠d5) (n26:d2≠d6) (n27:d2≠d7) (n56:d5≠d6) (n57:d5≠d7) (n67:d6≠d7)
  (l2:l[2]?=some o2) (l5:l[5]?=some o5) (l6:l[6]?=some o6) (l7:l[7]?=some o7)
  (g2:o2.guard=none) (g5:o5.guard=none) (g6:o6.guard=none) (g7:o7.guard=none)
  (s2:o2.dst=some d2) (s5:o5.dst=some d5) (s6:o6.dst=some d6) (s7:o7.dst=some d7)
  (hready:∀b2 b5 b6 b7,(b5=true->b2=true)->(b2 && b5 && b6 && b7)=false->
   Region.ready md l.toArray #[true,true,b2,true,true,b5,b6,b7,false,false]=(if b2=true then (if b5=true then [] else [5]) else [2])++((if b6=true then [] else [6])++(if b7=true then [] else [7])))
  (r2:∀v2 v5 p6 p7 w,(execOp (at4 a0 d2 d5 d6 d7 v2 v5 p6 p7).eval o2).run P w=.ok (.enter F x2) w)
  (r5:∀v2 v5 p6 p7 w,(execOp (at4 a0 d2 d5 d6 d7 v2 v5 p6 p7).eval o5).run P w=.ok (.enter F x5) w)
  (r6:∀v2 v5 p6 p7 w,(execOp (at4 a0 d2 d5 d6 d7 v2 v5 p6 p7).eval o6).run P w=.ok (.value (.pointer (some ⟨w.heap.size,0,none⟩))) (w.alloc (.cells Z.toArray t)))
  (r7:∀v2 v5 p6 p7 w,(execOp (at4 a0 d2 d5 d6 d7 v2 v5 p6 p7).eval o7).run P w=.ok (.value (.pointer (some ⟨w.heap.size,0,none⟩))) (w.alloc (.cells Z.toArray t)))
  (k2:∀w,Calls P F x2 w fun e w'=>e=.returned V2/\Below w.heap.size w w') (k5:∀w,Calls P F x5 w fun e w'=>e=.returned V5/\Below w.heap.size w w')
  (rest:∀g g' w',w0.heap.size<=g->w0.heap.size<=g'->g≠g'->Block w' g t Z->Block w' g' t Z->Below w0.heap.size w0 w'->
   wpAnyH P md l.toArray (NoPanic Q) (Below w0.heap.size w0) 2 #[true,true,true,true,true,true,true,true,false,false] (at4 a0 d2 d5 d6 d7 V2 V5 (.pointer (some ⟨g,0,none⟩)) (.pointer (some ⟨g',0,none⟩))) w'):
  ∀(n:Nat) (b2 b5 b6 b7:Bool) (v2 v5 p6 p7:Value) (w:World),(b5=true->b2=true)->n=(if b2=true then 0 else 1)+(if b5=true then 0 else 1)+(if b6=true then 0 else 1)+(if b7=true then 0 else 1)->
   Inv4 w0 t Z V2 V5 b2 b5 b6 b7 v2 v5 p6 p7 w->
   wpAnyH P md l.toArray (NoPanic Q) (Below w0.heap.size w0) (n+2) #[true,true,b2,true,true,b5,b6,b7,false,false] (at4 a0 d2 d5 d6 d7 v2 v5 p6 p7) w:=by
 have e2:∀v2 v5 p6 p7 v,(at4 a0 d2 d5 d6 d7 v2 v5 p6 p7).put (some d2) v=at4 a0 d2 d5 d6 d7 v v5 p6 p7:=by
  intro v2 v5 p6 p7 v;unfold at4;rw [put_comm _ d7 d2 _ _ n27.symm,put_comm _ d6 d2 _ _ n26.symm,put_comm _ d5 d2 _ _ n25.symm,qB]
 have e5:∀v2 v5 p6 p7 v,(at4 a0 d2 d5 d6 d7 v2 v5 p6 p7).put (some d5) v=at4 a0 d2 d5 d6 d7 v2 v p6 p7:=by
  intro v2 v5 p6 p7 v;unfold at4;rw [put_comm _ d7 d5 _ _ n57.symm,put_comm _ d6 d5 _ _ n56.symm,qB]
 have e6:∀v2 v5 p6 p7 v,(at4 a0 d2 d5 d6 d7 v2 v5 p6 p7).put (some d6) v=at4 a0 d2 d5 d6 d7 v2 v5 v p7:=by
  intro v2 v5 p6 p7 v;unfold at4;rw [put_comm _ d7 d6 _ _ n67.symm,qB]
 have e7:∀v2 v5 p6 p7 v,(at4 a0 d2 d5 d6 d7 v2 v5 p6 p7).put (some d7) v=at4 a0 d2 d5 d6 d7 v2 v5 p6 v:=by
  intro v2 v5 p6 p7 v;unfold at4;rw [qB]
 have hal:∀w:World,Below w.heap.size w (w.alloc (.cells Z.toArray t)):=fun w=>(Below.refl _ w).alloc (Nat.le_refl _) _
 intro n;induction n with
 | zero=>
  intro b2 b5 b6 b7 v2 v5 p6 p7 w h25 hn inv;cases b2 <;> cases b5 <;> cases b6 <;> cases b7 <;> simp at hn
  obtain rfl:=inv.c2 rfl;obtain rfl:=inv.c5 rfl;obtain ⟨g,rfl,hg,hB⟩:=inv.a6 rfl;obtain ⟨g',rfl,hg',hB'⟩:=inv.a7 rfl;exact rest g g' w hg hg' (by rintro rfl;exact inv.ne rfl rfl rfl) hB hB' inv.below
 | succ n ih=>
  intro b2 b5 b6 b7 v2 v5 p6 p7 w h25 hn inv;have hall:(b2 && b5 && b6 && b7)=false:=by
   cases b2 <;> cases b5 <;> cases b6 <;> cases b7 <;> simp at hn ⊢
  have hr:=hready b2 b5 b6 b7 h25 hall;refine every ?_ ?_
  ·rw [hr];cases b2 <;> cases b5 <;> cases b6 <;> cases b7 <;> simp at hall ⊢
  ·rw [hr];intro i hi;simp only [List.mem_append] at hi;rcases hi with hi | hi | hi
   ·cases b2 with
    | false=>
     obtain rfl:i=2:=by simpa using hi
     obtain rfl:b5=false:=by cases b5 <;> simp at h25 ⊢
     refine ⟨o2,l2,g2,.inr ⟨F,x2,r2 _ _ _ _ _,(k2 w).mono ?_⟩⟩;rintro e w' ⟨rfl,hb⟩;refine ⟨V2,rfl,(inv.later hb).below, ?_⟩;rw [s2,e2];have i':=inv.later hb;exact ih true false b6 b7 V2 v5 p6 p7 w' si_ (by simp at hn ⊢;omega) ⟨i'.below,fun _=>rfl,i'.c5,i'.a6,i'.a7,i'.ne⟩
    | true=>
     cases b5 with
     | true=>simp at hi
     | false=>
      obtain rfl:i=5:=by simpa using hi
      refine ⟨o5,l5,g5,.inr ⟨F,x5,r5 _ _ _ _ _,(k5 w).mono ?_⟩⟩;rintro e w' ⟨rfl,hb⟩;refine ⟨V5,rfl,(inv.later hb).below, ?_⟩;rw [s5,e5];have i':=inv.later hb;exact ih true true b6 b7 v2 V5 p6 p7 w' si_ (by simp at hn ⊢;omega) ⟨i'.below,i'.c2,fun _=>rfl,i'.a6,i'.a7,i'.ne⟩
   ·cases b6 with
    | true=>simp at hi
    | false=>
     obtain rfl:i=6:=by simpa using hi
     refine ⟨o6,l6,g6,.inl ⟨_,_,r6 _ _ _ _ _,(inv.later (hal w)).below, ?_⟩⟩;rw [s6,e6];have i':=inv.later (hal w);refine ih b2 b5 true b7 v2 v5 _ p7 _ h25 (by simp at hn ⊢;omega) ⟨i'.below,i'.c2,i'.c5,fun _=>⟨_,rfl,inv.below.size,Block.new w t Z⟩,i'.a7,fun _ e7=> ?_⟩;obtain ⟨g,rfl,_,hB⟩:=inv.a7 e7
     exact t95
   ·cases b7 with
    | true=>simp at hi
    | false=>
     obtain rfl:i=7:=by simpa using hi
     refine ⟨o7,l7,g7,.inl ⟨_,_,r7 _ _ _ _ _,(inv.later (hal w)).below, ?_⟩⟩;rw [s7,e7];have i':=inv.later (hal w);refine ih b2 b5 b6 true v2 v5 p6 _ _ h25 (by simp at hn ⊢;omega) ⟨i'.below,i'.c2,i'.c5,i'.a6,fun _=>⟨_,rfl,inv.below.size,Block.new w t Z⟩,fun e6 _=> ?_⟩;obtain ⟨g,rfl,_,hB⟩:=inv.a6 e6
     exact t95
end
end plan
namespace plan
open Go Go.RowKit
section
variable {P:Program} {md:Region.Mode} {Q:Exit->Act->World->Prop} {l:List Oper}
theorem Rest.skip {f:Nat} {listed:Array Bool} {a:Act} {w:World} (i:Nat) (o:Oper) (hi:l[i]?=some o)
  (h:Rest P md l Q f (listed.setIfInBounds i true) (a.put o.dst undef) w) (hs:Region.noSelect l.toArray=true:=by kernel_rfl) (hf:Region.free md l.toArray listed i=true:=by kernel_rfl) (hr:(Region.ready md l.toArray listed).contains i=true:=by kernel_rfl) (hw:Region.wanted o (yielded l.toArray a.tmps)=false:=by kernel_rfl):Rest P md l Q (f+1) listed a w:=
 wpAnyH_take (by simpa using hi) hs hf hr (fun c a' w' h=>h) (.inr ⟨hw,rfl⟩) (Below.refl _ _) h
end
end plan
namespace plan
open Go Go.RowKit
section
variable {P:Program} {l:List Oper} {Q:Exit->Act->World->Prop} {a:Act} {w:World}
end
end plan
namespace plan
open Go Go.RowKit
section
variable {P:Program} {l:List Oper} {Q:Exit->Act->World->Prop} {a:Act} {w:World}
end
end plan
theorem t94{P:Prop}(h:P:=by
 rw [show (sizeOf (prog.elem 91)).run prog W=.ok 1 W by kernel_rfl];simp [Result.andThen,sliced,shift]):P:=h
namespace cut
open Go.RowKit
def shift (a:Option Addr) (k cap:Nat):Option Addr:=if cap=k then a else a.map (·.add k)
theorem zn (W:World) (a:Option Addr) (len cap k:Nat) (h:k<=len):(Instr.slice 91 (.slice a len cap) (some (.int .i64 (k:Int))) none none).run prog W=.ok (.slice (shift a k cap) (len - k) (cap - k)) W:=by
 rw [run_slice_l W 91 a len cap kr_ .i64 k om_ om_]
 exact t94
theorem FQ (W:World) (a:Option Addr) (len cap k:Nat) (h:k<=cap):(Instr.slice 91 (.slice a len cap) none (some (.int .i64 (k:Int))) none).run prog W=.ok (.slice (shift a 0 cap) k cap) W:=by
 rw [run_slice_h W 91 a len cap kr_ .i64 k om_ om_]
 exact t94
theorem su {w:World} {a:Option Addr} {len cap k:Nat} {xs:List Nat} (h:Reads .u8 w a len xs) (hk:k<=len) (hc:len<=cap):Reads .u8 w (shift a k cap) (len - k) (xs.drop k):=by
 refine ⟨by rw [List.length_drop,h.1], ?_⟩;by_cases h0:len - k=0
 ·exact .inl h0
 ·obtain ⟨b,off,rfl,hb,hcell⟩:=h.at (i:=0) om_;refine .inr ⟨b,off+k, ?_,hb,fun i hi=> ?_⟩
  ·rw [shift,if_neg om_,Option.map_some,Addr.add_lit]
  ·have:=hcell (k+i) om_;rw [Nat.add_assoc,this,List.getD_eq_getElem?_getD,List.getD_eq_getElem?_getD,List.getElem?_drop]
theorem uY {w:World} {a:Option Addr} {len cap k:Nat} {xs:List Nat} (h:Reads .u8 w a len xs) (hk:k<=len):Reads .u8 w (shift a 0 cap) k (xs.take k):=by
 refine ⟨by rw [List.length_take,h.1];omega, ?_⟩;by_cases h0:k=0
 ·exact .inl h0
 ·obtain ⟨b,off,rfl,hb,hcell⟩:=h.at (i:=0) om_;refine .inr ⟨b,off, ?_,hb,fun i hi=> ?_⟩
  ·unfold shift;split <;> rfl
  ·have:=hcell i om_;rw [this,List.getD_eq_getElem?_getD,List.getD_eq_getElem?_getD,List.getElem?_take,if_pos hi]
end cut
namespace whole
open Go.Shelf
def sortItems_ren:Go.Shelf.Ren:=⟨fun | 6=>23 | 15=>58 | 14=>57 | 28=>111 | 29=>112 | 20=>103 | 21=>104 | 22=>105 | 23=>106 | 24=>107 | 25=>108 | 26=>109 | 27=>110 | 46=>163 | 47=>164 | 48=>165 | 49=>166 | 50=>167 | 57=>207 | n=>n,fun | 22=>26 | 24=>43 | 25=>72 | 3=>3 | 39=>114 | 0=>0 | 53=>40 | 55=>170 | 4=>4 | 46=>162 | 45=>161 | 50=>166 | 5=>5 | 9=>9 | 66=>204 | 70=>208 | 76=>242 | 77=>232 | n=>n,fun | n=>n⟩
theorem sortItems:Go.Proofs.SlLaysF0.n6 prog sortItems_ren:={
 mixed:=by kernel_rfl
 f6:=⟨Tryz.f23.name,by decide,func23.trans (congrArg some kr_)⟩
 f14:=⟨Tryz.f57.name,by decide,func57.trans (congrArg some kr_)⟩
 f15:=func58.trans (congrArg some kr_)
 f20:=⟨Tryz.f103.name,by decide,func103.trans (congrArg some kr_)⟩
 f21:=⟨Tryz.f104.name,by decide,func104.trans (congrArg some kr_)⟩
 f22:=⟨Tryz.f105.name,by decide,func105.trans (congrArg some kr_)⟩
 f23:=⟨Tryz.f106.name,by decide,func106.trans (congrArg some kr_)⟩
 f24:=⟨Tryz.f107.name,by decide,func107.trans (congrArg some kr_)⟩
 f25:=⟨Tryz.f108.name,by decide,func108.trans (congrArg some kr_)⟩
 f26:=⟨Tryz.f109.name,by decide,func109.trans (congrArg some kr_)⟩
 f27:=⟨Tryz.f110.name,by decide,func110.trans (congrArg some kr_)⟩
 f28:=func111.trans (congrArg some kr_)
 f29:=func112.trans (congrArg some kr_)
 f46:=⟨Tryz.f163.name,by decide,func163.trans (congrArg some kr_)⟩
 f47:=func164.trans (congrArg some kr_)
 f48:=func165.trans (congrArg some kr_)
 f49:=⟨Tryz.f166.name,by decide,func166.trans (congrArg some kr_)⟩
 f50:=⟨Tryz.f167.name,by decide,func167.trans (congrArg some kr_)⟩
 f57:=⟨Tryz.f207.name,by decide,func207.trans (congrArg some kr_)⟩
 t0:=underlying0
 a0:=isAgg0
 z0:=Tryz.sizeOf0
 v0:=Tryz.zeroValue0
 t3:=underlying3
 a3:=isAgg3
 z3:=Tryz.sizeOf3
 v3:=Tryz.zeroValue3
 t4:=underlying4
 a4:=isAgg4
 z4:=Tryz.sizeOf4
 v4:=Tryz.zeroValue4
 t5:=underlying5
 a5:=isAgg5
 z5:=Tryz.sizeOf5
 v5:=Tryz.zeroValue5
 t9:=underlying9
 a9:=isAgg9
 z9:=Tryz.sizeOf9
 v9:=Tryz.zeroValue9
 t22:=underlying26
 a22:=isAgg26
 z22:=Tryz.sizeOf26
 v22:=Tryz.zeroValue26
 t25:=underlying72
 a25:=isAgg72
 z25:=Tryz.sizeOf72
 v25:=Tryz.zeroValue72
 t39:=underlying114
 a39:=isAgg114
 z39:=Tryz.sizeOf114
 v39:=Tryz.zeroValue114
 t45:=underlying161
 a45:=isAgg161
 z45:=Tryz.sizeOf161
 v45:=Tryz.zeroValue161
 t46:=underlying162
 a46:=isAgg162
 z46:=Tryz.sizeOf162
 v46:=Tryz.zeroValue162
 t50:=underlying166
 a50:=isAgg166
 z50:=Tryz.sizeOf166
 v50:=Tryz.zeroValue166
 t53:=underlying40
 a53:=isAgg40
 z53:=Tryz.sizeOf40
 v53:=Tryz.zeroValue40
 t55:=underlying170
 a55:=isAgg170
 z55:=Tryz.sizeOf170
 v55:=Tryz.zeroValue170
 t66:=underlying204
 a66:=isAgg204
 z66:=Tryz.sizeOf204
 v66:=Tryz.zeroValue204
 t70:=underlying208
 a70:=isAgg208
 z70:=Tryz.sizeOf208
 v70:=Tryz.zeroValue208
 t76:=underlying242
 a76:=isAgg242
 z76:=Tryz.sizeOf242
 v76:=Tryz.zeroValue242
 t77:=underlying232
 a77:=isAgg232
 z77:=Tryz.sizeOf232
 v77:=Tryz.zeroValue232}
def sortEntries_ren:Go.Shelf.Ren:=⟨fun | 6=>78 | 15=>58 | 14=>125 | 28=>111 | 29=>112 | 20=>174 | 21=>175 | 22=>176 | 23=>177 | 24=>178 | 25=>179 | 26=>180 | 27=>181 | 46=>212 | 47=>164 | 48=>165 | 49=>213 | 50=>214 | 57=>225 | n=>n,fun | 22=>61 | 24=>68 | 25=>133 | 3=>3 | 39=>114 | 0=>0 | 53=>40 | 55=>170 | 4=>4 | 46=>162 | 45=>161 | 50=>166 | 5=>5 | 9=>9 | 66=>204 | 70=>208 | 76=>242 | 77=>232 | n=>n,fun | n=>n⟩
theorem sortEntries:Go.Proofs.SlLaysF0.n6 prog sortEntries_ren:={
 mixed:=by kernel_rfl
 f6:=⟨Tryz.f78.name,by decide,func78.trans (congrArg some kr_)⟩
 f14:=⟨Tryz.f125.name,by decide,func125.trans (congrArg some kr_)⟩
 f15:=func58.trans (congrArg some kr_)
 f20:=⟨Tryz.f174.name,by decide,func174.trans (congrArg some kr_)⟩
 f21:=⟨Tryz.f175.name,by decide,func175.trans (congrArg some kr_)⟩
 f22:=⟨Tryz.f176.name,by decide,func176.trans (congrArg some kr_)⟩
 f23:=⟨Tryz.f177.name,by decide,func177.trans (congrArg some kr_)⟩
 f24:=⟨Tryz.f178.name,by decide,func178.trans (congrArg some kr_)⟩
 f25:=⟨Tryz.f179.name,by decide,func179.trans (congrArg some kr_)⟩
 f26:=⟨Tryz.f180.name,by decide,func180.trans (congrArg some kr_)⟩
 f27:=⟨Tryz.f181.name,by decide,func181.trans (congrArg some kr_)⟩
 f28:=func111.trans (congrArg some kr_)
 f29:=func112.trans (congrArg some kr_)
 f46:=⟨Tryz.f212.name,by decide,func212.trans (congrArg some kr_)⟩
 f47:=func164.trans (congrArg some kr_)
 f48:=func165.trans (congrArg some kr_)
 f49:=⟨Tryz.f213.name,by decide,func213.trans (congrArg some kr_)⟩
 f50:=⟨Tryz.f214.name,by decide,func214.trans (congrArg some kr_)⟩
 f57:=⟨Tryz.f225.name,by decide,func225.trans (congrArg some kr_)⟩
 t0:=underlying0
 a0:=isAgg0
 z0:=Tryz.sizeOf0
 v0:=Tryz.zeroValue0
 t3:=underlying3
 a3:=isAgg3
 z3:=Tryz.sizeOf3
 v3:=Tryz.zeroValue3
 t4:=underlying4
 a4:=isAgg4
 z4:=Tryz.sizeOf4
 v4:=Tryz.zeroValue4
 t5:=underlying5
 a5:=isAgg5
 z5:=Tryz.sizeOf5
 v5:=Tryz.zeroValue5
 t9:=underlying9
 a9:=isAgg9
 z9:=Tryz.sizeOf9
 v9:=Tryz.zeroValue9
 t22:=underlying61
 a22:=isAgg61
 z22:=Tryz.sizeOf61
 v22:=Tryz.zeroValue61
 t25:=underlying133
 a25:=isAgg133
 z25:=Tryz.sizeOf133
 v25:=Tryz.zeroValue133
 t39:=underlying114
 a39:=isAgg114
 z39:=Tryz.sizeOf114
 v39:=Tryz.zeroValue114
 t45:=underlying161
 a45:=isAgg161
 z45:=Tryz.sizeOf161
 v45:=Tryz.zeroValue161
 t46:=underlying162
 a46:=isAgg162
 z46:=Tryz.sizeOf162
 v46:=Tryz.zeroValue162
 t50:=underlying166
 a50:=isAgg166
 z50:=Tryz.sizeOf166
 v50:=Tryz.zeroValue166
 t53:=underlying40
 a53:=isAgg40
 z53:=Tryz.sizeOf40
 v53:=Tryz.zeroValue40
 t55:=underlying170
 a55:=isAgg170
 z55:=Tryz.sizeOf170
 v55:=Tryz.zeroValue170
 t66:=underlying204
 a66:=isAgg204
 z66:=Tryz.sizeOf204
 v66:=Tryz.zeroValue204
 t70:=underlying208
 a70:=isAgg208
 z70:=Tryz.sizeOf208
 v70:=Tryz.zeroValue208
 t76:=underlying242
 a76:=isAgg242
 z76:=Tryz.sizeOf242
 v76:=Tryz.zeroValue242
 t77:=underlying232
 a77:=isAgg232
 z77:=Tryz.sizeOf232
 v77:=Tryz.zeroValue232}
def anyItem_ren:Go.Shelf.Ren:=⟨fun | 8=>42 | 6=>74 | n=>n,fun | 22=>26 | 23=>43 | 25=>93 | 4=>4 | 3=>3 | 0=>0 | n=>n,fun | n=>n⟩
theorem anyItem:Go.Proofs.SlLaysH0.n8 prog anyItem_ren:={
 mixed:=by kernel_rfl
 f6:=⟨Tryz.f74.name,by decide,func74.trans (congrArg some kr_)⟩
 f8:=⟨Tryz.f42.name,by decide,func42.trans (congrArg some kr_)⟩
 t0:=underlying0
 a0:=isAgg0
 z0:=Tryz.sizeOf0
 v0:=Tryz.zeroValue0
 t3:=underlying3
 a3:=isAgg3
 z3:=Tryz.sizeOf3
 v3:=Tryz.zeroValue3
 t4:=underlying4
 a4:=isAgg4
 z4:=Tryz.sizeOf4
 v4:=Tryz.zeroValue4
 t22:=underlying26
 a22:=isAgg26
 z22:=Tryz.sizeOf26
 v22:=Tryz.zeroValue26
 t25:=underlying93
 a25:=isAgg93
 z25:=Tryz.sizeOf93
 v25:=Tryz.zeroValue93}
end whole
end Go.Proofs.YtogkgbnpodojjaaGreat
