/- Contracts and lemmas that claims of this seat share: Four, Drift, RegionS, AppendN, PenRefCount, PenRefText. Each says its own conditions. -/
import Derived.Test.YtogfefdlffmioaaGreatCmWord
import Derived.Maps.AppendAt
import Derived.Laws.Cover3
import Derived.Test.YtogfefdlffmioaaGreatCmD
import Derived.Test.YtogfefdlffmioaaGreatCmJ
import Derived.Test.YtogfefdlffmioaaGreatCmI
set_option linter.unusedVariables false
namespace Go.Proofs.YtogfefdlffmioaaGreat
open Go.Proofs.Tryz
theorem t82{P:Prop}(h:P:=by
 unfold execOp;simp[ho,hx,hy,run_storeAt_mid w g 0 ty cells (hb.there 0 cells.size om_) hs h1]):P:=h
theorem t80{P:Prop}(h:P:=by
 have:=hB.lt;simp only[ne_eq,Value.pointer.injEq,Option.some.injEq,Addr.mk.injEq,and_true];omega):P:=h
namespace plan
open Go Go.RowKit
theorem put_same(a:Act)(d:Nat)(u v:Value):(a.put (some d) u).put (some d) v=a.put (some d) v:=by
 simp[Act.put]
theorem put_comm(a:Act)(d e:Nat)(u v:Value)(h:d≠e):(a.put (some d) u).put (some e) v=(a.put (some e) v).put (some d) u:=by
 simp only[Act.put,Act.mk.injEq,and_true];exact Array.setIfInBounds_comm u v h
section
variable {P:Program} {md:Region.Mode} {Q:Exit->Act->World->Prop} {l:List Oper}
theorem every{S:World->Prop}{f:Nat}{listed:Array Bool}{a:Act}{w:World}(aH:Region.ready md l.toArray listed≠[])
  (h:∀i∈Region.ready md l.toArray listed,∃o,l[i]?=some o/\o.guard=none/\
   ((∃v w1,(execOp a.eval o).run P w=.ok (.value v) w1/\S w1/\wpAnyH P md l.toArray (NoPanic Q) S f (listed.setIfInBounds i true) (a.put o.dst v) w1)\/
    (∃F args,(execOp a.eval o).run P w=.ok (.enter F args) w/\Calls P F args w fun e w'=>∃v,e=.returned v/\S w'/\wpAnyH P md l.toArray (NoPanic Q) S f (listed.setIfInBounds i true) (a.put o.dst v) w'))):
  wpAnyH P md l.toArray (NoPanic Q) S (f+1) listed a w:=by
 refine wpAnyH_all rfl aH fun i hi=> ?_
 obtain⟨o,ho,hg,h⟩:=h i hi;have hi':l.toArray[i]?=some o:=by simpa using ho
 have hw:Region.wanted o (yielded l.toArray a.tmps)=true:=by unfold Region.wanted;rw[hg]
 unfold wpOp;rcases h with ⟨v,w1,hv,hb,hR⟩ | ⟨F,args,hv,hc⟩
 ·simp only[hi',hw,if_true,Oper.wp,hv,Oper.upon];exact .inl ⟨hb,hR⟩
 ·simp only[hi',hw,if_true,Oper.wp,hv,Oper.upon];refine .inl (hc.mono ?_);rintro e w' ⟨v,rfl,hb,hR⟩;exact⟨hb,hR⟩
theorem store{f:Nat}{listed:Array Bool}{a:Act}{w0 w:World}(B i:Nat)(o:Oper)(ty:TypeId)(x y:Operand)(g:Nat)(t:TypeId)(cs:List Value)(cells:Array Value)(hi:l[i]?=some o)(hg:o.guard=none)(ho:o.op=.store ty x y)(hd:o.dst=none)
  (hr:Region.ready md l.toArray listed=[i]) (hx:a.eval x=.pointer (some ⟨g,0,none⟩)) (hy:a.eval y=.agg cells) (hb:Block w g t cs) (hl:cs.length=cells.size) (hs:(P.info? ty).map (·.size)=some cells.size) (h1:cells.all (·.oneCell')=true)
  (h0:Below B w0 w) (hB:B<=g)
  (hS:∀w',Below B w0 w'->Block w' g t cells.toList->(∀g' t' cs',g'≠g->Block w g' t' cs'->Block w' g' t' cs')->wpAnyH P md l.toArray (NoPanic Q) (Below B w0) f (listed.setIfInBounds i true) a w'):
  wpAnyH P md l.toArray (NoPanic Q) (Below B w0) (f+1) listed a w:=by
 refine wpAnyH_all hr si_ fun j hj=> ?_
 obtain rfl:j=i:=by simpa using hj
 have hi':l.toArray[j]?=some o:=by simpa using hi
 have hw:Region.wanted o (yielded l.toArray a.tmps)=true:=by unfold Region.wanted;rw[hg]
 have iq:(execOp a.eval o).run P w=.ok .skip (w.setCells g 0 cells.toList):=by
  exact t82
 have bQ:Below B w0 (w.setCells g 0 cells.toList):=below_setCells h0 hB _ _;unfold wpOp;simp only[hi',hw,if_true,Oper.wp,iq,Oper.upon];refine .inl ⟨bQ, ?_⟩;rw[hd];refine hS _ bQ ?_ fun g' t' cs' aH h'=>h'.aparts g 0 _ aH
 have:=hb.setCells (vs:=cells.toList) (o:=0);rwa [put_all _ _ (by simpa using hl)] at this
def at4(a0:Act)(d2 d5 d6 d7:Nat)(v2 v5 p6 p7:Value):Act:=(((a0.put (some d2) v2).put (some d5) v5).put (some d6) p6).put (some d7) p7
structure Inv4 (w0:World) (t:TypeId) (Z:List Value) (V2 V5:Value) (b2 b5 b6 b7:Bool) (v2 v5 p6 p7:Value) (w:World):Prop where
 below:Below w0.heap.size w0 w
 c2:b2=true->v2=V2
 c5:b5=true->v5=V5
 a6:b6=true->∃g,p6=.pointer (some ⟨g,0,none⟩)/\w0.heap.size<=g/\Block w g t Z
 a7:b7=true->∃g,p7=.pointer (some ⟨g,0,none⟩)/\w0.heap.size<=g/\Block w g t Z
 ne:b6=true->b7=true->p6≠p7
theorem Inv4.later{w0 w w':World}{t:TypeId}{Z:List Value}{V2 V5:Value}{b2 b5 b6 b7:Bool}{v2 v5 p6 p7:Value}(h:Inv4 w0 t Z V2 V5 b2 b5 b6 b7 v2 v5 p6 p7 w)(hb:Below w.heap.size w w'):
  Inv4 w0 t Z V2 V5 b2 b5 b6 b7 v2 v5 p6 p7 w':=
 ⟨h.below.trans (hb.mono h.below.size),h.c2,h.c5,fun e=>(h.a6 e).imp fun g ⟨h1,h2,h3⟩=>⟨h1,h2,h3.later hb⟩,fun e=>(h.a7 e).imp fun g ⟨h1,h2,h3⟩=>⟨h1,h2,h3.later hb⟩,h.ne⟩
theorem four(a0:Act)(w0:World)(t:TypeId)(Z:List Value)(V2 V5:Value)(d2 d5 d6 d7:Nat)(o2 o5 o6 o7:Oper)(F:FuncId)(x2 x5:Array Value)
  (n25:d2≠d5) (n26:d2≠d6) (n27:d2≠d7) (n56:d5≠d6) (n57:d5≠d7) (n67:d6≠d7)
  (l2:l[2]?=some o2) (l5:l[5]?=some o5) (l6:l[6]?=some o6) (l7:l[7]?=some o7)
  (g2:o2.guard=none) (g5:o5.guard=none) (g6:o6.guard=none) (g7:o7.guard=none)
  (s2:o2.dst=some d2) (s5:o5.dst=some d5) (s6:o6.dst=some d6) (s7:o7.dst=some d7)
  (hready:∀b2 b5 b6 b7,(b5=true->b2=true)->(b2 && b5 && b6 && b7)=false->
   Region.ready md l.toArray #[true,true,b2,true,true,b5,b6,b7,false,false]=(if b2=true then(if b5=true then [] else [5]) else [2])++((if b6=true then [] else [6])++(if b7=true then [] else [7])))
  (r2:∀v2 v5 p6 p7 w,(execOp (at4 a0 d2 d5 d6 d7 v2 v5 p6 p7).eval o2).run P w=.ok (.enter F x2) w)
  (r5:∀v2 v5 p6 p7 w,(execOp (at4 a0 d2 d5 d6 d7 v2 v5 p6 p7).eval o5).run P w=.ok (.enter F x5) w)
  (r6:∀v2 v5 p6 p7 w,(execOp (at4 a0 d2 d5 d6 d7 v2 v5 p6 p7).eval o6).run P w=.ok (.value (.pointer (some ⟨w.heap.size,0,none⟩))) (w.alloc (.cells Z.toArray t)))
  (r7:∀v2 v5 p6 p7 w,(execOp (at4 a0 d2 d5 d6 d7 v2 v5 p6 p7).eval o7).run P w=.ok (.value (.pointer (some ⟨w.heap.size,0,none⟩))) (w.alloc (.cells Z.toArray t)))
  (k2:∀w,Calls P F x2 w fun e w'=>e=.returned V2/\Below w.heap.size w w') (k5:∀w,Calls P F x5 w fun e w'=>e=.returned V5/\Below w.heap.size w w')
  (rest:∀g g' w',w0.heap.size<=g->w0.heap.size<=g'->g≠g'->Block w' g t Z->Block w' g' t Z->Below w0.heap.size w0 w'->
   wpAnyH P md l.toArray (NoPanic Q) (Below w0.heap.size w0) 2 #[true,true,true,true,true,true,true,true,false,false] (at4 a0 d2 d5 d6 d7 V2 V5 (.pointer (some ⟨g,0,none⟩)) (.pointer (some ⟨g',0,none⟩))) w'):
  ∀(n:Nat) (b2 b5 b6 b7:Bool) (v2 v5 p6 p7:Value) (w:World),(b5=true->b2=true)->n=(if b2=true then 0 else 1)+(if b5=true then 0 else 1)+(if b6=true then 0 else 1)+(if b7=true then 0 else 1)->
   Inv4 w0 t Z V2 V5 b2 b5 b6 b7 v2 v5 p6 p7 w->
   wpAnyH P md l.toArray (NoPanic Q) (Below w0.heap.size w0) (n+2) #[true,true,b2,true,true,b5,b6,b7,false,false] (at4 a0 d2 d5 d6 d7 v2 v5 p6 p7) w:=by
 have e2:∀v2 v5 p6 p7 v,(at4 a0 d2 d5 d6 d7 v2 v5 p6 p7).put (some d2) v=at4 a0 d2 d5 d6 d7 v v5 p6 p7:=by
  intro v2 v5 p6 p7 v;unfold at4;rw[put_comm _ d7 d2 _ _ n27.symm,put_comm _ d6 d2 _ _ n26.symm,put_comm _ d5 d2 _ _ n25.symm,put_same]
 have e5:∀v2 v5 p6 p7 v,(at4 a0 d2 d5 d6 d7 v2 v5 p6 p7).put (some d5) v=at4 a0 d2 d5 d6 d7 v2 v p6 p7:=by
  intro v2 v5 p6 p7 v;unfold at4;rw[put_comm _ d7 d5 _ _ n57.symm,put_comm _ d6 d5 _ _ n56.symm,put_same]
 have e6:∀v2 v5 p6 p7 v,(at4 a0 d2 d5 d6 d7 v2 v5 p6 p7).put (some d6) v=at4 a0 d2 d5 d6 d7 v2 v5 v p7:=by
  intro v2 v5 p6 p7 v;unfold at4;rw[put_comm _ d7 d6 _ _ n67.symm,put_same]
 have e7:∀v2 v5 p6 p7 v,(at4 a0 d2 d5 d6 d7 v2 v5 p6 p7).put (some d7) v=at4 a0 d2 d5 d6 d7 v2 v5 p6 v:=by
  intro v2 v5 p6 p7 v;unfold at4;rw[put_same]
 have hal:∀w:World,Below w.heap.size w (w.alloc (.cells Z.toArray t)):=fun w=>(Below.refl _ w).alloc (Nat.le_refl _) _
 intro n;induction n with
 | zero=>
  intro b2 b5 b6 b7 v2 v5 p6 p7 w mQ hn inv;cases b2 <;> cases b5 <;> cases b6 <;> cases b7 <;> simp at hn
  obtain rfl:=inv.c2 rfl;obtain rfl:=inv.c5 rfl;obtain⟨g,rfl,hg,hB⟩:=inv.a6 rfl;obtain⟨g',rfl,hg',iO⟩:=inv.a7 rfl;exact rest g g' w hg hg' (by rintro rfl;exact inv.ne rfl rfl rfl) hB iO inv.below
 | succ n ih=>
  intro b2 b5 b6 b7 v2 v5 p6 p7 w mQ hn inv;have hall:(b2 && b5 && b6 && b7)=false:=by
   cases b2 <;> cases b5 <;> cases b6 <;> cases b7 <;> simp at hn ⊢
  have hr:=hready b2 b5 b6 b7 mQ hall;refine every ?_ ?_
  ·rw[hr];cases b2 <;> cases b5 <;> cases b6 <;> cases b7 <;> simp at hall ⊢
  ·rw[hr];intro i hi;simp only[List.mem_append] at hi;rcases hi with hi | hi | hi
   ·cases b2 with
    | false=>
     obtain rfl:i=2:=by simpa using hi
     obtain rfl:b5=false:=by cases b5 <;> simp at mQ ⊢
     refine⟨o2,l2,g2,.inr ⟨F,x2,r2 _ _ _ _ _,(k2 w).mono ?_⟩⟩;rintro e w' ⟨rfl,hb⟩;refine⟨V2,rfl,(inv.later hb).below, ?_⟩;rw[s2,e2];have i':=inv.later hb;exact ih true false b6 b7 V2 v5 p6 p7 w' si_ (by simp at hn ⊢;omega) ⟨i'.below,fun _=>rfl,i'.c5,i'.a6,i'.a7,i'.ne⟩
    | true=>
     cases b5 with
     | true=>simp at hi
     | false=>
      obtain rfl:i=5:=by simpa using hi
      refine⟨o5,l5,g5,.inr ⟨F,x5,r5 _ _ _ _ _,(k5 w).mono ?_⟩⟩;rintro e w' ⟨rfl,hb⟩;refine⟨V5,rfl,(inv.later hb).below, ?_⟩;rw[s5,e5];have i':=inv.later hb;exact ih true true b6 b7 v2 V5 p6 p7 w' si_ (by simp at hn ⊢;omega) ⟨i'.below,i'.c2,fun _=>rfl,i'.a6,i'.a7,i'.ne⟩
   ·cases b6 with
    | true=>simp at hi
    | false=>
     obtain rfl:i=6:=by simpa using hi
     refine⟨o6,l6,g6,.inl ⟨_,_,r6 _ _ _ _ _,(inv.later (hal w)).below, ?_⟩⟩;rw[s6,e6];have i':=inv.later (hal w);refine ih b2 b5 true b7 v2 v5 _ p7 _ mQ (by simp at hn ⊢;omega) ⟨i'.below,i'.c2,i'.c5,fun _=>⟨_,rfl,inv.below.size,Block.new w t Z⟩,i'.a7,fun _ e7=> ?_⟩;obtain⟨g,rfl,_,hB⟩:=inv.a7 e7
     exact t80
   ·cases b7 with
    | true=>simp at hi
    | false=>
     obtain rfl:i=7:=by simpa using hi
     refine⟨o7,l7,g7,.inl ⟨_,_,r7 _ _ _ _ _,(inv.later (hal w)).below, ?_⟩⟩;rw[s7,e7];have i':=inv.later (hal w);refine ih b2 b5 b6 true v2 v5 p6 _ _ mQ (by simp at hn ⊢;omega) ⟨i'.below,i'.c2,i'.c5,i'.a6,fun _=>⟨_,rfl,inv.below.size,Block.new w t Z⟩,fun e6 _=> ?_⟩;obtain⟨g,rfl,_,hB⟩:=inv.a6 e6
     exact t80
end
end plan
namespace plan
open Go Go.RowKit
section
variable {P:Program} {md:Region.Mode} {Q:Exit->Act->World->Prop} {l:List Oper}
theorem oneS{S:World->Prop}{f:Nat}{listed:Array Bool}{a:Act}{w w1:World}(i:Nat)(o:Oper)(v:Value)(hi:l[i]?=some o)(hg:o.guard=none)(hS:S w1)(h:wpAnyH P md l.toArray (NoPanic Q) S f (listed.setIfInBounds i true) (a.put o.dst v) w1)(hr:Region.ready md l.toArray listed=[i]:=by kernel_rfl)(hv:(execOp a.eval o).run P w=.ok (.value v) w1:=by kernel_rfl):wpAnyH P md l.toArray (NoPanic Q) S (f+1) listed a w:=by
 refine every (by rw[hr];simp) fun j hj=> ?_
 rw[hr] at hj;obtain rfl:j=i:=by simpa using hj
 exact⟨o,hi,hg,.inl ⟨v,w1,hv,hS,h⟩⟩
theorem doneS{S:World->Prop}{listed:Array Bool}{a:Act}{w:World}(h:Q .normal a w)(hr:Region.ready md l.toArray listed=[]:=by kernel_rfl):wpAnyH P md l.toArray (NoPanic Q) S 0 listed a w:=⟨hr,NoPanic.normal h⟩
end
end plan
namespace plan
open Go Go.RowKit
section
variable {P:Program} {md:Region.Mode} {Q:Exit->Act->World->Prop} {l:List Oper}
theorem firstS{S:World->Prop}{f:Nat}{listed:Array Bool}{a:Act}{w:World}(i:Nat)(o:Oper)(v:Value)(hi:l[i]?=some o)(hv:∀w',S w'->(execOp a.eval o).run P w'=.ok (.value v) w')(hS:S w)
  (h:wpAnyH P md l.toArray (NoPanic Q) S f (listed.setIfInBounds i true) (a.put o.dst v) w) (hs:Region.noSelect l.toArray=true:=by kernel_rfl) (hf:Region.free md l.toArray listed i=true:=by kernel_rfl) (hr:(Region.ready md l.toArray listed).contains i=true:=by kernel_rfl) (hw:Region.wanted o (yielded l.toArray a.tmps)=true:=by kernel_rfl):wpAnyH P md l.toArray (NoPanic Q) S (f+1) listed a w:=
 wpAnyH_take (by simpa using hi) hs hf hr (fun c a' w' h=>h) (.inl ⟨hw,hv⟩) hS h
theorem callS{S:World->Prop}{f:Nat}{listed:Array Bool}{a:Act}{w:World}(i:Nat)(o:Oper)(F:FuncId)(args:Array Value)(hi:l[i]?=some o)
  (h:Calls P F args w fun e w'=>∃v,e=.returned v/\S w'/\wpAnyH P md l.toArray (NoPanic Q) S f (listed.setIfInBounds i true) (a.put o.dst v) w') (hr:Region.ready md l.toArray listed=[i]:=by kernel_rfl) (hw:Region.wanted o (yielded l.toArray a.tmps)=true:=by kernel_rfl) (hv:(execOp a.eval o).run P w=.ok (.enter F args) w:=by kernel_rfl):wpAnyH P md l.toArray (NoPanic Q) S (f+1) listed a w:=by
 refine wpAnyH_all hr si_ fun j hj=> ?_
 obtain rfl:j=i:=by simpa using hj
 have hi':l.toArray[j]?=some o:=by simpa using hi
 unfold wpOp;simp only[hi',hw,if_true,Oper.wp,hv,Oper.upon];refine .inl (h.mono ?_);rintro e w' ⟨v,rfl,hS,hR⟩;exact⟨hS,hR⟩
theorem regionS{S:World->Prop}{id:Nat}{a:Act}{w:World}(h:wpAnyH P .any l.toArray (NoPanic Q) S l.length (Array.replicate l.length false) a w.drew)(hmx:P.follows .mixedOrders=true:=by kernel_rfl):(Code.region id l.toArray true).wp P Q a w:=by
 refine wp_region_noPanic (wp_region_held (S:=S) hmx ?_)
 exact t78
end
end plan
namespace schema
open Go.RowKit
end schema
theorem t50{P:Prop}(h:P:=by
 clear hz c1 hX;go_enter func78,ntmps78;go_wp2_with (go_at_call 21;(with_reducible refine(c2 _ om_).mono ?_);clear c2;rintro e w1 ⟨v,rfl,ho,hb⟩);go_ret;exact⟨_,rfl,ho,hb⟩):P:=h
namespace pen
open Go.RowKit texts
set_option maxRecDepth 8000 in
theorem aU(x:Nat)(hx:x<18446744073709551616)(w:World):Calls prog 21 #[.int .u64 (x:Int)] w (Copies (vb x) w):=by
 obtain⟨i0,hi,hz0,hz1,hz2⟩:=info_parts info5;have hlen:=vb_ten x hx;obtain⟨X,hX⟩:∃X,Hid (vb x=X):=⟨_,rfl⟩;rw[hX.o] at hlen ⊢;have HX:Hid (([]:List Nat)++vb x=X):=hX.o;go_enter func21,ntmps21;go_wp2;go_loopw [0,3] (fun u v wr=>∃(y:Nat) (ys:List Nat),u=.int .u64 (y:Int)/\y<18446744073709551616/\wr.ownsRow w.heap.size 5 1 v ys.length (u8v ys)/\Below w.heap.size w wr/\Hid (ys++vb y=X))
  (fun u v _=>(intOf u).toNat)
 case atStart=>exact⟨x,[],rfl,hx,World.ownsRow_nil _ _ _ _,Below.refl _ _,HX⟩
 case round=>
  obtain⟨y,ys,rfl,hy,ho,hb,he⟩:=hrel;obtain⟨a,c,rfl,hac⟩:=ownsRow_slice ho;have hl:ys.length+(vb y).length=X.length:=by rw[<-he.o,List.length_append]
  have jC:=vb_pos y;have HO:=hid ho;have HB:=hid hb;have hsz:=hb.size;clear ho hb;by_cases h128:y<128
  ·have hq:¬((127:Int)<y):=by omega
   have hE:Hid (ys++[y]=X):=by show _=_;rw[<-he.o,vb_small h128]
   have hys:ys.length+1<=10:=by omega
   clear hl jC he;go_wp2_with (at_builtin;refine wpList_append_from rfl _ _ 28 rfl w.heap.size 5 i0 (.int .u8 0) 1 underlying28 hi hz0 hz1 hz2 rfl _ ys.length (u8v ys) rfl (ownsRow_heap HO.o (fun g hg=>Below.heap_alloc wr _ g (World.ownsRow.lt HO.o g hg).2)) (some ⟨wr.heap.size,0,none⟩) 1 1 [.int .u8 (y:Int)] rfl rfl (.inr ⟨_,rfl,one_new _ _ _⟩) (one_cell rfl) (by unfold maxLen;omega) om_ (by simp;omega) ?_);intro v' w2 ho2 hg2;have aj:Below w.heap.size w w2:=(HB.o.alloc hsz _).grown hg2 (by simp;omega) (fun k hk=>(World.ownsRow.lt HO.o k hk).1);have ho3:w2.ownsRow w.heap.size 5 1 v' X.length (u8v X):=by rw[<-hE.o,u8v_append,List.length_append];exact ho2
   have HO2:=hid ho3;have HB2:=hid aj;clear ho2 hg2 aj ho3 HO
   exact t93
  ·have hq:(127:Int)<y:=by omega
   have hE:Hid ((ys++[128+y % 128])++vb (y / 128)=X):=by show _=_;rw[<-he.o,vb_big h128];simp
   have hys:ys.length+1<=10:=by omega
   clear hl jC he;go_wp2_with (at_builtin;refine wpList_append_from rfl _ _ 28 rfl w.heap.size 5 i0 (.int .u8 0) 1 underlying28 hi hz0 hz1 hz2 rfl _ ys.length (u8v ys) rfl (ownsRow_heap HO.o (fun g hg=>Below.heap_alloc wr _ g (World.ownsRow.lt HO.o g hg).2)) (some ⟨wr.heap.size,0,none⟩) 1 1 [_] rfl rfl (.inr ⟨_,rfl,one_new _ _ _⟩) (one_cell (by rfl)) (by unfold maxLen;omega) om_ (by simp;omega) ?_);intro v' w2 ho2 hg2;have aj:Below w.heap.size w w2:=(HB.o.alloc hsz _).grown hg2 (by simp;omega) (fun k hk=>(World.ownsRow.lt HO.o k hk).1);have ho3:w2.ownsRow w.heap.size 5 1 v' (ys++[128+y % 128]).length (u8v (ys++[128+y % 128])):=by
    rw[u8v_append,List.length_append,show u8v [128+y % 128]=[.int .u8 (128+(y:Int) % 128)] from congrArg (fun z=>[Value.int .u8 z]) om_];exact ho2
   have HO2:=hid ho3;have HB2:=hid aj;clear ho2 hg2 aj ho3 HO;go_wp2;exact⟨⟨y / 128,ys++[128+y % 128],by go_num,by omega,HO2.o,HB2.o,hE⟩,by simp[intOf];omega⟩
theorem aY(n:Int)(h1: -9223372036854775808<=n)(h2:n<=9223372036854775807)(w:World):Calls prog 78 #[.int .i64 n] w (Copies (vb (zig n)) w):=by
 have c1:=aU (zig n) (zig_lt n h1 h2) w;obtain⟨X,hX⟩:∃X,Hid (vb (zig n)=X):=⟨_,rfl⟩;rw[hX.o] at c1 ⊢;by_cases h0:n<0
 ·have hz:(zig n:Int)=2*(-n - 1)+1:=by unfold zig;rw[if_pos h0];omega
  have c2:∀z:Int,z=2*(-n - 1)+1->Calls prog 21 #[.int .u64 z] w (Copies X w):=by
   rintro z rfl;rw[<-hz];exact c1
  exact t50
 ·have hz:(zig n:Int)=2*n:=by unfold zig;rw[if_neg h0];omega
  have c2:∀z:Int,z=2*n->Calls prog 21 #[.int .u64 z] w (Copies X w):=by
   rintro z rfl;rw[<-hz];exact c1
  exact t50
end pen
namespace pen
open Go.RowKit texts
theorem dX(s:List UInt8)(hs:s.length<=70368744177664)(w:World):Calls prog 22 #[.string (strL s)] w (Copies (vb s.length++nums s) w):=by
 obtain⟨i0,hi,hz0,hz1,hz2⟩:=info_parts info5;have c1:Calls prog 21 #[.int .u64 ((strL s).size:Int)] w (Copies (vb s.length) w):=by
  rw[strL_size];exact aU s.length om_ w
 have hl:=vb_ten s.length om_;have hcv:Hid (∀w1:World,(convert 9 28 (.string (strL s))).run prog w1=.ok (.slice (some ⟨w1.heap.size,0,none⟩) (strL s).size (grownCap w1 (strL s).size 0 5)) (Lib.bytesWorld w1 5 (strL s))):=
  fun w1=>Lib.run_convert_string_bytes w1 _ _ _ _ underlying9 underlying28 underlying5
 have pO:Hid (∀w1:World,(strL s).size=0\/∃ad,(some ⟨w1.heap.size,0,none⟩:Option Addr)=some ad/\∀j u,(u8v (nums s))[j]?=some u->(Lib.bytesWorld w1 5 (strL s)).cell? (ad.add j)=some u):=fun w1=>by
  refine Reads.news (xs:=nums s) ⟨by rw[nums_len,strL_size],.inr ⟨_,_,rfl,by rw[Lib.bytesWorld_size];omega,fun i hi=> ?_⟩⟩;rw[strL_size] at hi;rw[Nat.zero_add,Lib.bytesWorld_cell _ _ _ _ (by rw[strL_size];exact hi),strL_data];simp[nums,List.getD_eq_getElem?_getD,List.getElem?_eq_getElem hi]
 have hun:Hid ((u8v (nums s)).length=(strL s).size):=by show _=_;rw[u8v_length,nums_len,strL_size]
 have hsz:(strL s).size<=70368744177664:=by rw[strL_size];exact hs
 obtain⟨S,hS⟩:∃S,Hid (strL s=S):=⟨_,rfl⟩;obtain⟨V,hV⟩:∃V,Hid (vb s.length=V):=⟨_,rfl⟩;rw[hS.o] at c1 hcv pO hun hsz ⊢;rw[hV.o] at c1 hl ⊢;have HL:=hid hl;clear hl;go_enter func22,ntmps22;go_wp2_with (first
  | (go_at_call 21;(with_reducible refine c1.mono ?_);clear c1;rintro e w1 ⟨v,rfl,ho,hb⟩;obtain⟨a1,k1,rfl,_⟩:=ownsRow_slice ho;have hc1:=hcv.o w1;have HO:=hid ho;have HB:=hid hb;clear ho hb)
  | (at_builtin;refine wpList_append_from rfl _ _ 28 rfl w.heap.size 5 i0 (.int .u8 0) 1 underlying28 hi hz0 hz1 hz2 rfl (.slice a1 V.length k1) V.length (u8v V) rfl (ownsRow_heap HO.o (fun g hg=>Lib.bytesWorld_at_old w1 _ S g (World.ownsRow.lt HO.o g hg).2)) (some ⟨w1.heap.size,0,none⟩) S.size _ (u8v (nums s)) rfl hun.o (pO.o w1) (u8v_one _) (by have:=HL.o;unfold maxLen;omega) (by have:=HL.o;omega) (by rw[Lib.bytesWorld_size];have:=HB.o.size;omega) ?_))
 intro v' w2 ho2 hg2;have dW:Below w.heap.size w (Lib.bytesWorld w1 5 S):=HB.o.trans ⟨rfl,rfl,rfl,by rw[Lib.bytesWorld_size];omega,fun k hk=>Lib.bytesWorld_at_old w1 _ _ k (Nat.lt_of_lt_of_le hk HB.o.size)⟩;have aj:Below w.heap.size w w2:=dW.grown hg2 dW.size (fun k hk=>(World.ownsRow.lt HO.o k hk).1);have ho3:w2.ownsRow w.heap.size 5 1 v' (V++nums s).length (u8v (V++nums s)):=by
  rw[u8v_append,List.length_append,<-u8v_length (nums s),hun.o];exact ho2
 have HO2:=hid ho3;have HB2:=hid aj;clear ho2 hg2 aj ho3 HO dW hc1 pO hun
 exact t93
end pen
end Go.Proofs.YtogfefdlffmioaaGreat
