/- Contracts and lemmas that claims of this seat share: PenPS, Cross, Late, SchemaPrintF. Each says its own conditions. -/
import Derived.Test.YtogfefdlffmioaaCmWord
import Derived.Test.YtogfefdlffmioaaCmT
import Derived.Test.YtogfefdlffmioaaCmL
import Derived.Test.YtogfefdlffmioaaCmF
set_option linter.unusedVariables false
namespace Go.Proofs.Ytogfefdlffmioaa
open Go.Proofs.Try
namespace ak
open Go.RowKit pen
theorem oG(lo b:Nat)(v:Value)(xs:List Nat)(w:World)(h:eG lo b v xs 0 w)(wP:lo<=w.heap.size)(n:Int)(h0:0<=n)(Ie:n<=9223372036854775807)(hn:xs.length<=1000000):
  Calls prog 24 #[.pointer (some ⟨b,0,none⟩),.int .i64 n] w (Wrote lo b v xs (vb n.toNat) 0 w):=by
 obtain⟨m,rfl⟩:=Int.eq_ofNat_of_zero_le h0;exact count_any lo b v xs 0 w h wP m om_ om_
theorem dQ{lo b:Nat}{v v':Value}{xs:List Nat}{bad:Int}{w w':World}(hp:eG lo b v xs bad w)(ht:Turns w b v w' v'){k:Nat}{t:TypeId}{cs:List Value}(hB:Block w k t cs)(hT:t≠5)(hk:k≠b):Block w' k t cs:=by
 refine(ht.block k hB.lt hk ?_).trans hB;intro e;rcases hp.2.2.2 with ⟨hv,_⟩ | ⟨g,cap,cur,hv,_,hg,_⟩
 ·rw[hv] at e;simp[Value.ownBlock] at e
 ·rw[hv] at e;simp[Value.ownBlock] at e;subst e;unfold Block at hB;rw[hg] at hB;exact hT ((Obj.cells.inj (Option.some.inj hB)).2.1.symm)
theorem zO(w:World)(b:Nat)(v:Value)(d:Obj):Turns w b v (w.alloc d) v:=kZ ((Below.refl _ _).alloc (Nat.le_refl _) _)
def PS(g:Nat)(w1:World)(xs:List Nat)(v:Value)(w:World):Prop:=eG g g v xs 0 w/\Below g w1 w/\g<=w.heap.size
theorem PS.step{g:Nat}{w1:World}{xs ys:List Nat}{v v':Value}{w w':World}(h:PS g w1 xs v w)(hp:eG g g v' (xs++ys) 0 w')(ht:Turns w g v w' v'):PS g w1 (xs++ys) v' w':=
 ⟨hp,h.2.1.trans (ht.below h.2.2 (Nat.le_refl _) (fun x hx=>(h.1.lo x hx).1)),Nat.le_trans h.2.2 ht.size⟩
theorem PS.later{g:Nat}{w1:World}{xs:List Nat}{v:Value}{w w':World}(h:PS g w1 xs v w)(hb:Below w.heap.size w w'):PS g w1 xs v w':=⟨h.1.later hb,h.2.1.trans (hb.mono h.2.2),Nat.le_trans h.2.2 hb.size⟩
theorem PS.count{g:Nat}{w1:World}{xs:List Nat}{v:Value}{w:World}(h:PS g w1 xs v w)(n:Int)(h0:0<=n)(Ie:n<=9223372036854775807)(hn:xs.length<=1000000):
  Calls prog 24 #[.pointer (some ⟨g,0,none⟩),.int .i64 n] w fun e w'=>e=.returned (.tuple #[])/\∃v',PS g w1 (xs++vb n.toNat) v' w'/\∀k t cs,Block w k t cs->t≠5->k≠g->Block w' k t cs:=
 (oG g g v xs w h.1 h.2.2 n h0 Ie hn).mono fun _ _ ⟨he,v',hp,ht⟩=>⟨he,v',h.step hp ht,fun k t cs hB hT hk=>dQ h.1 ht hB hT hk⟩
end ak
namespace plan
open Go Go.RowKit
section
variable {P:Program} {md:Region.Mode} {Q:Exit->Act->World->Prop} {l:List Oper}
theorem free{f:Nat}{listed:Array Bool}{a:Act}{w:World}(i:Nat)(o:Oper)(v:Value)(hi:l[i]?=some o)(hs:Region.noSelect l.toArray=true)(hf:Region.free md l.toArray listed i=true)
  (hr:(Region.ready md l.toArray listed).contains i=true) (hw:Region.wanted o (yielded l.toArray a.tmps)=true) (hv:∀w',(execOp a.eval o).run P w'=.ok (.value v) w')
  (h:wpAnyH P md l.toArray (NoPanic Q) (fun _=>True) f (listed.setIfInBounds i true) (a.put o.dst v) w):wpAnyH P md l.toArray (NoPanic Q) (fun _=>True) (f+1) listed a w:=
 wpAnyH_take (by simpa using hi) hs hf hr (fun c a' w' h=>h) (.inl ⟨hw,fun w' _=>hv w'⟩) trivial h
theorem qM{id:Nat}{a:Act}{w:World}(h:wpAnyH P .any l.toArray (NoPanic Q) (fun _=>True) l.length (Array.replicate l.length false) a w.drew)(hmx:P.follows .mixedOrders=true:=by kernel_rfl):(Code.region id l.toArray true).wp P Q a w:=by
 refine wp_region_noPanic (wp_region_held (S:=fun _=>True) hmx ?_)
 exact t68
theorem uK{f:Nat}{listed:Array Bool}{a:Act}{w w1:World}(i:Nat)(o:Oper)(v:Value)(hi:l[i]?=some o)(hg:o.guard=none)(h:wpAnyH P md l.toArray (NoPanic Q) (fun _=>True) f (listed.setIfInBounds i true) (a.put o.dst v) w1)(hr:Region.ready md l.toArray listed=[i]:=by kernel_rfl)(hv:(execOp a.eval o).run P w=.ok (.value v) w1:=by kernel_rfl):wpAnyH P md l.toArray (NoPanic Q) (fun _=>True) (f+1) listed a w:=by
 refine every (by rw[hr];simp) fun j hj=> ?_
 rw[hr] at hj;obtain rfl:j=i:=by simpa using hj
 exact⟨o,hi,hg,.inl ⟨v,w1,hv,trivial,h⟩⟩
theorem Fh{f:Nat}{listed:Array Bool}{a:Act}{w:World}(i:Nat)(o:Oper)(Pr:Value->World->Prop)(hi:l[i]?=some o)(hg:o.guard=none)
  (hv:∃v w1,(execOp a.eval o).run P w=.ok (.value v) w1/\Pr v w1) (h:∀v w1,Pr v w1->wpAnyH P md l.toArray (NoPanic Q) (fun _=>True) f (listed.setIfInBounds i true) (a.put o.dst v) w1) (hr:Region.ready md l.toArray listed=[i]:=by kernel_rfl):wpAnyH P md l.toArray (NoPanic Q) (fun _=>True) (f+1) listed a w:=by
 obtain⟨v,w1,h1,h2⟩:=hv;exact uK i o v hi hg (hr:=hr) (hv:=h1) (h v w1 h2)
theorem lastT{listed:Array Bool}{a:Act}{w w1:World}(i:Nat)(o:Oper)(hi:l[i]?=some o)(hg:o.guard=none)(hd:o.dst=none)
  (hv:(execOp a.eval o).run P w=.ok .skip w1) (h:Q .normal a w1) (hr:Region.ready md l.toArray listed=[i]:=by kernel_rfl) (UD:Region.ready md l.toArray (listed.setIfInBounds i true)=[]:=by kernel_rfl):wpAnyH P md l.toArray (NoPanic Q) (fun _=>True) 1 listed a w:=by
 refine wpAnyH_all hr si_ fun j hj=> ?_
 obtain rfl:j=i:=by simpa using hj
 have hi':l.toArray[j]?=some o:=by simpa using hi
 have hw:Region.wanted o (yielded l.toArray a.tmps)=true:=by unfold Region.wanted;rw[hg]
 unfold wpOp;have e:a.put o.dst undef=a:=by rw[hd];rfl
 simp only[hi',hw,if_true,Oper.wp,hv,Oper.upon];exact .inl ⟨trivial,UD,NoPanic.normal (by rw[e];exact h)⟩
end
end plan
theorem t21{P:Prop}(h:P:=by
 have hi':l.toArray[k]?=some o:=by simpa using h1
 have hw:Region.wanted o (yielded l.toArray a.tmps)=true:=by unfold Region.wanted;rw[h2]
 unfold wpOp;rcases h3 with ⟨v,w1,hv,h⟩ | ⟨F,args,hv,h⟩
 ·simp only[hi',hw,if_true,Oper.wp,hv,Oper.upon_value];exact .inl ⟨trivial,h⟩
 ·simp only[hi',hw,if_true,Oper.wp,hv,Oper.upon];refine .inl (h.mono ?_);rintro e w' ⟨v,rfl,hR⟩;exact⟨trivial,hR⟩):P:=h
namespace plan
open Go Go.RowKit
section
variable {P:Program} {md:Region.Mode} {Q:Exit->Act->World->Prop} {l:List Oper}
theorem KG{f:Nat}{listed:Array Bool}{a:Act}{w:World}(i j:Nat)(dR:Region.ready md l.toArray listed≠[])(hr:∀k∈Region.ready md l.toArray listed,k=i\/k=j)
  (hi:∃o,l[i]?=some o/\o.guard=none/\((∃v w1,(execOp a.eval o).run P w=.ok (.value v) w1/\wpAnyH P md l.toArray (NoPanic Q) (fun _=>True) f (listed.setIfInBounds i true) (a.put o.dst v) w1)\/(∃F args,(execOp a.eval o).run P w=.ok (.enter F args) w/\Calls P F args w fun e w'=>∃v,e=.returned v/\wpAnyH P md l.toArray (NoPanic Q) (fun _=>True) f (listed.setIfInBounds i true) (a.put o.dst v) w')))
  (hj:∃o,l[j]?=some o/\o.guard=none/\((∃v w1,(execOp a.eval o).run P w=.ok (.value v) w1/\wpAnyH P md l.toArray (NoPanic Q) (fun _=>True) f (listed.setIfInBounds j true) (a.put o.dst v) w1)\/(∃F args,(execOp a.eval o).run P w=.ok (.enter F args) w/\Calls P F args w fun e w'=>∃v,e=.returned v/\wpAnyH P md l.toArray (NoPanic Q) (fun _=>True) f (listed.setIfInBounds j true) (a.put o.dst v) w'))):
  wpAnyH P md l.toArray (NoPanic Q) (fun _=>True) (f+1) listed a w:=by
 refine wpAnyH_all rfl dR fun k hk=> ?_
 have go:∀i,(∃o,l[i]?=some o/\o.guard=none/\((∃v w1,(execOp a.eval o).run P w=.ok (.value v) w1/\wpAnyH P md l.toArray (NoPanic Q) (fun _=>True) f (listed.setIfInBounds i true) (a.put o.dst v) w1)\/(∃F args,(execOp a.eval o).run P w=.ok (.enter F args) w/\Calls P F args w fun e w'=>∃v,e=.returned v/\wpAnyH P md l.toArray (NoPanic Q) (fun _=>True) f (listed.setIfInBounds i true) (a.put o.dst v) w')))->_:=fun i h=>h
 rcases hr k hk with rfl | rfl
 ·obtain⟨o,h1,h2,h3⟩:=hi
  exact t21
 ·obtain⟨o,h1,h2,h3⟩:=hj
  exact t21
theorem late{f:Nat}{a:Act}{w0:World}(i1 i3 i4 d1 d3 d4:Nat)(n13:d1≠d3)(n14:d1≠d4)(o1 o3 o4:Oper)(L:Bool->Bool->Bool->Array Bool)
  (l1:l[i1]?=some o1) (l3:l[i3]?=some o3) (l4:l[i4]?=some o4) (g1:o1.guard=none) (g3:o3.guard=none) (g4:o4.guard=none) (e1:o1.dst=some d1) (e3:o3.dst=some d3) (e4:o4.dst=some d4)
  (s1:∀y z,(L false y z).setIfInBounds i1 true=L true y z) (s3:∀x,(L x false false).setIfInBounds i3 true=L x true false) (s4:∀x,(L x true false).setIfInBounds i4 true=L x true true)
  (r0:Region.ready md l.toArray (L false false false)=[i1,i3]) (r1:Region.ready md l.toArray (L true false false)=[i3]) (Ti:Region.ready md l.toArray (L false true false)=[i1,i4]) (r11:Region.ready md l.toArray (L true true false)=[i4]) (V3:Region.ready md l.toArray (L false true true)=[i1])
  (u:Value) (F:FuncId) (args:Array Value) (M:Value->World->Prop) (G:Value->World->Value) (NW:Value->World->World)
  (GR:(execOp a.eval o1).run P w0=.ok (.value u) w0) (qA:∀v w',M v w'->(execOp (a.put (some d3) v).eval o1).run P w'=.ok (.value u) w') (qB:∀v w',M v w'->(execOp ((a.put (some d3) v).put (some d4) (G v w')).eval o1).run P (NW v w')=.ok (.value u) (NW v w'))
  (hc0:(execOp a.eval o3).run P w0=.ok (.enter F args) w0) (hc1:(execOp (a.put (some d1) u).eval o3).run P w0=.ok (.enter F args) w0) (hC:Calls P F args w0 fun e w'=>∃v,e=.returned v/\M v w')
  (qR:∀v w',M v w'->(execOp (a.put (some d3) v).eval o4).run P w'=.ok (.value (G v w')) (NW v w')) (bQ:∀v w',M v w'->(execOp ((a.put (some d1) u).put (some d3) v).eval o4).run P w'=.ok (.value (G v w')) (NW v w'))
  (h:∀v w',M v w'->wpAnyH P md l.toArray (NoPanic Q) (fun _=>True) f (L true true true) (((a.put (some d1) u).put (some d3) v).put (some d4) (G v w')) (NW v w')):
  wpAnyH P md l.toArray (NoPanic Q) (fun _=>True) (f+3) (L false false false) a w0:=by
 have k11:∀v w',M v w'->wpAnyH P md l.toArray (NoPanic Q) (fun _=>True) (f+1) (L true true false) ((a.put (some d1) u).put (some d3) v) w':=fun v w' hM=>by
  refine uK i4 o4 (G v w') l4 g4 (hr:=r11) (hv:=(bQ v w' hM)) ?_;rw[e4,s4];exact h v w' hM
 have k10:wpAnyH P md l.toArray (NoPanic Q) (fun _=>True) (f+2) (L true false false) (a.put (some d1) u) w0:=by
  refine KG i3 i3 (by rw[r1];simp) (by rw[r1];simp) ?_ ?_ <;>
  ·refine⟨o3,l3,g3,.inr ⟨F,args,hc1,hC.mono ?_⟩⟩;rintro e w' ⟨v,rfl,hM⟩;refine⟨v,rfl, ?_⟩;rw[e3,s3];exact k11 v w' hM
 have UI:∀v w',M v w'->wpAnyH P md l.toArray (NoPanic Q) (fun _=>True) (f+1) (L false true true) ((a.put (some d3) v).put (some d4) (G v w')) (NW v w'):=fun v w' hM=>by
  refine uK i1 o1 u l1 g1 (hr:=V3) (hv:=(qB v w' hM)) ?_;rw[e1,s1,put_comm _ d4 d1 _ _ (Ne.symm n14),put_comm _ d3 d1 _ _ (Ne.symm n13)];exact h v w' hM
 have UH:∀v w',M v w'->wpAnyH P md l.toArray (NoPanic Q) (fun _=>True) (f+2) (L false true false) (a.put (some d3) v) w':=fun v w' hM=>by
  refine KG i1 i4 (by rw[Ti];simp) (by rw[Ti];simp) ?_ ?_
  ·refine⟨o1,l1,g1,.inl ⟨u,w',qA v w' hM, ?_⟩⟩;rw[e1,s1,put_comm _ d3 d1 _ _ (Ne.symm n13)];exact k11 v w' hM
  ·refine⟨o4,l4,g4,.inl ⟨_,_,qR v w' hM, ?_⟩⟩;rw[e4,s4];exact UI v w' hM
 refine KG i1 i3 (by rw[r0];simp) (by rw[r0];simp) ?_ ?_
 ·refine⟨o1,l1,g1,.inl ⟨u,w0,GR, ?_⟩⟩;rw[e1,s1];exact k10
 ·refine⟨o3,l3,g3,.inr ⟨F,args,hc0,hC.mono ?_⟩⟩;rintro e w' ⟨v,rfl,hM⟩;refine⟨v,rfl, ?_⟩;rw[e3,s3];exact UH v w' hM
end
end plan
theorem t11{P:Prop}(h:P:=by
 have c5:=C5.o;clear C3 C4 C5;rw[if_neg de_,if_pos de_];go_enter func73,ntmps73;go_wp2_with (first
  | (go_at_call 24;((with_reducible refine c1.mono ?_);rintro e w1 ⟨rfl,v1,Au,yA⟩;have lC:=dQ G9 yA yu.o jO dR;have z0:=lC.cell 0;have z1:=lC.cell 1;have qA:=Nat.le_trans GR yA.size))
  | (go_at_call 24;((with_reducible refine(c2 _ _ Au qA).mono ?_);rintro e w2 ⟨rfl,v2,nM,sO⟩;have nI:=dQ Au sO lC jO dR;have z1:=nI.cell 1;have z2:=nI.cell 2;have z4:=nI.cell 4;have qB:=Nat.le_trans qA sO.size))
  | (go_at_call 89;((with_reducible refine(c3 _ _ nM qB).mono ?_);rintro e w3 ⟨rfl,v3,Dc,yB⟩;have lF:=dQ nM yB nI jO dR;have z3:=lF.cell 3;have JS:=Nat.le_trans qB yB.size))
  | (go_at_call 89;((with_reducible refine(c4 _ _ Dc JS).mono ?_);rintro e w4 ⟨rfl,v4,Oa,Oc⟩))
  | (go_at_call 24;((with_reducible refine(c5 _ _ nM qB).mono ?_);rintro e w3 ⟨rfl,v3,Dc,yB⟩)))
 exact fO rfl rfl ⟨rfl,v3,by simpa only[List.append_assoc] using Dc,HT0.o.trans (yA.trans (sO.trans yB))⟩):P:=h
namespace ak
open Go.RowKit pen
theorem jO:(47:TypeId)≠5:=by decide
theorem Ic:(40:TypeId)≠5:=by decide
theorem iF(lo b:Nat)(v:Value)(xs:List Nat)(w:World)(h:eG lo b v xs 0 w)(wP:lo<=w.heap.size)(p:field.Fd)(hr:p.Right)(hn:xs.length<=100000):
  Calls prog 73 #[.pointer (some ⟨b,0,none⟩),zF p] w (Wrote lo b v xs (iQ p) 0 w):=by
 have hs:=mP hr;have hk:p.kind=1\/p.kind=2\/p.kind=3\/p.kind=4:=by omega
 have jV:=Block.new w 47 (zF p);have G9:=h.later (field.aI w (.cells (zF p) 47));have Nb:=zO w b v (.cells (zF p) 47);have dR:w.heap.size≠b:=by have:=h.1.lt;omega
 have GR:lo<=(w.alloc (.cells (zF p) 47)).heap.size:=by simp;omega
 have l1:=aT p.id.toNat om_;have l2:=aT p.kind.toNat om_;have l3:=aT (zig p.lo) (iU _ om_ om_);have l4:=aT (zig p.hi) (iU _ om_ om_);have MV:iQ p=vb p.id.toNat++vb p.kind.toNat++(if p.kind=1 then vb (zig p.lo)++vb (zig p.hi) else if p.kind=3\/p.kind=4 then vb p.most.toNat else []):=rfl;rw[MV];clear MV h hr;obtain⟨i,k,lw,hi,m⟩:=p;simp only at *;have c1:=oG lo b v xs _ G9 GR i om_ om_ om_;have c2:=fun v1 w1 hp hl=>oG lo b v1 (xs++vb i.toNat) w1 hp hl k om_ om_ (by simp only[List.length_append];omega)
 have C3:=hid (fun v1 w1 hp hl=>xW lo b v1 (xs++vb i.toNat++vb k.toNat) 0 w1 hp hl lw om_ om_ (by simp only[List.length_append];omega));have C4:=hid (fun v1 w1 hp hl=>xW lo b v1 (xs++vb i.toNat++vb k.toNat++vb (zig lw)) 0 w1 hp hl hi om_ om_ (by simp only[List.length_append];omega));have C5:=hid (fun v1 w1 hp hl=>oG lo b v1 (xs++vb i.toNat++vb k.toNat) w1 hp hl m om_ om_ (by simp only[List.length_append];omega));have yu:=hid jV;have HT0:=hid Nb;clear hs l1 l2 l3 l4 Nb jV wP hn;rcases hk with rfl | rfl | rfl | rfl
 ·have c3:=C3.o;have c4:=C4.o;clear C3 C4 C5;rw[if_pos rfl];go_enter func73,ntmps73;go_wp2_with (first
   | (go_at_call 24;((with_reducible refine c1.mono ?_);rintro e w1 ⟨rfl,v1,Au,yA⟩;have lC:=dQ G9 yA yu.o jO dR;have z0:=lC.cell 0;have z1:=lC.cell 1;have qA:=Nat.le_trans GR yA.size))
   | (go_at_call 24;((with_reducible refine(c2 _ _ Au qA).mono ?_);rintro e w2 ⟨rfl,v2,nM,sO⟩;have nI:=dQ Au sO lC jO dR;have z1:=nI.cell 1;have z2:=nI.cell 2;have z4:=nI.cell 4;have qB:=Nat.le_trans qA sO.size))
   | (go_at_call 89;((with_reducible refine(c3 _ _ nM qB).mono ?_);rintro e w3 ⟨rfl,v3,Dc,yB⟩;have lF:=dQ nM yB nI jO dR;have z3:=lF.cell 3;have JS:=Nat.le_trans qB yB.size))
   | (go_at_call 89;((with_reducible refine(c4 _ _ Dc JS).mono ?_);rintro e w4 ⟨rfl,v4,Oa,Oc⟩))
   | (go_at_call 24;((with_reducible refine(c5 _ _ nM qB).mono ?_);rintro e w3 ⟨rfl,v3,Dc,yB⟩)))
  exact fO rfl rfl ⟨rfl,v4,by simpa only[List.append_assoc] using Oa,HT0.o.trans (yA.trans (sO.trans (yB.trans Oc)))⟩
 ·clear C3 C4 C5;rw[if_neg de_,if_neg de_,List.append_nil];go_enter func73,ntmps73;go_wp2_with (first
   | (go_at_call 24;((with_reducible refine c1.mono ?_);rintro e w1 ⟨rfl,v1,Au,yA⟩;have lC:=dQ G9 yA yu.o jO dR;have z0:=lC.cell 0;have z1:=lC.cell 1;have qA:=Nat.le_trans GR yA.size))
   | (go_at_call 24;((with_reducible refine(c2 _ _ Au qA).mono ?_);rintro e w2 ⟨rfl,v2,nM,sO⟩;have nI:=dQ Au sO lC jO dR;have z1:=nI.cell 1;have z2:=nI.cell 2;have z4:=nI.cell 4;have qB:=Nat.le_trans qA sO.size))
   | (go_at_call 89;((with_reducible refine(c3 _ _ nM qB).mono ?_);rintro e w3 ⟨rfl,v3,Dc,yB⟩;have lF:=dQ nM yB nI jO dR;have z3:=lF.cell 3;have JS:=Nat.le_trans qB yB.size))
   | (go_at_call 89;((with_reducible refine(c4 _ _ Dc JS).mono ?_);rintro e w4 ⟨rfl,v4,Oa,Oc⟩))
   | (go_at_call 24;((with_reducible refine(c5 _ _ nM qB).mono ?_);rintro e w3 ⟨rfl,v3,Dc,yB⟩)))
  exact fO rfl rfl ⟨rfl,v2,by simpa only[List.append_assoc] using nM,HT0.o.trans (yA.trans sO)⟩
 ·exact t11
 ·exact t11
end ak
end Go.Proofs.Ytogfefdlffmioaa
