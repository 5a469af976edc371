/- Contracts and lemmas that claims of this seat share: EyeHelp, EyeStay, Cross, Late, SchemaStay, SchemaTakeF, PenRefLook, SchemaRefTakeF. Each says its own conditions. -/
import Derived.Test.YtogfefdlffmioaaGreatCmWord
import Derived.Test.YtogfefdlffmioaaGreatCmG
import Derived.Test.YtogfefdlffmioaaGreatCmD
import Derived.Test.YtogfefdlffmioaaGreatCmZ
import Derived.Test.YtogfefdlffmioaaGreatCmQ
import Derived.Test.YtogfefdlffmioaaGreatCmO
import Derived.Test.YtogfefdlffmioaaGreatCmK
import Derived.Test.YtogfefdlffmioaaGreatCmM
set_option linter.unusedVariables false
namespace Go.Proofs.YtogfefdlffmioaaGreat
open Go.Proofs.Tryz
namespace schema
open Go.RowKit pen
theorem eCount_le(most:Nat)(s:Sight):(eCount (most:Int) s).1<=most:=by
 have h:=(eVar_le 9223372036854775807 (max (most:Int) 0).toNat s).2;unfold eCount;omega
theorem fd5_info(v0 v1 v2 v3 v4:Value):(prog.info? 79).map (·.size)=some [v0,v1,v2,v3,v4].length:=by kernel_rfl
theorem blk_but{w w':World}{k b:Nat}{t:TypeId}{cs:List Value}(h:Block w k t cs)(hb:But w.heap.size b w w')(aH:k≠b):Block w' k t cs:=h.but hb h.lt aH
theorem but_store{B b k:Nat}{a w:World}(h:But B b a w)(hk:B<=k)(o:Nat)(v:Value):But B b a (w.setCell ⟨k,o,none⟩ v):=h.trans (Below.but (below_setCells (Below.refl B w) hk o [v]))
theorem take_end{t:TypeId}{b R:Nat}{s:Sight}{w w5:World}(f:field.Fd)(hE:EyeAt t b s w5)(hR:Block w5 R 79 [.int .i64 0,.int .i64 0,.int .i64 0,.int .i64 0,.int .i64 0])(aH:R≠b)(hw:w.heap.size<=R)(hu:But w.heap.size b w w5):
  EyeAt t b s (((((w5.setCell ⟨R,0,none⟩ (.int .i64 f.id)).setCell ⟨R,1,none⟩ (.int .i64 f.kind)).setCell ⟨R,2,none⟩ (.int .i64 f.lo)).setCell ⟨R,3,none⟩ (.int .i64 f.hi)).setCell ⟨R,4,none⟩ (.int .i64 f.most))/\
  Block (((((w5.setCell ⟨R,0,none⟩ (.int .i64 f.id)).setCell ⟨R,1,none⟩ (.int .i64 f.kind)).setCell ⟨R,2,none⟩ (.int .i64 f.lo)).setCell ⟨R,3,none⟩ (.int .i64 f.hi)).setCell ⟨R,4,none⟩ (.int .i64 f.most)) R 79 (zF f)/\
  But w.heap.size b w (((((w5.setCell ⟨R,0,none⟩ (.int .i64 f.id)).setCell ⟨R,1,none⟩ (.int .i64 f.kind)).setCell ⟨R,2,none⟩ (.int .i64 f.lo)).setCell ⟨R,3,none⟩ (.int .i64 f.hi)).setCell ⟨R,4,none⟩ (.int .i64 f.most)):=by
 refine⟨eye_but hE hR (Ne.symm aH) (noByte5 ⟨0,0,0,0,0⟩) ((((((But.refl _ R w5).setCell 0 _).setCell 1 _).setCell 2 _).setCell 3 _).setCell 4 _), ?_, ?_⟩
 ·exact((((hR.setCell 0 (.int .i64 f.id)).setCell 1 (.int .i64 f.kind)).setCell 2 (.int .i64 f.lo)).setCell 3 (.int .i64 f.hi)).setCell 4 (.int .i64 f.most)
 ·exact but_store (but_store (but_store (but_store (but_store hu hw 0 _) hw 1 _) hw 2 _) hw 3 _) hw 4 _
end schema
namespace schema
open Go.RowKit pen
theorem EyeAt.blk{t:TypeId}{b:Nat}{s:Sight}{w:World}(h:EyeAt t b s w):∃cs,Block w b t cs:=by
 obtain⟨_,_,a,c,h3,_⟩:=h;exact⟨_,h3⟩
theorem eye_past{t:TypeId}{b g:Nat}{s:Sight}{w w':World}(h:EyeAt t b s w)(hg:b<g)(hb:But w.heap.size g w w'):EyeAt t b s w':=by
 obtain⟨h1,h2,a,cap,h3,h4,h5,h6⟩:=h;refine⟨h1,h2,a,cap,h3.but hb h3.lt om_,h4, ?_,h6⟩;by_cases h0:s.1.length=0
 ·exact⟨h5.1,.inl h0⟩
 ·exact reads_but h5 hb fun x hx=>by have:=h6 om_ x hx;omega
theorem eye_grown{t:TypeId}{b B e sz n:Nat}{s:Sight}{u:Value}{xs:List Value}{w w':World}(h:EyeAt t b s w)(ho:w.ownsRow B e sz u n xs)(hg:w.grownBy w' u.ownBlock)(hB:b<B):EyeAt t b s w':=by
 cases hu:u.ownBlock with
 | none=>
  rw[hu] at hg;exact h.later ⟨hg.os,hg.tape,hg.output,hg.size,fun k hk=>hg.block k hk si_⟩
 | some g=>
  have h1:=World.ownsRow.lt ho g hu;rw[hu] at hg;exact eye_past h om_ ⟨hg.os,hg.tape,hg.output,hg.size,fun k hk aH=>hg.block k hk (fun he=>aH (Option.some.inj he))⟩
theorem but_grown{B b e sz n:Nat}{u:Value}{xs:List Value}{a w w':World}(h:But B b a w)(ho:w.ownsRow B e sz u n xs)(hg:w.grownBy w' u.ownBlock)(hB:B<=w.heap.size):But B b a w':=by
 refine h.trans ⟨hg.os,hg.tape,hg.output,hg.size,fun k hk _=>hg.block k om_ ?_⟩;intro he;have:=World.ownsRow.lt ho k he.symm;omega
end schema
namespace plan
open Go Go.RowKit
section
variable {P:Program} {md:Region.Mode} {Q:Exit->Act->World->Prop} {l:List Oper}
theorem free{f:Nat}{listed:Array Bool}{a:Act}{w:World}(i:Nat)(o:Oper)(v:Value)(hi:l[i]?=some o)(hs:Region.noSelect l.toArray=true)(hf:Region.free md l.toArray listed i=true)
  (hr:(Region.ready md l.toArray listed).contains i=true) (hw:Region.wanted o (yielded l.toArray a.tmps)=true) (hv:∀w',(execOp a.eval o).run P w'=.ok (.value v) w')
  (h:wpAnyH P md l.toArray (NoPanic Q) (fun _=>True) f (listed.setIfInBounds i true) (a.put o.dst v) w):wpAnyH P md l.toArray (NoPanic Q) (fun _=>True) (f+1) listed a w:=
 wpAnyH_take (by simpa using hi) hs hf hr (fun c a' w' h=>h) (.inl ⟨hw,fun w' _=>hv w'⟩) trivial h
theorem regionT{id:Nat}{a:Act}{w:World}(h:wpAnyH P .any l.toArray (NoPanic Q) (fun _=>True) l.length (Array.replicate l.length false) a w.drew)(hmx:P.follows .mixedOrders=true:=by kernel_rfl):(Code.region id l.toArray true).wp P Q a w:=by
 refine wp_region_noPanic (wp_region_held (S:=fun _=>True) hmx ?_)
 exact t78
theorem oneT{f:Nat}{listed:Array Bool}{a:Act}{w w1:World}(i:Nat)(o:Oper)(v:Value)(hi:l[i]?=some o)(hg:o.guard=none)(h:wpAnyH P md l.toArray (NoPanic Q) (fun _=>True) f (listed.setIfInBounds i true) (a.put o.dst v) w1)(hr:Region.ready md l.toArray listed=[i]:=by kernel_rfl)(hv:(execOp a.eval o).run P w=.ok (.value v) w1:=by kernel_rfl):wpAnyH P md l.toArray (NoPanic Q) (fun _=>True) (f+1) listed a w:=by
 refine every (by rw[hr];simp) fun j hj=> ?_
 rw[hr] at hj;obtain rfl:j=i:=by simpa using hj
 exact⟨o,hi,hg,.inl ⟨v,w1,hv,trivial,h⟩⟩
theorem oneE{f:Nat}{listed:Array Bool}{a:Act}{w:World}(i:Nat)(o:Oper)(Pr:Value->World->Prop)(hi:l[i]?=some o)(hg:o.guard=none)
  (hv:∃v w1,(execOp a.eval o).run P w=.ok (.value v) w1/\Pr v w1) (h:∀v w1,Pr v w1->wpAnyH P md l.toArray (NoPanic Q) (fun _=>True) f (listed.setIfInBounds i true) (a.put o.dst v) w1) (hr:Region.ready md l.toArray listed=[i]:=by kernel_rfl):wpAnyH P md l.toArray (NoPanic Q) (fun _=>True) (f+1) listed a w:=by
 obtain⟨v,w1,h1,h2⟩:=hv;exact oneT i o v hi hg (hr:=hr) (hv:=h1) (h v w1 h2)
theorem lastT{listed:Array Bool}{a:Act}{w w1:World}(i:Nat)(o:Oper)(hi:l[i]?=some o)(hg:o.guard=none)(hd:o.dst=none)
  (hv:(execOp a.eval o).run P w=.ok .skip w1) (h:Q .normal a w1) (hr:Region.ready md l.toArray listed=[i]:=by kernel_rfl) (pU:Region.ready md l.toArray (listed.setIfInBounds i true)=[]:=by kernel_rfl):wpAnyH P md l.toArray (NoPanic Q) (fun _=>True) 1 listed a w:=by
 refine wpAnyH_all hr si_ fun j hj=> ?_
 obtain rfl:j=i:=by simpa using hj
 have hi':l.toArray[j]?=some o:=by simpa using hi
 have hw:Region.wanted o (yielded l.toArray a.tmps)=true:=by unfold Region.wanted;rw[hg]
 unfold wpOp;have e:a.put o.dst undef=a:=by rw[hd];rfl
 simp only[hi',hw,if_true,Oper.wp,hv,Oper.upon];exact .inl ⟨trivial,pU,NoPanic.normal (by rw[e];exact h)⟩
end
end plan
theorem t24{P:Prop}(h:P:=by
 have hi':l.toArray[k]?=some o:=by simpa using h1
 have hw:Region.wanted o (yielded l.toArray a.tmps)=true:=by unfold Region.wanted;rw[h2]
 unfold wpOp;rcases h3 with ⟨v,w1,hv,h⟩ | ⟨F,args,hv,h⟩
 ·simp only[hi',hw,if_true,Oper.wp,hv,Oper.upon_value];exact .inl ⟨trivial,h⟩
 ·simp only[hi',hw,if_true,Oper.wp,hv,Oper.upon];refine .inl (h.mono ?_);rintro e w' ⟨v,rfl,hR⟩;exact⟨trivial,hR⟩):P:=h
namespace plan
open Go Go.RowKit
section
variable {P:Program} {md:Region.Mode} {Q:Exit->Act->World->Prop} {l:List Oper}
theorem twoT{f:Nat}{listed:Array Bool}{a:Act}{w:World}(i j:Nat)(aH:Region.ready md l.toArray listed≠[])(hr:∀k∈Region.ready md l.toArray listed,k=i\/k=j)
  (hi:∃o,l[i]?=some o/\o.guard=none/\((∃v w1,(execOp a.eval o).run P w=.ok (.value v) w1/\wpAnyH P md l.toArray (NoPanic Q) (fun _=>True) f (listed.setIfInBounds i true) (a.put o.dst v) w1)\/(∃F args,(execOp a.eval o).run P w=.ok (.enter F args) w/\Calls P F args w fun e w'=>∃v,e=.returned v/\wpAnyH P md l.toArray (NoPanic Q) (fun _=>True) f (listed.setIfInBounds i true) (a.put o.dst v) w')))
  (hj:∃o,l[j]?=some o/\o.guard=none/\((∃v w1,(execOp a.eval o).run P w=.ok (.value v) w1/\wpAnyH P md l.toArray (NoPanic Q) (fun _=>True) f (listed.setIfInBounds j true) (a.put o.dst v) w1)\/(∃F args,(execOp a.eval o).run P w=.ok (.enter F args) w/\Calls P F args w fun e w'=>∃v,e=.returned v/\wpAnyH P md l.toArray (NoPanic Q) (fun _=>True) f (listed.setIfInBounds j true) (a.put o.dst v) w'))):
  wpAnyH P md l.toArray (NoPanic Q) (fun _=>True) (f+1) listed a w:=by
 refine wpAnyH_all rfl aH fun k hk=> ?_
 have go:∀i,(∃o,l[i]?=some o/\o.guard=none/\((∃v w1,(execOp a.eval o).run P w=.ok (.value v) w1/\wpAnyH P md l.toArray (NoPanic Q) (fun _=>True) f (listed.setIfInBounds i true) (a.put o.dst v) w1)\/(∃F args,(execOp a.eval o).run P w=.ok (.enter F args) w/\Calls P F args w fun e w'=>∃v,e=.returned v/\wpAnyH P md l.toArray (NoPanic Q) (fun _=>True) f (listed.setIfInBounds i true) (a.put o.dst v) w')))->_:=fun i h=>h
 rcases hr k hk with rfl | rfl
 ·obtain⟨o,h1,h2,h3⟩:=hi
  exact t24
 ·obtain⟨o,h1,h2,h3⟩:=hj
  exact t24
theorem late{f:Nat}{a:Act}{w0:World}(i1 i3 i4 d1 d3 d4:Nat)(n13:d1≠d3)(n14:d1≠d4)(o1 o3 o4:Oper)(L:Bool->Bool->Bool->Array Bool)
  (l1:l[i1]?=some o1) (l3:l[i3]?=some o3) (l4:l[i4]?=some o4) (g1:o1.guard=none) (g3:o3.guard=none) (g4:o4.guard=none) (e1:o1.dst=some d1) (e3:o3.dst=some d3) (e4:o4.dst=some d4)
  (s1:∀y z,(L false y z).setIfInBounds i1 true=L true y z) (s3:∀x,(L x false false).setIfInBounds i3 true=L x true false) (s4:∀x,(L x true false).setIfInBounds i4 true=L x true true)
  (r0:Region.ready md l.toArray (L false false false)=[i1,i3]) (r1:Region.ready md l.toArray (L true false false)=[i3]) (r01:Region.ready md l.toArray (L false true false)=[i1,i4]) (r11:Region.ready md l.toArray (L true true false)=[i4]) (r02:Region.ready md l.toArray (L false true true)=[i1])
  (u:Value) (F:FuncId) (args:Array Value) (M:Value->World->Prop) (G:Value->World->Value) (NW:Value->World->World)
  (kD:(execOp a.eval o1).run P w0=.ok (.value u) w0) (dO:∀v w',M v w'->(execOp (a.put (some d3) v).eval o1).run P w'=.ok (.value u) w') (dJ:∀v w',M v w'->(execOp ((a.put (some d3) v).put (some d4) (G v w')).eval o1).run P (NW v w')=.ok (.value u) (NW v w'))
  (hc0:(execOp a.eval o3).run P w0=.ok (.enter F args) w0) (hc1:(execOp (a.put (some d1) u).eval o3).run P w0=.ok (.enter F args) w0) (hC:Calls P F args w0 fun e w'=>∃v,e=.returned v/\M v w')
  (bT:∀v w',M v w'->(execOp (a.put (some d3) v).eval o4).run P w'=.ok (.value (G v w')) (NW v w')) (ak:∀v w',M v w'->(execOp ((a.put (some d1) u).put (some d3) v).eval o4).run P w'=.ok (.value (G v w')) (NW v w'))
  (h:∀v w',M v w'->wpAnyH P md l.toArray (NoPanic Q) (fun _=>True) f (L true true true) (((a.put (some d1) u).put (some d3) v).put (some d4) (G v w')) (NW v w')):
  wpAnyH P md l.toArray (NoPanic Q) (fun _=>True) (f+3) (L false false false) a w0:=by
 have k11:∀v w',M v w'->wpAnyH P md l.toArray (NoPanic Q) (fun _=>True) (f+1) (L true true false) ((a.put (some d1) u).put (some d3) v) w':=fun v w' hM=>by
  refine oneT i4 o4 (G v w') l4 g4 (hr:=r11) (hv:=(ak v w' hM)) ?_;rw[e4,s4];exact h v w' hM
 have k10:wpAnyH P md l.toArray (NoPanic Q) (fun _=>True) (f+2) (L true false false) (a.put (some d1) u) w0:=by
  refine twoT i3 i3 (by rw[r1];simp) (by rw[r1];simp) ?_ ?_ <;>
  ·refine⟨o3,l3,g3,.inr ⟨F,args,hc1,hC.mono ?_⟩⟩;rintro e w' ⟨v,rfl,hM⟩;refine⟨v,rfl, ?_⟩;rw[e3,s3];exact k11 v w' hM
 have k02:∀v w',M v w'->wpAnyH P md l.toArray (NoPanic Q) (fun _=>True) (f+1) (L false true true) ((a.put (some d3) v).put (some d4) (G v w')) (NW v w'):=fun v w' hM=>by
  refine oneT i1 o1 u l1 g1 (hr:=r02) (hv:=(dJ v w' hM)) ?_;rw[e1,s1,put_comm _ d4 d1 _ _ (Ne.symm n14),put_comm _ d3 d1 _ _ (Ne.symm n13)];exact h v w' hM
 have k01:∀v w',M v w'->wpAnyH P md l.toArray (NoPanic Q) (fun _=>True) (f+2) (L false true false) (a.put (some d3) v) w':=fun v w' hM=>by
  refine twoT i1 i4 (by rw[r01];simp) (by rw[r01];simp) ?_ ?_
  ·refine⟨o1,l1,g1,.inl ⟨u,w',dO v w' hM, ?_⟩⟩;rw[e1,s1,put_comm _ d3 d1 _ _ (Ne.symm n13)];exact k11 v w' hM
  ·refine⟨o4,l4,g4,.inl ⟨_,_,bT v w' hM, ?_⟩⟩;rw[e4,s4];exact k02 v w' hM
 refine twoT i1 i3 (by rw[r0];simp) (by rw[r0];simp) ?_ ?_
 ·refine⟨o1,l1,g1,.inl ⟨u,w0,kD, ?_⟩⟩;rw[e1,s1];exact k10
 ·refine⟨o3,l3,g3,.inr ⟨F,args,hc0,hC.mono ?_⟩⟩;rintro e w' ⟨v,rfl,hM⟩;refine⟨v,rfl, ?_⟩;rw[e3,s3];exact k01 v w' hM
end
end plan
namespace schema
open Go.RowKit pen
end schema
namespace schema
open Go.RowKit pen
set_option maxRecDepth 20000 in
set_option maxHeartbeats 1600000 in
theorem parseField_any(b:Nat)(s:Sight)(w:World)(h:EyeAt 123 b s w):Calls prog 84 #[.pointer (some ⟨b,0,none⟩)] w (Saw 123 b ((takeF s).1.val) (takeF s).2 w):=by
 obtain⟨A,s1,hA⟩:∃A s1,eCount 255 s=(A,s1):=⟨_,_,rfl⟩;obtain⟨K,s2,hK⟩:∃K s2,eCount 4 s1=(K,s2):=⟨_,_,rfl⟩;have hK4:K<=4:=by have:=eCount_le 4 s1;rw[show((4:Nat):Int)=4 from rfl,hK] at this;exact this
 have au:=h.lt;have bT:Below w.heap.size w (w.alloc (.cells #[.int .i64 0,.int .i64 0,.int .i64 0,.int .i64 0,.int .i64 0] 79)):=(Below.refl _ _).alloc (Nat.le_refl _) _;have c1:=eyeCount_any b s _ (h.later bT) 255 om_ om_;have HR0:=hid (Block.new w 79 [.int .i64 0,.int .i64 0,.int .i64 0,.int .i64 0,.int .i64 0]);have c2:=fun w' hE=>eyeCount_any b s1 w' hE 4 om_ om_
 rw[hA] at c1;rw[hK] at c2;have HB0:=hid bT;have hT:takeF s=(if K=1 then(⟨A,1,(eInt s2).1,(eInt (eInt s2).2).1,0⟩,(eInt (eInt s2).2).2) else if K=3\/K=4 then(⟨A,K,0,0,(eCount 1000 s2).1⟩,(eCount 1000 s2).2) else(⟨A,K,0,0,0⟩,s2)):=by
  unfold takeF;rw[hA];simp only;rw[hK]
 rw[hT];clear hT hA hK h bT;simp only at c1 c2;by_cases h1:K=1
 ·subst h1;rw[if_pos rfl];simp only[field.Fd.val];have c3:=fun w' hE=>eyeNum_any b s2 w' hE
  have c4:=fun w' hE=>eyeNum_any b (eInt s2).2 w' hE
  generalize (eInt (eInt s2).2).1=hi at *;generalize (eInt (eInt s2).2).2=s4 at *;generalize (eInt s2).1=lo at *;generalize (eInt s2).2=s3 at *;unfold Saw at c1 c2 c3 c4 ⊢;have aH:w.heap.size≠b:=by omega
  go_enter func84,ntmps84;go_wp2_with (first
   | (go_at_call 49;((with_reducible refine c1.mono ?_);rintro e w1 ⟨rfl,hE1,hu1⟩;have HR1:=hid (blk_but HR0.o hu1 aH)))
   | (go_at_call 49;((with_reducible refine(c2 w1 hE1).mono ?_);rintro e w2 ⟨rfl,hE2,hu2⟩;have HR2:=hid (blk_but HR1.o hu2 aH);have dH:w2.heap.size≠b:=(by have:=hE2.lt;omega);have mY:w.heap.size≠w2.heap.size:=(by have:=HR2.o.lt;omega)))
   | (go_at_call 100;((with_reducible refine(c3 _ (hE2.later (field.newB _ _))).mono ?_);rintro e w3 ⟨rfl,hE3,hu3⟩;have HR3:=hid (blk_but (HR2.o.alloc _) hu3 aH);have HF3:=hid (blk_but (Block.new w2 79 [.int .i64 (A:Int),.int .i64 1,.int .i64 0,.int .i64 0,.int .i64 0]) hu3 dH)))
   | (go_at_call 100;((with_reducible refine(c4 w3 hE3).mono ?_);rintro e w4 ⟨rfl,hE4,hu4⟩;have hR4:=blk_but HR3.o hu4 aH;have hF4:=blk_but HF3.o hu4 dH;have x0:=hR4.cell 0;have x1:=hR4.cell 1;have x2:=hR4.cell 2;have x3:=hR4.cell 3;have x4:=hR4.cell 4;have y0:=hF4.cell 0;have y1:=hF4.cell 1;have y2:=hF4.cell 2;have y3:=hF4.cell 3;have y4:=hF4.cell 4;have p0:=hR4.frozen 0;have p1:=hR4.frozen 1;have p2:=hR4.frozen 2;have p3:=hR4.frozen 3;have p4:=hR4.frozen 4;have q2:=hF4.frozen 2;have q3:=hF4.frozen 3)))
  have hF5:=((But.refl w4.heap.size w2.heap.size w4).setCell 2 (.int .i64 lo)).setCell 3 (.int .i64 hi);have hE5:=eye_but hE4 hF4 (Ne.symm dH) (noByte5 ⟨A,1,0,0,0⟩) hF5;have hR5:=blk_but hR4 hF5 mY;have hs1:w.heap.size<=w1.heap.size:=Nat.le_trans HB0.o.size hu1.2.2.2.1;have hs2:w.heap.size<=w2.heap.size:=Nat.le_trans hs1 hu2.2.2.2.1;have hs3:w.heap.size<=w3.heap.size:=Nat.le_trans (Nat.le_trans hs2 (field.newB w2 _).size) hu3.2.2.2.1;have aj:=((Below.but (g:=b) HB0.o).trans (hu1.mono HB0.o.size)).trans (hu2.mono hs1);have bY:=((aj.trans (Below.but (g:=b) ((field.newB w2 (.cells #[.int .i64 (A:Int),.int .i64 1,.int .i64 0,.int .i64 0,.int .i64 0] 79)).mono hs2))).trans (hu3.mono (Nat.le_trans hs2 (field.newB w2 _).size))).trans (hu4.mono hs3);have aI:=but_store (but_store bY hs2 2 (.int .i64 lo)) hs2 3 (.int .i64 hi);obtain⟨k1,k2,k3⟩:=take_end (w:=w) ⟨A,1,lo,hi,0⟩ hE5 hR5 aH (Nat.le_refl _) aI;exact bodyPost_ret (results_cell (b:=w.heap.size) (o:=0) rfl rfl k2.whole underlying79 rfl (fd5_info _ _ _ _ _)) rfl ⟨rfl,k1,k3⟩
 ·rw[if_neg h1];by_cases h34:K=3\/K=4
  ·rw[if_pos h34];simp only[field.Fd.val];have c3:=fun w' hE=>eyeCount_any b s2 w' hE 1000 om_ om_
   generalize (eCount 1000 s2).1=M at *;generalize (eCount 1000 s2).2=s3 at *;unfold Saw at c1 c2 c3 ⊢;have aH:w.heap.size≠b:=by omega
   clear h1;rcases h34 with rfl | rfl
   ·go_enter func84,ntmps84;go_wp2_with (first
     | (go_at_call 49;((with_reducible refine c1.mono ?_);rintro e w1 ⟨rfl,hE1,hu1⟩;have HR1:=hid (blk_but HR0.o hu1 aH)))
     | (go_at_call 49;((with_reducible refine(c2 w1 hE1).mono ?_);rintro e w2 ⟨rfl,hE2,hu2⟩;have HR2:=hid (blk_but HR1.o hu2 aH);have dH:w2.heap.size≠b:=(by have:=hE2.lt;omega);have mY:w.heap.size≠w2.heap.size:=(by have:=HR2.o.lt;omega)))
     | (go_at_call 49;((with_reducible refine(c3 _ (hE2.later (field.newB _ _))).mono ?_);rintro e w3 ⟨rfl,hE3,hu3⟩;have hR3:=blk_but (HR2.o.alloc _) hu3 aH;have hF3:=blk_but (Block.new w2 79 [.int .i64 (A:Int),.int .i64 3,.int .i64 0,.int .i64 0,.int .i64 0]) hu3 dH;have x0:=hR3.cell 0;have x1:=hR3.cell 1;have x2:=hR3.cell 2;have x3:=hR3.cell 3;have x4:=hR3.cell 4;have y0:=hF3.cell 0;have y1:=hF3.cell 1;have y2:=hF3.cell 2;have y3:=hF3.cell 3;have y4:=hF3.cell 4;have p0:=hR3.frozen 0;have p1:=hR3.frozen 1;have p2:=hR3.frozen 2;have p3:=hR3.frozen 3;have p4:=hR3.frozen 4;have q4:=hF3.frozen 4)))
    have hF5:=(But.refl w3.heap.size w2.heap.size w3).setCell 4 (.int .i64 (M:Int));have hE5:=eye_but hE3 hF3 (Ne.symm dH) (noByte5 ⟨A,3,0,0,0⟩) hF5;have hR5:=blk_but hR3 hF5 mY;have hs1:w.heap.size<=w1.heap.size:=Nat.le_trans HB0.o.size hu1.2.2.2.1;have hs2:w.heap.size<=w2.heap.size:=Nat.le_trans hs1 hu2.2.2.2.1;have aj:=((Below.but (g:=b) HB0.o).trans (hu1.mono HB0.o.size)).trans (hu2.mono hs1);have aK:=(aj.trans (Below.but (g:=b) ((field.newB w2 (.cells #[.int .i64 (A:Int),.int .i64 3,.int .i64 0,.int .i64 0,.int .i64 0] 79)).mono hs2))).trans (hu3.mono (Nat.le_trans hs2 (field.newB w2 _).size));have aI:=but_store aK hs2 4 (.int .i64 (M:Int));obtain⟨k1,k2,k3⟩:=take_end (w:=w) ⟨A,3,0,0,M⟩ hE5 hR5 aH (Nat.le_refl _) aI;exact bodyPost_ret (results_cell (b:=w.heap.size) (o:=0) rfl rfl k2.whole underlying79 rfl (fd5_info _ _ _ _ _)) rfl ⟨rfl,k1,k3⟩
   ·go_enter func84,ntmps84;go_wp2_with (first
     | (go_at_call 49;((with_reducible refine c1.mono ?_);rintro e w1 ⟨rfl,hE1,hu1⟩;have HR1:=hid (blk_but HR0.o hu1 aH)))
     | (go_at_call 49;((with_reducible refine(c2 w1 hE1).mono ?_);rintro e w2 ⟨rfl,hE2,hu2⟩;have HR2:=hid (blk_but HR1.o hu2 aH);have dH:w2.heap.size≠b:=(by have:=hE2.lt;omega);have mY:w.heap.size≠w2.heap.size:=(by have:=HR2.o.lt;omega)))
     | (go_at_call 49;((with_reducible refine(c3 _ (hE2.later (field.newB _ _))).mono ?_);rintro e w3 ⟨rfl,hE3,hu3⟩;have hR3:=blk_but (HR2.o.alloc _) hu3 aH;have hF3:=blk_but (Block.new w2 79 [.int .i64 (A:Int),.int .i64 4,.int .i64 0,.int .i64 0,.int .i64 0]) hu3 dH;have x0:=hR3.cell 0;have x1:=hR3.cell 1;have x2:=hR3.cell 2;have x3:=hR3.cell 3;have x4:=hR3.cell 4;have y0:=hF3.cell 0;have y1:=hF3.cell 1;have y2:=hF3.cell 2;have y3:=hF3.cell 3;have y4:=hF3.cell 4;have p0:=hR3.frozen 0;have p1:=hR3.frozen 1;have p2:=hR3.frozen 2;have p3:=hR3.frozen 3;have p4:=hR3.frozen 4;have q4:=hF3.frozen 4)))
    have hF5:=(But.refl w3.heap.size w2.heap.size w3).setCell 4 (.int .i64 (M:Int));have hE5:=eye_but hE3 hF3 (Ne.symm dH) (noByte5 ⟨A,4,0,0,0⟩) hF5;have hR5:=blk_but hR3 hF5 mY;have hs1:w.heap.size<=w1.heap.size:=Nat.le_trans HB0.o.size hu1.2.2.2.1;have hs2:w.heap.size<=w2.heap.size:=Nat.le_trans hs1 hu2.2.2.2.1;have aj:=((Below.but (g:=b) HB0.o).trans (hu1.mono HB0.o.size)).trans (hu2.mono hs1);have aK:=(aj.trans (Below.but (g:=b) ((field.newB w2 (.cells #[.int .i64 (A:Int),.int .i64 4,.int .i64 0,.int .i64 0,.int .i64 0] 79)).mono hs2))).trans (hu3.mono (Nat.le_trans hs2 (field.newB w2 _).size));have aI:=but_store aK hs2 4 (.int .i64 (M:Int));obtain⟨k1,k2,k3⟩:=take_end (w:=w) ⟨A,4,0,0,M⟩ hE5 hR5 aH (Nat.le_refl _) aI;exact bodyPost_ret (results_cell (b:=w.heap.size) (o:=0) rfl rfl k2.whole underlying79 rfl (fd5_info _ _ _ _ _)) rfl ⟨rfl,k1,k3⟩
  ·rw[if_neg h34];simp only[field.Fd.val];unfold Saw at c1 c2 ⊢;have aH:w.heap.size≠b:=by omega
   have d1:((K:Int) == 1)=false:=by rw[beq_eq_false_iff_ne];omega
   have d3:((K:Int) == 3)=false:=by rw[beq_eq_false_iff_ne];omega
   have d4:((K:Int) == 4)=false:=by rw[beq_eq_false_iff_ne];omega
   clear h1 h34;go_enter func84,ntmps84;go_wp2_with (first
    | (go_at_call 49;((with_reducible refine c1.mono ?_);rintro e w1 ⟨rfl,hE1,hu1⟩;have HR1:=hid (blk_but HR0.o hu1 aH)))
    | (go_at_call 49;((with_reducible refine(c2 w1 hE1).mono ?_);rintro e w2 ⟨rfl,hE2,hu2⟩;have hR2:=blk_but HR1.o hu2 aH;have dH:w2.heap.size≠b:=(by have:=hE2.lt;omega);have mY:w.heap.size≠w2.heap.size:=(by have:=hR2.lt;omega);have x0:=hR2.cell 0;have x1:=hR2.cell 1;have x2:=hR2.cell 2;have x3:=hR2.cell 3;have x4:=hR2.cell 4;have p0:=hR2.frozen 0;have p1:=hR2.frozen 1;have p2:=hR2.frozen 2;have p3:=hR2.frozen 3;have p4:=hR2.frozen 4;have tJ:=hR2.lt)))
   have hs1:w.heap.size<=w1.heap.size:=Nat.le_trans HB0.o.size hu1.2.2.2.1;have hs2:w.heap.size<=w2.heap.size:=Nat.le_trans hs1 hu2.2.2.2.1;have aj:=((Below.but (g:=b) HB0.o).trans (hu1.mono HB0.o.size)).trans (hu2.mono hs1);obtain⟨k1,k2,k3⟩:=take_end (w:=w) ⟨A,K,0,0,0⟩ hE2 hR2 aH (Nat.le_refl _) aj;have hN:=fun w'=>field.newB w' (.cells #[.int .i64 (A:Int),.int .i64 (K:Int),.int .i64 0,.int .i64 0,.int .i64 0] 79)
   exact bodyPost_ret (results_cell (b:=w.heap.size) (o:=0) rfl rfl (k2.alloc _).whole underlying79 rfl (fd5_info _ _ _ _ _)) rfl ⟨rfl,k1.later (hN _),k3.trans (Below.but (g:=b) ((hN _).mono k3.2.2.2.1))⟩
end schema
theorem t143{P:Prop}(h:P:=by
 simp only[hz];clear hz h0;go_enter func86,ntmps86
 exact t23):P:=h
theorem t63{P:Prop}(h:P:=by
 go_wp2_with (go_at_call 55;(with_reducible refine c1.mono ?_);clear c1;rintro e w' ⟨rfl,m1,rfl⟩);go_ret;exact hF.o _ E):P:=h
theorem t57{P:Prop}(h:P:=by
 clear q2 h3 h4;go_enter func29,ntmps29;go_wp2_with (go_at_call 55;(with_reducible refine c1.mono ?_);clear c1;rintro e w' ⟨rfl,m1,rfl⟩);go_ret;exact hF.o _ 7):P:=h
theorem t23{P:Prop}(h:P:=by
 go_wp2_with (go_at_call 55;(with_reducible refine c1.mono ?_);clear c1;rintro e w' ⟨rfl,m1,rfl⟩);go_ret;exact⟨rfl,(HC.o m1).1,(HC.o m1).2⟩):P:=h
namespace pen
open Go.RowKit texts
set_option maxRecDepth 20000 in
theorem ax(b:Nat)(s:Sight)(w:World)(h:EyeAt 68 b s w)(most:Int)(h1: -9223372036854775808<=most)(h2:most<=9223372036854775807):
  Calls prog 29 #[.pointer (some ⟨b,0,none⟩),.int .i64 most] w (Saw 68 b (.int .i64 ((eCount most s).1:Int)) (eCount most s).2 w):=by
 obtain⟨r,z⟩:=s;have HE:=hid h;obtain⟨a,c,st⟩:=h.stand;clear h;unfold eCount eVar;simp only[];have d0:=st.rest;have d1:=st.err;have f0:=st.block.frozen 0;have f1:=st.block.frozen 1;have hlen:=st.len;by_cases hz:z=0
 ·subst hz;rw[show((0:Nat):Int)=0 from rfl] at d1;rw[if_neg si_];have c1:Calls prog 55 #[.slice a r.length c] w (Quiet (grpV (grp 0 0 r)) w):=eH a c r _ st.reads st.room st.small st.len;have d0':∀m,(w.drewN m).cell? ⟨b,0,none⟩=some (.slice a r.length c):=fun m=>(st.drewN m).rest
  have qN:∀m,(w.drewN m).frozen? ⟨b,0,none⟩=false:=fun m=>(st.drewN m).block.frozen 0
  have d1':∀m,(w.drewN m).cell? ⟨b,1,none⟩=some (.int .i64 0):=fun m=>(st.drewN m).err
  have f1':∀m,(w.drewN m).frozen? ⟨b,1,none⟩=false:=fun m=>(st.drewN m).block.frozen 1
  obtain⟨g1,g2,g3,g4⟩:=grp_ok0 r st.small;unfold grpV at c1;have HGN:=hid g2;obtain⟨V,hV⟩:∃V,Hid ((grp 0 0 r).1=V):=⟨_,rfl⟩;obtain⟨N,hN⟩:∃N,Hid ((grp 0 0 r).2.1=N):=⟨_,rfl⟩;obtain⟨E,hE⟩:∃E,Hid ((grp 0 0 r).2.2=E):=⟨_,rfl⟩;simp only[hV.o,hN.o,hE.o] at c1 g1 g3 g4 HGN ⊢;have hF:Hid (∀m z,Saw 68 b (.int .i64 0) (r,z) w (.returned (.int .i64 0)) ((w.drewN m).setCell ⟨b,1,none⟩ (.int .i64 (z:Int)))):=fun m z=>by
   exact t55
  have HS:=hid st;clear st g2;by_cases he:E=0
  ·subst he;rw[if_neg si_];rw[show((0:Nat):Int)=0 from rfl] at c1;by_cases h3:9223372036854775807<V
   ·rw[if_pos h3];have q1:(9223372036854775808:Int)<=V:=by omega
    go_enter func29,ntmps29;go_wp2_with (go_at_call 55;(with_reducible refine c1.mono ?_);clear c1;rintro e w' ⟨rfl,m1,rfl⟩);go_ret;exact hF.o _ 4
   ·rw[if_neg h3];have q1:¬(9223372036854775808:Int)<=V:=by omega
    have tK:decide ((9223372036854775808:Int)<=V)=false:=decide_eq_false q1;by_cases h4:(max most 0).toNat<V
    ·rw[if_pos h4];have q2:max most 0<(V:Int):=by omega
     by_cases h5:0<=most
     ·have q3:most<(V:Int):=by omega
      have pX:decide (most<(V:Int))=true:=decide_eq_true q3;have em:∀ts t W,(Builtin.max_ ts t #[.int .i64 most,.int .i64 0]).run prog W=.ok (.int .i64 most) W:=fun ts t W=>by rw[run_max_int2,if_neg om_]
      exact t57
     ·have q3:(0:Int)<(V:Int):=by omega
      have pX:decide ((0:Int)<(V:Int))=true:=decide_eq_true q3;have pY:0<V:=by omega
      have rX:decide (0<V)=true:=decide_eq_true pY;have em:∀ts t W,(Builtin.max_ ts t #[.int .i64 most,.int .i64 0]).run prog W=.ok (.int .i64 0) W:=fun ts t W=>by rw[run_max_int2,if_pos om_]
      have q4:most<0:=by omega
      exact t57
    ·rw[if_neg h4];have lZ:N<=r.length:=by have:=HGN.o rfl;omega
     have e2:=fun W=>cut_from W a r.length c N lZ
     have HC:=hid (fun m=>(HS.o.drewN m).cut N lZ);obtain⟨A2,hA2⟩:∃A,Hid (shift a N c=A):=⟨_,rfl⟩;rw[hA2.o] at e2 HC;by_cases h5:0<=most
     ·have q3:¬most<(V:Int):=by omega
      have pX:decide (most<(V:Int))=false:=decide_eq_false q3;have em:∀ts t W,(Builtin.max_ ts t #[.int .i64 most,.int .i64 0]).run prog W=.ok (.int .i64 most) W:=fun ts t W=>by rw[run_max_int2,if_neg om_]
      clear h3 h4;go_enter func29,ntmps29
      exact t23
     ·have q3:¬(0:Int)<(V:Int):=by omega
      have pX:decide ((0:Int)<(V:Int))=false:=decide_eq_false q3;have pY:¬0<V:=by omega
      have rX:decide (0<V)=false:=decide_eq_false pY;have em:∀ts t W,(Builtin.max_ ts t #[.int .i64 most,.int .i64 0]).run prog W=.ok (.int .i64 0) W:=fun ts t W=>by rw[run_max_int2,if_pos om_]
      have q4:most<0:=by omega
      clear h3 h4;go_enter func29,ntmps29
      exact t23
  ·rw[if_pos he];have q0:((E:Int) != 0)=true:=by rw[bne_iff_ne];omega
   have q1:((E:Int) == 0)=false:=by rw[beq_eq_false_iff_ne];omega
   clear he;go_enter func29,ntmps29
   exact t63
 ·rw[if_pos hz];have hi:((z:Int) != 0)=true:=by rw[bne_iff_ne];omega
  clear st hz;go_enter func29,ntmps29;go_wp2;go_ret;exact⟨rfl,HE.o,But.refl _ _ _⟩
set_option maxRecDepth 8000 in
theorem aX(b:Nat)(s:Sight)(w:World)(h:EyeAt 68 b s w):
  Calls prog 86 #[.pointer (some ⟨b,0,none⟩)] w (Saw 68 b (.int .i64 (eInt s).1) (eInt s).2 w):=by
 obtain⟨r,z⟩:=s;have HE:=hid h;obtain⟨a,c,st⟩:=h.stand;clear h;unfold eInt eVar;simp only[];have d0:=st.rest;have d1:=st.err;have f0:=st.block.frozen 0;have f1:=st.block.frozen 1;have hlen:=st.len;by_cases hz:z=0
 ·subst hz;rw[show((0:Nat):Int)=0 from rfl] at d1;rw[if_neg si_];have c1:Calls prog 55 #[.slice a r.length c] w (Quiet (grpV (grp 0 0 r)) w):=eH a c r _ st.reads st.room st.small st.len;have d0':∀m,(w.drewN m).cell? ⟨b,0,none⟩=some (.slice a r.length c):=fun m=>(st.drewN m).rest
  have qN:∀m,(w.drewN m).frozen? ⟨b,0,none⟩=false:=fun m=>(st.drewN m).block.frozen 0
  have d1':∀m,(w.drewN m).cell? ⟨b,1,none⟩=some (.int .i64 0):=fun m=>(st.drewN m).err
  have f1':∀m,(w.drewN m).frozen? ⟨b,1,none⟩=false:=fun m=>(st.drewN m).block.frozen 1
  obtain⟨g1,g2,g3,g4⟩:=grp_ok0 r st.small;unfold grpV at c1;have HGN:=hid g2;obtain⟨V,hV⟩:∃V,Hid ((grp 0 0 r).1=V):=⟨_,rfl⟩;obtain⟨N,hN⟩:∃N,Hid ((grp 0 0 r).2.1=N):=⟨_,rfl⟩;obtain⟨E,hE⟩:∃E,Hid ((grp 0 0 r).2.2=E):=⟨_,rfl⟩;simp only[hV.o,hN.o,hE.o] at c1 g1 g3 g4 HGN ⊢;have hF:Hid (∀m z,Saw 68 b (.int .i64 0) (r,z) w (.returned (.int .i64 0)) ((w.drewN m).setCell ⟨b,1,none⟩ (.int .i64 (z:Int)))):=fun m z=>by
   exact t55
  have HS:=hid st;clear st g2;by_cases he:E=0
  ·subst he;rw[if_neg si_,if_neg om_,if_neg om_];rw[show((0:Nat):Int)=0 from rfl] at c1;have lZ:N<=r.length:=by have:=HGN.o rfl;omega
   have e2:=fun W=>cut_from W a r.length c N lZ
   have HC:=hid (fun m=>(HS.o.drewN m).cut N lZ);obtain⟨A2,hA2⟩:∃A,Hid (shift a N c=A):=⟨_,rfl⟩;rw[hA2.o] at e2 HC;by_cases h0:V % 2=1
   ·have hz:unzig V= -((V:Int) / 2) - 1:=by unfold unzig;rw[if_pos h0];omega
    have q:((V:Int) % 2 == 1)=true:=by rw[beq_iff_eq];omega
    exact t143
   ·have hz:unzig V=(V:Int) / 2:=by unfold unzig;rw[if_neg h0];omega
    have q:((V:Int) % 2 == 1)=false:=by rw[beq_eq_false_iff_ne];omega
    exact t143
  ·rw[if_pos he];have q0:((E:Int) != 0)=true:=by rw[bne_iff_ne];omega
   simp only[show unzig 0=0 from rfl];clear he;go_enter func86,ntmps86
   exact t63
 ·rw[if_pos hz];have hi:((z:Int) != 0)=true:=by rw[bne_iff_ne];omega
  simp only[show unzig 0=0 from rfl];clear st hz;go_enter func86,ntmps86;go_wp2;go_ret;exact⟨rfl,HE.o,But.refl _ _ _⟩
end pen
namespace schema
open Go.RowKit pen
set_option maxRecDepth 20000 in
set_option maxHeartbeats 1600000 in
theorem fE(b:Nat)(s:Sight)(w:World)(h:EyeAt 68 b s w):Calls prog 57 #[.pointer (some ⟨b,0,none⟩)] w (Saw 68 b ((takeF s).1.val) (takeF s).2 w):=by
 obtain⟨A,s1,hA⟩:∃A s1,eCount 255 s=(A,s1):=⟨_,_,rfl⟩;obtain⟨K,s2,hK⟩:∃K s2,eCount 4 s1=(K,s2):=⟨_,_,rfl⟩;have hK4:K<=4:=by have:=eCount_le 4 s1;rw[show((4:Nat):Int)=4 from rfl,hK] at this;exact this
 have au:=h.lt;have bT:=field.newB w (.cells #[.int .i64 0,.int .i64 0,.int .i64 0,.int .i64 0,.int .i64 0] 79);have c1:=ax b s _ (h.later bT) 255 om_ om_;have HR0:=hid (Block.new w 79 [.int .i64 0,.int .i64 0,.int .i64 0,.int .i64 0,.int .i64 0]);have c2:=fun w' hE=>ax b s1 w' hE 4 om_ om_
 rw[hA] at c1;rw[hK] at c2;have HB0:=hid bT;have hT:takeF s=(if K=1 then(⟨A,1,(eInt s2).1,(eInt (eInt s2).2).1,0⟩,(eInt (eInt s2).2).2) else if K=3\/K=4 then(⟨A,K,0,0,(eCount 1000 s2).1⟩,(eCount 1000 s2).2) else(⟨A,K,0,0,0⟩,s2)):=by
  unfold takeF;rw[hA];simp only;rw[hK]
 rw[hT];have aH:w.heap.size≠b:=by omega
 clear hT hA hK h bT;simp only at c1 c2;by_cases h1:K=1
 ·subst h1;rw[if_pos rfl];simp only[field.Fd.val];have c3:=fun w' hE=>aX b s2 w' hE
  have c4:=fun w' hE=>aX b (eInt s2).2 w' hE
  generalize (eInt (eInt s2).2).1=hi at *;generalize (eInt (eInt s2).2).2=s4 at *;generalize (eInt s2).1=lo at *;generalize (eInt s2).2=s3 at *;unfold Saw at c1 c2 c3 c4 ⊢;go_enter func57,ntmps57;go_wp2_with (first
   | (go_at_call 29;((with_reducible refine c1.mono ?_);rintro e w1 ⟨rfl,hE1,hu1⟩;have HR1:=hid (blk_but HR0.o hu1 aH);have hFn:=Block.new w1 79 [.int .i64 (A:Int),.int .i64 0,.int .i64 0,.int .i64 0,.int .i64 0];have gX:b<w1.heap.size:=hE1.lt;have iP:w.heap.size<w1.heap.size:=HR1.o.lt;have dY:w.heap.size≠w1.heap.size:=Nat.ne_of_lt iP;have jd:w1.heap.size≠b:=Nat.ne_of_gt gX))
   | (go_at_call 29;((with_reducible refine(c2 _ (hE1.later (field.newB _ _))).mono ?_);rintro e w2 ⟨rfl,hE2,hu2⟩;have hR2:=blk_but (HR1.o.alloc _) hu2 aH;have hF2:=blk_but hFn hu2 jd;have gV:=eye_past hE2 gX ((But.refl _ w1.heap.size w2).setCell 1 (.int .i64 1));have y0:=hF2.cell 0;have y1:=hF2.cell 1;have y2:=hF2.cell 2;have y3:=hF2.cell 3;have y4:=hF2.cell 4;have q1:=hF2.frozen 1;have x0:=hR2.cell 0;have x1:=hR2.cell 1;have x2:=hR2.cell 2;have x3:=hR2.cell 3;have x4:=hR2.cell 4;have p0:=hR2.frozen 0;have p1:=hR2.frozen 1;have p2:=hR2.frozen 2;have p3:=hR2.frozen 3;have p4:=hR2.frozen 4))
   | (go_at_call 86;((with_reducible refine(c3 _ gV).mono ?_);rintro e w3 ⟨rfl,hE3,hu3⟩;have hR3:=blk_but (blk_but hR2 ((But.refl _ w1.heap.size w2).setCell 1 (.int .i64 1)) dY) hu3 aH;have hF3:=blk_but (hF2.setCell 1 (.int .i64 1)) hu3 jd;have oz:=eye_past hE3 gX ((But.refl _ w1.heap.size w3).setCell 2 (.int .i64 lo));have x0:=hR3.cell 0;have x1:=hR3.cell 1;have x2:=hR3.cell 2;have x3:=hR3.cell 3;have x4:=hR3.cell 4;have p0:=hR3.frozen 0;have p1:=hR3.frozen 1;have p2:=hR3.frozen 2;have p3:=hR3.frozen 3;have p4:=hR3.frozen 4;have y0:=hF3.cell 0;have y1:=hF3.cell 1;have y2:=hF3.cell 2;have y3:=hF3.cell 3;have y4:=hF3.cell 4;have q2:=hF3.frozen 2))
   | (go_at_call 86;((with_reducible refine(c4 _ oz).mono ?_);rintro e w4 ⟨rfl,hE4,hu4⟩;have hR4:=blk_but (blk_but hR3 ((But.refl _ w1.heap.size w3).setCell 2 (.int .i64 lo)) dY) hu4 aH;have hF4:=blk_but (hF3.setCell 2 (.int .i64 lo)) hu4 jd;have x0:=hR4.cell 0;have x1:=hR4.cell 1;have x2:=hR4.cell 2;have x3:=hR4.cell 3;have x4:=hR4.cell 4;have p0:=hR4.frozen 0;have p1:=hR4.frozen 1;have p2:=hR4.frozen 2;have p3:=hR4.frozen 3;have p4:=hR4.frozen 4;have y0:=hF4.cell 0;have y1:=hF4.cell 1;have y2:=hF4.cell 2;have y3:=hF4.cell 3;have y4:=hF4.cell 4;have q3:=hF4.frozen 3)))
  have hs1:w.heap.size<=w1.heap.size:=Nat.le_of_lt iP;have ak:=(Below.but (g:=b) HB0.o).trans (hu1.mono HB0.o.size);have hs1':w.heap.size<=(w1.alloc (.cells #[.int .i64 (A:Int),.int .i64 0,.int .i64 0,.int .i64 0,.int .i64 0] 79)).heap.size:=Nat.le_trans hs1 (field.newB w1 _).size;have aj:=but_store ((ak.trans (Below.but (g:=b) ((field.newB w1 (.cells #[.int .i64 (A:Int),.int .i64 0,.int .i64 0,.int .i64 0,.int .i64 0] 79)).mono hs1))).trans (hu2.mono hs1')) hs1 1 (.int .i64 1);have hg2:=aj.2.2.2.1;have aK:=but_store (aj.trans (hu3.mono hg2)) hs1 2 (.int .i64 lo);have bY:=but_store (aK.trans (hu4.mono aK.2.2.2.1)) hs1 3 (.int .i64 hi);have hE5:=eye_past hE4 gX ((But.refl _ w1.heap.size w4).setCell 3 (.int .i64 hi));have hR5:=blk_but hR4 ((But.refl _ w1.heap.size w4).setCell 3 (.int .i64 hi)) dY;obtain⟨k1,k2,k3⟩:=take_end (w:=w) ⟨A,1,lo,hi,0⟩ hE5 hR5 aH (Nat.le_refl _) bY;exact bodyPost_ret (results_cell (b:=w.heap.size) (o:=0) rfl rfl k2.whole underlying79 rfl (fd5_info _ _ _ _ _)) rfl ⟨rfl,k1,k3⟩
 ·rw[if_neg h1];by_cases h34:K=3\/K=4
  ·rw[if_pos h34];simp only[field.Fd.val];have c3:=fun w' hE=>ax b s2 w' hE 1000 om_ om_
   generalize (eCount 1000 s2).1=M at *;generalize (eCount 1000 s2).2=s3 at *;unfold Saw at c1 c2 c3 ⊢;clear h1;rcases h34 with rfl | rfl
   ·go_enter func57,ntmps57;go_wp2_with (first
     | (go_at_call 29;((with_reducible refine c1.mono ?_);rintro e w1 ⟨rfl,hE1,hu1⟩;have HR1:=hid (blk_but HR0.o hu1 aH);have hFn:=Block.new w1 79 [.int .i64 (A:Int),.int .i64 0,.int .i64 0,.int .i64 0,.int .i64 0];have gX:b<w1.heap.size:=hE1.lt;have iP:w.heap.size<w1.heap.size:=HR1.o.lt;have dY:w.heap.size≠w1.heap.size:=Nat.ne_of_lt iP;have jd:w1.heap.size≠b:=Nat.ne_of_gt gX))
     | (go_at_call 29;((with_reducible refine(c2 _ (hE1.later (field.newB _ _))).mono ?_);rintro e w2 ⟨rfl,hE2,hu2⟩;have hR2:=blk_but (HR1.o.alloc _) hu2 aH;have hF2:=blk_but hFn hu2 jd;have gV:=eye_past hE2 gX ((But.refl _ w1.heap.size w2).setCell 1 (.int .i64 3));have y0:=hF2.cell 0;have y1:=hF2.cell 1;have y2:=hF2.cell 2;have y3:=hF2.cell 3;have y4:=hF2.cell 4;have q1:=hF2.frozen 1;have x0:=hR2.cell 0;have x1:=hR2.cell 1;have x2:=hR2.cell 2;have x3:=hR2.cell 3;have x4:=hR2.cell 4;have p0:=hR2.frozen 0;have p1:=hR2.frozen 1;have p2:=hR2.frozen 2;have p3:=hR2.frozen 3;have p4:=hR2.frozen 4))
     | (go_at_call 29;((with_reducible refine(c3 _ gV).mono ?_);rintro e w3 ⟨rfl,hE3,hu3⟩;have hR3:=blk_but (blk_but hR2 ((But.refl _ w1.heap.size w2).setCell 1 (.int .i64 3)) dY) hu3 aH;have hF3:=blk_but (hF2.setCell 1 (.int .i64 3)) hu3 jd;have x0:=hR3.cell 0;have x1:=hR3.cell 1;have x2:=hR3.cell 2;have x3:=hR3.cell 3;have x4:=hR3.cell 4;have p0:=hR3.frozen 0;have p1:=hR3.frozen 1;have p2:=hR3.frozen 2;have p3:=hR3.frozen 3;have p4:=hR3.frozen 4;have y0:=hF3.cell 0;have y1:=hF3.cell 1;have y2:=hF3.cell 2;have y3:=hF3.cell 3;have y4:=hF3.cell 4;have q4:=hF3.frozen 4)))
    have hs1:w.heap.size<=w1.heap.size:=Nat.le_of_lt iP;have ak:=(Below.but (g:=b) HB0.o).trans (hu1.mono HB0.o.size);have hs1':w.heap.size<=(w1.alloc (.cells #[.int .i64 (A:Int),.int .i64 0,.int .i64 0,.int .i64 0,.int .i64 0] 79)).heap.size:=Nat.le_trans hs1 (field.newB w1 _).size;have aj:=but_store ((ak.trans (Below.but (g:=b) ((field.newB w1 (.cells #[.int .i64 (A:Int),.int .i64 0,.int .i64 0,.int .i64 0,.int .i64 0] 79)).mono hs1))).trans (hu2.mono hs1')) hs1 1 (.int .i64 3);have hg2:=aj.2.2.2.1;have aK:=but_store (aj.trans (hu3.mono hg2)) hs1 4 (.int .i64 (M:Int));have hE5:=eye_past hE3 gX ((But.refl _ w1.heap.size w3).setCell 4 (.int .i64 (M:Int)));have hR5:=blk_but hR3 ((But.refl _ w1.heap.size w3).setCell 4 (.int .i64 (M:Int))) dY;obtain⟨k1,k2,k3⟩:=take_end (w:=w) ⟨A,3,0,0,M⟩ hE5 hR5 aH (Nat.le_refl _) aK;exact bodyPost_ret (results_cell (b:=w.heap.size) (o:=0) rfl rfl k2.whole underlying79 rfl (fd5_info _ _ _ _ _)) rfl ⟨rfl,k1,k3⟩
   ·go_enter func57,ntmps57;go_wp2_with (first
     | (go_at_call 29;((with_reducible refine c1.mono ?_);rintro e w1 ⟨rfl,hE1,hu1⟩;have HR1:=hid (blk_but HR0.o hu1 aH);have hFn:=Block.new w1 79 [.int .i64 (A:Int),.int .i64 0,.int .i64 0,.int .i64 0,.int .i64 0];have gX:b<w1.heap.size:=hE1.lt;have iP:w.heap.size<w1.heap.size:=HR1.o.lt;have dY:w.heap.size≠w1.heap.size:=Nat.ne_of_lt iP;have jd:w1.heap.size≠b:=Nat.ne_of_gt gX))
     | (go_at_call 29;((with_reducible refine(c2 _ (hE1.later (field.newB _ _))).mono ?_);rintro e w2 ⟨rfl,hE2,hu2⟩;have hR2:=blk_but (HR1.o.alloc _) hu2 aH;have hF2:=blk_but hFn hu2 jd;have gV:=eye_past hE2 gX ((But.refl _ w1.heap.size w2).setCell 1 (.int .i64 4));have y0:=hF2.cell 0;have y1:=hF2.cell 1;have y2:=hF2.cell 2;have y3:=hF2.cell 3;have y4:=hF2.cell 4;have q1:=hF2.frozen 1;have x0:=hR2.cell 0;have x1:=hR2.cell 1;have x2:=hR2.cell 2;have x3:=hR2.cell 3;have x4:=hR2.cell 4;have p0:=hR2.frozen 0;have p1:=hR2.frozen 1;have p2:=hR2.frozen 2;have p3:=hR2.frozen 3;have p4:=hR2.frozen 4))
     | (go_at_call 29;((with_reducible refine(c3 _ gV).mono ?_);rintro e w3 ⟨rfl,hE3,hu3⟩;have hR3:=blk_but (blk_but hR2 ((But.refl _ w1.heap.size w2).setCell 1 (.int .i64 4)) dY) hu3 aH;have hF3:=blk_but (hF2.setCell 1 (.int .i64 4)) hu3 jd;have x0:=hR3.cell 0;have x1:=hR3.cell 1;have x2:=hR3.cell 2;have x3:=hR3.cell 3;have x4:=hR3.cell 4;have p0:=hR3.frozen 0;have p1:=hR3.frozen 1;have p2:=hR3.frozen 2;have p3:=hR3.frozen 3;have p4:=hR3.frozen 4;have y0:=hF3.cell 0;have y1:=hF3.cell 1;have y2:=hF3.cell 2;have y3:=hF3.cell 3;have y4:=hF3.cell 4;have q4:=hF3.frozen 4)))
    have hs1:w.heap.size<=w1.heap.size:=Nat.le_of_lt iP;have ak:=(Below.but (g:=b) HB0.o).trans (hu1.mono HB0.o.size);have hs1':w.heap.size<=(w1.alloc (.cells #[.int .i64 (A:Int),.int .i64 0,.int .i64 0,.int .i64 0,.int .i64 0] 79)).heap.size:=Nat.le_trans hs1 (field.newB w1 _).size;have aj:=but_store ((ak.trans (Below.but (g:=b) ((field.newB w1 (.cells #[.int .i64 (A:Int),.int .i64 0,.int .i64 0,.int .i64 0,.int .i64 0] 79)).mono hs1))).trans (hu2.mono hs1')) hs1 1 (.int .i64 4);have hg2:=aj.2.2.2.1;have aK:=but_store (aj.trans (hu3.mono hg2)) hs1 4 (.int .i64 (M:Int));have hE5:=eye_past hE3 gX ((But.refl _ w1.heap.size w3).setCell 4 (.int .i64 (M:Int)));have hR5:=blk_but hR3 ((But.refl _ w1.heap.size w3).setCell 4 (.int .i64 (M:Int))) dY;obtain⟨k1,k2,k3⟩:=take_end (w:=w) ⟨A,4,0,0,M⟩ hE5 hR5 aH (Nat.le_refl _) aK;exact bodyPost_ret (results_cell (b:=w.heap.size) (o:=0) rfl rfl k2.whole underlying79 rfl (fd5_info _ _ _ _ _)) rfl ⟨rfl,k1,k3⟩
  ·rw[if_neg h34];simp only[field.Fd.val];unfold Saw at c1 c2 ⊢;have d1:((K:Int) == 1)=false:=by rw[beq_eq_false_iff_ne];omega
   have d3:((K:Int) == 3)=false:=by rw[beq_eq_false_iff_ne];omega
   have d4:((K:Int) == 4)=false:=by rw[beq_eq_false_iff_ne];omega
   clear h1 h34;go_enter func57,ntmps57;go_wp2_with (first
    | (go_at_call 29;((with_reducible refine c1.mono ?_);rintro e w1 ⟨rfl,hE1,hu1⟩;have HR1:=hid (blk_but HR0.o hu1 aH);have hFn:=Block.new w1 79 [.int .i64 (A:Int),.int .i64 0,.int .i64 0,.int .i64 0,.int .i64 0];have gX:b<w1.heap.size:=hE1.lt;have iP:w.heap.size<w1.heap.size:=HR1.o.lt;have dY:w.heap.size≠w1.heap.size:=Nat.ne_of_lt iP;have jd:w1.heap.size≠b:=Nat.ne_of_gt gX))
    | (go_at_call 29;((with_reducible refine(c2 _ (hE1.later (field.newB _ _))).mono ?_);rintro e w2 ⟨rfl,hE2,hu2⟩;have hR2:=blk_but (HR1.o.alloc _) hu2 aH;have hF2:=blk_but hFn hu2 jd;have gV:=eye_past hE2 gX ((But.refl _ w1.heap.size w2).setCell 1 (.int .i64 (K:Int)));have y0:=hF2.cell 0;have y1:=hF2.cell 1;have y2:=hF2.cell 2;have y3:=hF2.cell 3;have y4:=hF2.cell 4;have q1:=hF2.frozen 1;have x0:=hR2.cell 0;have x1:=hR2.cell 1;have x2:=hR2.cell 2;have x3:=hR2.cell 3;have x4:=hR2.cell 4;have p0:=hR2.frozen 0;have p1:=hR2.frozen 1;have p2:=hR2.frozen 2;have p3:=hR2.frozen 3;have p4:=hR2.frozen 4)))
   have hs1:w.heap.size<=w1.heap.size:=Nat.le_of_lt iP;have ak:=(Below.but (g:=b) HB0.o).trans (hu1.mono HB0.o.size);have hs1':w.heap.size<=(w1.alloc (.cells #[.int .i64 (A:Int),.int .i64 0,.int .i64 0,.int .i64 0,.int .i64 0] 79)).heap.size:=Nat.le_trans hs1 (field.newB w1 _).size;have aj:=but_store ((ak.trans (Below.but (g:=b) ((field.newB w1 (.cells #[.int .i64 (A:Int),.int .i64 0,.int .i64 0,.int .i64 0,.int .i64 0] 79)).mono hs1))).trans (hu2.mono hs1')) hs1 1 (.int .i64 (K:Int));have hR5:=blk_but hR2 ((But.refl _ w1.heap.size w2).setCell 1 (.int .i64 (K:Int))) dY;obtain⟨k1,k2,k3⟩:=take_end (w:=w) ⟨A,K,0,0,0⟩ gV hR5 aH (Nat.le_refl _) aj;exact bodyPost_ret (results_cell (b:=w.heap.size) (o:=0) rfl rfl k2.whole underlying79 rfl (fd5_info _ _ _ _ _)) rfl ⟨rfl,k1,k3⟩
end schema
end Go.Proofs.YtogfefdlffmioaaGreat
