/- Contracts and lemmas that claims of this seat share: FieldSmall, FieldStore, EyeHelp, EyeStay, SchemaStay, SchemaTakeF. Each says its own conditions. -/
import Derived.Test.YtogfefdlffmioaaCmWord
import Derived.IntWalk
import Derived.Handy
import Derived.Test.YtogfefdlffmioaaCmG
import Derived.Test.YtogfefdlffmioaaCmH
import Derived.Test.YtogfefdlffmioaaCmI
import Derived.Test.YtogfefdlffmioaaCmK
import Derived.Test.YtogfefdlffmioaaCmT
import Derived.Test.YtogfefdlffmioaaCmW
import Derived.Test.YtogfefdlffmioaaCmF
set_option linter.unusedVariables false
namespace Go.Proofs.Ytogfefdlffmioaa
open Go.Proofs.Try
theorem t94{P:Prop}(h:P:=by
 go_enter func99,ntmps99;go_wp2;go_ret;exact⟨rfl,aI _ _⟩):P:=h
namespace field
open Go.RowKit
theorem yY(f:Fd)(w:World):Calls prog 99 #[zF f] w (Gives (.int .i64 f.long) w):=by
 obtain⟨i,k,lo,hi,m⟩:=f;simp only;unfold Gives;by_cases hk:k=4
 ·subst hk;rw[show Fd.long ⟨i,4,lo,hi,m⟩=m from rfl]
  exact t94
 ·rw[show Fd.long ⟨i,k,lo,hi,m⟩=0 from if_neg hk];have e4:(k == 4)=false:=by rw[beq_eq_false_iff_ne];exact hk
  clear hk
  exact t94
end field
namespace field
open Go.RowKit
theorem two(v:Va)(w w':World)(hb:Below (w.alloc (.cells (zV v) 49)).heap.size (w.alloc (.cells (zV v) 49)) w'):(w'.cell? ⟨w.heap.size,0,none⟩=some (.int .i64 v.n)/\w'.cell? ⟨w.heap.size,1,none⟩=some (.string v.s)):=by
 have hB:=(Block.new w 49 (zV v)).later hb;exact⟨hB.cell 0,hB.cell 1⟩
def W2(f:Fd)(w:World):World:=(w.alloc (.cells (zF f) 47)).alloc (.cells #[.int .i64 0,.string ⟨#[]⟩] 49)
theorem W2.all(f:Fd)(w w':World)(hb:Below (W2 f w).heap.size (W2 f w) w'):(w'.cell? ⟨w.heap.size,0,none⟩=some (.int .i64 f.id)/\w'.cell? ⟨w.heap.size,1,none⟩=some (.int .i64 f.kind)/\w'.cell? ⟨w.heap.size,2,none⟩=some (.int .i64 f.lo)/\w'.cell? ⟨w.heap.size,3,none⟩=some (.int .i64 f.hi)/\w'.cell? ⟨w.heap.size,4,none⟩=some (.int .i64 f.most))/\Block w' (w.heap.size+1) 49 [.int .i64 0,.string ⟨#[]⟩]/\Below w.heap.size w w':=by
 have h1:Below (w.alloc (.cells (zF f) 47)).heap.size (w.alloc (.cells (zF f) 47)) w':=(aI _ _).trans (hb.mono (by unfold W2;simp));refine⟨five f w w' h1, ?_,lq f w w' h1⟩;have h2:=(Block.new (w.alloc (.cells (zF f) 47)) 49 [.int .i64 0,.string ⟨#[]⟩]).later hb;simpa using h2
end field
namespace ak
open Go.RowKit pen
theorem eP(most:Nat)(s:Sight):(au (most:Int) s).1<=most:=by
 have h:=(oH 9223372036854775807 (max (most:Int) 0).toNat s).2;unfold au;omega
theorem lH(v0 v1 v2 v3 v4:Value):(prog.info? 47).map (·.size)=some [v0,v1,v2,v3,v4].length:=by kernel_rfl
theorem bK{w w':World}{k b:Nat}{t:TypeId}{cs:List Value}(h:Block w k t cs)(hb:But w.heap.size b w w')(dR:k≠b):Block w' k t cs:=h.but hb h.lt dR
theorem di{B b k:Nat}{a w:World}(h:But B b a w)(hk:B<=k)(o:Nat)(v:Value):But B b a (w.setCell ⟨k,o,none⟩ v):=h.trans (Below.but (below_setCells (Below.refl B w) hk o [v]))
theorem lN{t:TypeId}{b R:Nat}{s:Sight}{w w5:World}(f:field.Fd)(hE:bG t b s w5)(hR:Block w5 R 47 [.int .i64 0,.int .i64 0,.int .i64 0,.int .i64 0,.int .i64 0])(dR:R≠b)(hw:w.heap.size<=R)(hu:But w.heap.size b w w5):
  bG t b s (((((w5.setCell ⟨R,0,none⟩ (.int .i64 f.id)).setCell ⟨R,1,none⟩ (.int .i64 f.kind)).setCell ⟨R,2,none⟩ (.int .i64 f.lo)).setCell ⟨R,3,none⟩ (.int .i64 f.hi)).setCell ⟨R,4,none⟩ (.int .i64 f.most))/\
  Block (((((w5.setCell ⟨R,0,none⟩ (.int .i64 f.id)).setCell ⟨R,1,none⟩ (.int .i64 f.kind)).setCell ⟨R,2,none⟩ (.int .i64 f.lo)).setCell ⟨R,3,none⟩ (.int .i64 f.hi)).setCell ⟨R,4,none⟩ (.int .i64 f.most)) R 47 (zF f)/\
  But w.heap.size b w (((((w5.setCell ⟨R,0,none⟩ (.int .i64 f.id)).setCell ⟨R,1,none⟩ (.int .i64 f.kind)).setCell ⟨R,2,none⟩ (.int .i64 f.lo)).setCell ⟨R,3,none⟩ (.int .i64 f.hi)).setCell ⟨R,4,none⟩ (.int .i64 f.most)):=by
 refine⟨tq hE hR (Ne.symm dR) (tH ⟨0,0,0,0,0⟩) ((((((But.refl _ R w5).setCell 0 _).setCell 1 _).setCell 2 _).setCell 3 _).setCell 4 _), ?_, ?_⟩
 ·exact((((hR.setCell 0 (.int .i64 f.id)).setCell 1 (.int .i64 f.kind)).setCell 2 (.int .i64 f.lo)).setCell 3 (.int .i64 f.hi)).setCell 4 (.int .i64 f.most)
 ·exact di (di (di (di (di hu hw 0 _) hw 1 _) hw 2 _) hw 3 _) hw 4 _
end ak
namespace ak
open Go.RowKit pen
theorem bG.blk{t:TypeId}{b:Nat}{s:Sight}{w:World}(h:bG t b s w):∃cs,Block w b t cs:=by
 obtain⟨_,_,a,c,h3,_⟩:=h;exact⟨_,h3⟩
theorem gY{t:TypeId}{b g:Nat}{s:Sight}{w w':World}(h:bG t b s w)(hg:b<g)(hb:But w.heap.size g w w'):bG t b s w':=by
 obtain⟨h1,h2,a,cap,h3,h4,h5,h6⟩:=h;refine⟨h1,h2,a,cap,h3.but hb h3.lt om_,h4, ?_,h6⟩;by_cases h0:s.1.length=0
 ·exact⟨h5.1,.inl h0⟩
 ·exact rD h5 hb fun x hx=>by have:=h6 om_ x hx;omega
theorem jA{t:TypeId}{b B e sz n:Nat}{s:Sight}{u:Value}{xs:List Value}{w w':World}(h:bG t b s w)(ho:w.ownsRow B e sz u n xs)(hg:w.grownBy w' u.ownBlock)(hB:b<B):bG t b s w':=by
 cases hu:u.ownBlock with
 | none=>
  rw[hu] at hg;exact h.later ⟨hg.os,hg.tape,hg.output,hg.size,fun k hk=>hg.block k hk si_⟩
 | some g=>
  have h1:=World.ownsRow.lt ho g hu;rw[hu] at hg;exact gY h om_ ⟨hg.os,hg.tape,hg.output,hg.size,fun k hk dR=>hg.block k hk (fun he=>dR (Option.some.inj he))⟩
theorem jw{B b e sz n:Nat}{u:Value}{xs:List Value}{a w w':World}(h:But B b a w)(ho:w.ownsRow B e sz u n xs)(hg:w.grownBy w' u.ownBlock)(hB:B<=w.heap.size):But B b a w':=by
 refine h.trans ⟨hg.os,hg.tape,hg.output,hg.size,fun k hk _=>hg.block k om_ ?_⟩;intro he;have:=World.ownsRow.lt ho k he.symm;omega
end ak
namespace ak
open Go.RowKit pen
end ak
namespace ak
open Go.RowKit pen
set_option maxRecDepth 20000 in
set_option maxHeartbeats 1600000 in
theorem iE(b:Nat)(s:Sight)(w:World)(h:bG 112 b s w):Calls prog 79 #[.pointer (some ⟨b,0,none⟩)] w (Saw 112 b ((jR s).1.val) (jR s).2 w):=by
 obtain⟨A,s1,hA⟩:∃A s1,au 255 s=(A,s1):=⟨_,_,rfl⟩;obtain⟨K,s2,hK⟩:∃K s2,au 4 s1=(K,s2):=⟨_,_,rfl⟩;have hK4:K<=4:=by have:=eP 4 s1;rw[show((4:Nat):Int)=4 from rfl,hK] at this;exact this
 have bI:=h.lt;have qR:Below w.heap.size w (w.alloc (.cells #[.int .i64 0,.int .i64 0,.int .i64 0,.int .i64 0,.int .i64 0] 47)):=(Below.refl _ _).alloc (Nat.le_refl _) _;have c1:=aS b s _ (h.later qR) 255 om_ om_;have HR0:=hid (Block.new w 47 [.int .i64 0,.int .i64 0,.int .i64 0,.int .i64 0,.int .i64 0]);have c2:=fun w' hE=>aS b s1 w' hE 4 om_ om_
 rw[hA] at c1;rw[hK] at c2;have HB0:=hid qR;have hT:jR s=(if K=1 then(⟨A,1,(eInt s2).1,(eInt (eInt s2).2).1,0⟩,(eInt (eInt s2).2).2) else if K=3\/K=4 then(⟨A,K,0,0,(au 1000 s2).1⟩,(au 1000 s2).2) else(⟨A,K,0,0,0⟩,s2)):=by
  unfold jR;rw[hA];simp only;rw[hK]
 rw[hT];clear hT hA hK h qR;simp only at c1 c2;by_cases h1:K=1
 ·subst h1;rw[if_pos rfl];simp only[field.Fd.val];have c3:=fun w' hE=>iC b s2 w' hE
  have c4:=fun w' hE=>iC b (eInt s2).2 w' hE
  generalize (eInt (eInt s2).2).1=hi at *;generalize (eInt (eInt s2).2).2=s4 at *;generalize (eInt s2).1=lo at *;generalize (eInt s2).2=s3 at *;unfold Saw at c1 c2 c3 c4 ⊢;have dR:w.heap.size≠b:=by omega
  go_enter func79,ntmps79;go_wp2_with (first
   | (go_at_call 52;((with_reducible refine c1.mono ?_);rintro e w1 ⟨rfl,hE1,hu1⟩;have HR1:=hid (bK HR0.o hu1 dR)))
   | (go_at_call 52;((with_reducible refine(c2 w1 hE1).mono ?_);rintro e w2 ⟨rfl,hE2,hu2⟩;have HR2:=hid (bK HR1.o hu2 dR);have qC:w2.heap.size≠b:=(by have:=hE2.lt;omega);have L8:w.heap.size≠w2.heap.size:=(by have:=HR2.o.lt;omega)))
   | (go_at_call 92;((with_reducible refine(c3 _ (hE2.later (field.aI _ _))).mono ?_);rintro e w3 ⟨rfl,rQ,hu3⟩;have HR3:=hid (bK (HR2.o.alloc _) hu3 dR);have HF3:=hid (bK (Block.new w2 47 [.int .i64 (A:Int),.int .i64 1,.int .i64 0,.int .i64 0,.int .i64 0]) hu3 qC)))
   | (go_at_call 92;((with_reducible refine(c4 w3 rQ).mono ?_);rintro e w4 ⟨rfl,KX,DZ⟩;have EG:=bK HR3.o DZ dR;have Ig:=bK HF3.o DZ qC;have x0:=EG.cell 0;have x1:=EG.cell 1;have x2:=EG.cell 2;have x3:=EG.cell 3;have x4:=EG.cell 4;have y0:=Ig.cell 0;have y1:=Ig.cell 1;have y2:=Ig.cell 2;have y3:=Ig.cell 3;have y4:=Ig.cell 4;have p0:=EG.frozen 0;have p1:=EG.frozen 1;have p2:=EG.frozen 2;have p3:=EG.frozen 3;have p4:=EG.frozen 4;have q2:=Ig.frozen 2;have q3:=Ig.frozen 3)))
  have pR:=((But.refl w4.heap.size w2.heap.size w4).setCell 2 (.int .i64 lo)).setCell 3 (.int .i64 hi);have Jh:=tq KX Ig (Ne.symm qC) (tH ⟨A,1,0,0,0⟩) pR;have nJ:=bK EG pR L8;have hs1:w.heap.size<=w1.heap.size:=Nat.le_trans HB0.o.size hu1.2.2.2.1;have hs2:w.heap.size<=w2.heap.size:=Nat.le_trans hs1 hu2.2.2.2.1;have hs3:w.heap.size<=w3.heap.size:=Nat.le_trans (Nat.le_trans hs2 (field.aI w2 _).size) hu3.2.2.2.1;have aQ:=((Below.but (g:=b) HB0.o).trans (hu1.mono HB0.o.size)).trans (hu2.mono hs1);have ku:=((aQ.trans (Below.but (g:=b) ((field.aI w2 (.cells #[.int .i64 (A:Int),.int .i64 1,.int .i64 0,.int .i64 0,.int .i64 0] 47)).mono hs2))).trans (hu3.mono (Nat.le_trans hs2 (field.aI w2 _).size))).trans (DZ.mono hs3);have jq:=di (di ku hs2 2 (.int .i64 lo)) hs2 3 (.int .i64 hi);obtain⟨k1,k2,k3⟩:=lN (w:=w) ⟨A,1,lo,hi,0⟩ Jh nJ dR (Nat.le_refl _) jq;exact bodyPost_ret (fU (b:=w.heap.size) (o:=0) rfl rfl k2.whole underlying47 rfl (lH _ _ _ _ _)) rfl ⟨rfl,k1,k3⟩
 ·rw[if_neg h1];by_cases h34:K=3\/K=4
  ·rw[if_pos h34];simp only[field.Fd.val];have c3:=fun w' hE=>aS b s2 w' hE 1000 om_ om_
   generalize (au 1000 s2).1=M at *;generalize (au 1000 s2).2=s3 at *;unfold Saw at c1 c2 c3 ⊢;have dR:w.heap.size≠b:=by omega
   clear h1;rcases h34 with rfl | rfl
   ·go_enter func79,ntmps79;go_wp2_with (first
     | (go_at_call 52;((with_reducible refine c1.mono ?_);rintro e w1 ⟨rfl,hE1,hu1⟩;have HR1:=hid (bK HR0.o hu1 dR)))
     | (go_at_call 52;((with_reducible refine(c2 w1 hE1).mono ?_);rintro e w2 ⟨rfl,hE2,hu2⟩;have HR2:=hid (bK HR1.o hu2 dR);have qC:w2.heap.size≠b:=(by have:=hE2.lt;omega);have L8:w.heap.size≠w2.heap.size:=(by have:=HR2.o.lt;omega)))
     | (go_at_call 52;((with_reducible refine(c3 _ (hE2.later (field.aI _ _))).mono ?_);rintro e w3 ⟨rfl,rQ,hu3⟩;have qi:=bK (HR2.o.alloc _) hu3 dR;have hF3:=bK (Block.new w2 47 [.int .i64 (A:Int),.int .i64 3,.int .i64 0,.int .i64 0,.int .i64 0]) hu3 qC;have x0:=qi.cell 0;have x1:=qi.cell 1;have x2:=qi.cell 2;have x3:=qi.cell 3;have x4:=qi.cell 4;have y0:=hF3.cell 0;have y1:=hF3.cell 1;have y2:=hF3.cell 2;have y3:=hF3.cell 3;have y4:=hF3.cell 4;have p0:=qi.frozen 0;have p1:=qi.frozen 1;have p2:=qi.frozen 2;have p3:=qi.frozen 3;have p4:=qi.frozen 4;have q4:=hF3.frozen 4)))
    have pR:=(But.refl w3.heap.size w2.heap.size w3).setCell 4 (.int .i64 (M:Int));have Jh:=tq rQ hF3 (Ne.symm qC) (tH ⟨A,3,0,0,0⟩) pR;have nJ:=bK qi pR L8;have hs1:w.heap.size<=w1.heap.size:=Nat.le_trans HB0.o.size hu1.2.2.2.1;have hs2:w.heap.size<=w2.heap.size:=Nat.le_trans hs1 hu2.2.2.2.1;have aQ:=((Below.but (g:=b) HB0.o).trans (hu1.mono HB0.o.size)).trans (hu2.mono hs1);have fD:=(aQ.trans (Below.but (g:=b) ((field.aI w2 (.cells #[.int .i64 (A:Int),.int .i64 3,.int .i64 0,.int .i64 0,.int .i64 0] 47)).mono hs2))).trans (hu3.mono (Nat.le_trans hs2 (field.aI w2 _).size));have jq:=di fD hs2 4 (.int .i64 (M:Int));obtain⟨k1,k2,k3⟩:=lN (w:=w) ⟨A,3,0,0,M⟩ Jh nJ dR (Nat.le_refl _) jq;exact bodyPost_ret (fU (b:=w.heap.size) (o:=0) rfl rfl k2.whole underlying47 rfl (lH _ _ _ _ _)) rfl ⟨rfl,k1,k3⟩
   ·go_enter func79,ntmps79;go_wp2_with (first
     | (go_at_call 52;((with_reducible refine c1.mono ?_);rintro e w1 ⟨rfl,hE1,hu1⟩;have HR1:=hid (bK HR0.o hu1 dR)))
     | (go_at_call 52;((with_reducible refine(c2 w1 hE1).mono ?_);rintro e w2 ⟨rfl,hE2,hu2⟩;have HR2:=hid (bK HR1.o hu2 dR);have qC:w2.heap.size≠b:=(by have:=hE2.lt;omega);have L8:w.heap.size≠w2.heap.size:=(by have:=HR2.o.lt;omega)))
     | (go_at_call 52;((with_reducible refine(c3 _ (hE2.later (field.aI _ _))).mono ?_);rintro e w3 ⟨rfl,rQ,hu3⟩;have qi:=bK (HR2.o.alloc _) hu3 dR;have hF3:=bK (Block.new w2 47 [.int .i64 (A:Int),.int .i64 4,.int .i64 0,.int .i64 0,.int .i64 0]) hu3 qC;have x0:=qi.cell 0;have x1:=qi.cell 1;have x2:=qi.cell 2;have x3:=qi.cell 3;have x4:=qi.cell 4;have y0:=hF3.cell 0;have y1:=hF3.cell 1;have y2:=hF3.cell 2;have y3:=hF3.cell 3;have y4:=hF3.cell 4;have p0:=qi.frozen 0;have p1:=qi.frozen 1;have p2:=qi.frozen 2;have p3:=qi.frozen 3;have p4:=qi.frozen 4;have q4:=hF3.frozen 4)))
    have pR:=(But.refl w3.heap.size w2.heap.size w3).setCell 4 (.int .i64 (M:Int));have Jh:=tq rQ hF3 (Ne.symm qC) (tH ⟨A,4,0,0,0⟩) pR;have nJ:=bK qi pR L8;have hs1:w.heap.size<=w1.heap.size:=Nat.le_trans HB0.o.size hu1.2.2.2.1;have hs2:w.heap.size<=w2.heap.size:=Nat.le_trans hs1 hu2.2.2.2.1;have aQ:=((Below.but (g:=b) HB0.o).trans (hu1.mono HB0.o.size)).trans (hu2.mono hs1);have fD:=(aQ.trans (Below.but (g:=b) ((field.aI w2 (.cells #[.int .i64 (A:Int),.int .i64 4,.int .i64 0,.int .i64 0,.int .i64 0] 47)).mono hs2))).trans (hu3.mono (Nat.le_trans hs2 (field.aI w2 _).size));have jq:=di fD hs2 4 (.int .i64 (M:Int));obtain⟨k1,k2,k3⟩:=lN (w:=w) ⟨A,4,0,0,M⟩ Jh nJ dR (Nat.le_refl _) jq;exact bodyPost_ret (fU (b:=w.heap.size) (o:=0) rfl rfl k2.whole underlying47 rfl (lH _ _ _ _ _)) rfl ⟨rfl,k1,k3⟩
  ·rw[if_neg h34];simp only[field.Fd.val];unfold Saw at c1 c2 ⊢;have dR:w.heap.size≠b:=by omega
   have d1:((K:Int) == 1)=false:=by rw[beq_eq_false_iff_ne];omega
   have d3:((K:Int) == 3)=false:=by rw[beq_eq_false_iff_ne];omega
   have d4:((K:Int) == 4)=false:=by rw[beq_eq_false_iff_ne];omega
   clear h1 h34;go_enter func79,ntmps79;go_wp2_with (first
    | (go_at_call 52;((with_reducible refine c1.mono ?_);rintro e w1 ⟨rfl,hE1,hu1⟩;have HR1:=hid (bK HR0.o hu1 dR)))
    | (go_at_call 52;((with_reducible refine(c2 w1 hE1).mono ?_);rintro e w2 ⟨rfl,hE2,hu2⟩;have hR2:=bK HR1.o hu2 dR;have qC:w2.heap.size≠b:=(by have:=hE2.lt;omega);have L8:w.heap.size≠w2.heap.size:=(by have:=hR2.lt;omega);have x0:=hR2.cell 0;have x1:=hR2.cell 1;have x2:=hR2.cell 2;have x3:=hR2.cell 3;have x4:=hR2.cell 4;have p0:=hR2.frozen 0;have p1:=hR2.frozen 1;have p2:=hR2.frozen 2;have p3:=hR2.frozen 3;have p4:=hR2.frozen 4;have X5:=hR2.lt)))
   have hs1:w.heap.size<=w1.heap.size:=Nat.le_trans HB0.o.size hu1.2.2.2.1;have hs2:w.heap.size<=w2.heap.size:=Nat.le_trans hs1 hu2.2.2.2.1;have aQ:=((Below.but (g:=b) HB0.o).trans (hu1.mono HB0.o.size)).trans (hu2.mono hs1);obtain⟨k1,k2,k3⟩:=lN (w:=w) ⟨A,K,0,0,0⟩ hE2 hR2 dR (Nat.le_refl _) aQ;have hN:=fun w'=>field.aI w' (.cells #[.int .i64 (A:Int),.int .i64 (K:Int),.int .i64 0,.int .i64 0,.int .i64 0] 47)
   exact bodyPost_ret (fU (b:=w.heap.size) (o:=0) rfl rfl (k2.alloc _).whole underlying47 rfl (lH _ _ _ _ _)) rfl ⟨rfl,k1.later (hN _),k3.trans (Below.but (g:=b) ((hN _).mono k3.2.2.2.1))⟩
end ak
end Go.Proofs.Ytogfefdlffmioaa
