/- Contracts and lemmas that claims of this seat share: StepRefZero, StepRefTable, RecordHas, TurnMoved. Each says its own conditions. -/
import Derived.Test.YtogkgbnpodojjaaGreatCmWord
import Derived.Deep.CutRange
import Derived.Maps.AppendAt
import Derived.Maps.Range
import Derived.Test.YtogkgbnpodojjaaGreatCmG
import Derived.Test.YtogkgbnpodojjaaGreatCmL
import Derived.Test.YtogkgbnpodojjaaGreatCmC
import Derived.Test.YtogkgbnpodojjaaGreatCmU
import Derived.Test.YtogkgbnpodojjaaGreatCmQ
import Derived.Test.YtogkgbnpodojjaaGreatCmZ
import Derived.Test.YtogkgbnpodojjaaGreatCmV
import Derived.Test.YtogkgbnpodojjaaGreatCmS
set_option linter.unusedVariables false
namespace Go.Proofs.YtogkgbnpodojjaaGreat
open Go.Proofs.Tryz
namespace step
open Go.RowKit
open field (Gives ak aj)
open schema (aP dM ax bI aB dI)
end step
namespace step
open Go.RowKit
open field (Gives ak aj)
open schema (aH aP)
end step
namespace record
open Go.RowKit
open field (Va Gives ak aj WV gZ)
open schema (aP eP Fine Bv gQ)
theorem uM {L:List field.Fd} {V:List Va} {k:Nat} {f:field.Fd} {v:Va} (hf:L[k]?=some f) (hv:V[k]?=some v) (h:¬f.Has v):¬aY L V:=fun h'=>h (h'.at hf hv)
theorem zU {L:List field.Fd} {V:List Va} (hl:L.length=V.length) (h:aY (L.take L.length) (V.take L.length)):aY L V:=by
 rwa [List.take_of_length_le (Nat.le_refl _),List.take_of_length_le om_] at h
theorem qL (a:Option Addr) (ca:Nat) (L:List field.Fd) (b:Option Addr) (cb:Nat) (V:List Va) (w:World) (h:field.Fds w a L) (h':field.Vas w b V) (hL:L.length<=maxLen) (hV:V.length<=maxLen):
  Calls prog 183 #[.slice a L.length ca,.slice b V.length cb,.func (.func 170) #[] #[]] w (Gives (.bool (decide (aY L V))) w):=by
 have hml:(L.length:Int)<=9223372036854775807:=by unfold maxLen at hL;omega
 have hmm:(V.length:Int)<=9223372036854775807:=by unfold maxLen at hV;omega
 have HF:=hid h;have HG:=hid h';obtain ⟨r,hr⟩:∃r:Bool,Hid (decide (aY L V)=r):=⟨_,rfl⟩;rw [hr.o];unfold Gives;clear h h' hL hV;by_cases hlen:L.length=V.length
 ·have HLEN:=hid hlen;rw [<-hlen];clear hlen hmm;go_enter func183,ntmps183;go_wp2;go_loopw [17] (fun n wr=>∃k:Nat,k<=L.length/\n=.int .i64 (k:Int)/\Hid (aY (L.take k) (V.take k))/\Hid (Below w.heap.size w wr)) (fun n _=>L.length - (intOf n).toNat);case atStart=>exact ⟨0,Nat.zero_le _,rfl,hid (by simp [aY]),hid (Below.refl _ _)⟩
  case round=>
   obtain ⟨k,hk,rfl,HEQ,HB⟩:=hrel;by_cases hlt:k<L.length
   ·obtain ⟨g,off,p,rfl,hbl,hp,c0,c1,c2,c3,c4⟩:=eP HF.o HB.o hlt;obtain ⟨g',off',q,rfl,hbl',hq,d0,d1⟩:=Ih HG.o HB.o (k:=k) (by rw [<-HLEN.o];exact hlt);have i1:(k:Int)<L.length:=by omega
    have HS:=hid (qQ hp hq);have HNE:=hid (fun hpq=>uM hp hq hpq);have cS:=gZ p q (WV p q wr);have HX:=hid (WV.all p q wr);unfold WV at cS HX;clear hp hq;by_cases hpq:p.Has q
    ·rw [decide_eq_true hpq] at cS;have HPQ:=hid hpq;clear hpq;go_wp2_with (go_at_call 170;((with_reducible refine cS.mono ?_);rintro e w2 ⟨rfl,hb2⟩;obtain ⟨z0,z1,hbo⟩:=HX.o _ hb2));exact ⟨⟨k+1,by omega,by go_num,hid (HS.o.2 ⟨HEQ.o,HPQ.o⟩),hid (HB.o.trans (hbo.mono HB.o.size))⟩,by simp [intOf];omega⟩
    ·rw [decide_eq_false hpq] at cS;obtain rfl:false=r:=by rw [<-hr.o];exact (decide_eq_false (HNE.o hpq)).symm
     clear hpq;go_wp2_with (go_at_call 170;((with_reducible refine cS.mono ?_);rintro e w2 ⟨rfl,hb2⟩;obtain ⟨z0,z1,hbo⟩:=HX.o _ hb2));go_ret;exact ⟨rfl,HB.o.trans (hbo.mono HB.o.size)⟩
   ·obtain rfl:k=L.length:=by omega
    obtain rfl:true=r:=by rw [<-hr.o];exact (decide_eq_true (zU HLEN.o HEQ.o)).symm
    go_wp2;go_ret;exact ⟨rfl,HB.o⟩
 ·obtain rfl:false=r:=by rw [<-hr.o];exact (decide_eq_false (fun e=>hlen e.length)).symm
  have hd:((L.length:Int) == (V.length:Int))=false:=by rw [beq_eq_false_iff_ne];omega
  clear hlen;go_enter func183,ntmps183
  exact t28
def WF (i:Int) (a:Option Addr) (L:List field.Fd) (c:Nat) (j:Int) (b:Option Addr) (V:List Va) (d:Nat) (w:World):World:=(w.alloc (.cells (zS i a L.length c) 49)).alloc (.cells (zS j b V.length d) 66)
theorem WF.all (i:Int) (a:Option Addr) (L:List field.Fd) (c:Nat) (j:Int) (b:Option Addr) (V:List Va) (d:Nat) (w w':World) (hb:Below (WF i a L c j b V d w).heap.size (WF i a L c j b V d w) w'):
  w'.cell? ⟨w.heap.size,0,none⟩=some (.int .i64 i)/\w'.cell? ⟨w.heap.size,1,none⟩=some (.slice a L.length c)/\w'.cell? ⟨w.heap.size+1,0,none⟩=some (.int .i64 j)/\w'.cell? ⟨w.heap.size+1,1,none⟩=some (.slice b V.length d)/\Below w.heap.size w w':=by
 obtain ⟨h1,h2,h3⟩:=Bv i a L c w w' (aP hb);obtain ⟨h4,h5,_⟩:=JJ j b V d (w.alloc (.cells (zS i a L.length c) 49)) w' hb;exact ⟨h1,h2,by simpa using h4,by simpa using h5,h3⟩
theorem ug (i:Int) (a:Option Addr) (c:Nat) (L:List field.Fd) (j:Int) (b:Option Addr) (d:Nat) (V:List Va) (w:World) (h:field.Fds w a L) (h':field.Vas w b V) (hL:L.length<=maxLen) (hV:V.length<=maxLen):
  Calls prog 128 #[zS i a L.length c,zS j b V.length d,.func (.func 170) #[] #[]] w (Gives (.bool (decide (j=i/\aY L V))) w):=by
 have HX:=hid (WF.all i a L c j b V d w);have hw:=(WF.all i a L c j b V d w _ (Below.refl _ _)).2.2.2.2;have cE:=qL a c L b d V (WF i a L c j b V d w) (h.below hw) (h'.below hw) hL hV;have HW:=hid hw;clear h h' hL hV hw;unfold Gives;by_cases hij:j=i
 ·subst hij;rw [show decide (j=j/\aY L V)=decide (aY L V) by simp];generalize decide (aY L V)=r at *;unfold WF at HX cE HW;go_enter func128,ntmps128;go_wp2_with (go_at_call 183;((with_reducible refine cE.mono ?_);rintro e w2 ⟨rfl,hb2⟩;obtain ⟨z0,z1,z2,z3,hbo⟩:=HX.o _ hb2));go_ret;exact ⟨rfl,hbo⟩
 ·have hd:(j == i)=false:=by rw [beq_eq_false_iff_ne];exact hij
  rw [show decide (j=i/\aY L V)=false from decide_eq_false (fun e=>hij e.1)];clear hij cE;unfold WF at HX HW;go_enter func128,ntmps128;go_wp2;go_ret;exact ⟨rfl,HW.o⟩
theorem zX (i:Int) (a:Option Addr) (c:Nat) (L:List field.Fd) (j:Int) (b:Option Addr) (d:Nat) (V:List Va) (w:World) (h:field.Fds w a L) (h':field.Vas w b V) (hL:L.length<=maxLen) (hV:V.length<=maxLen):
  Calls prog 158 #[zS i a L.length c,zS j b V.length d] w (Gives (.bool (decide (Has i L j V))) w):=by
 have HX:=hid (WF.all i a L c j b V d w);have hw:=(WF.all i a L c j b V d w _ (Below.refl _ _)).2.2.2.2;have cF:=gQ i a c L (WF i a L c j b V d w) (h.below hw) hL;have cB:=fun w' (hb:Below (WF i a L c j b V d w).heap.size (WF i a L c j b V d w) w')=>ug i a c L j b d V w' ((h.below hw).below hb) ((h'.below hw).below hb) hL hV
 have HW:=hid hw;clear h h' hL hV hw;unfold Gives at cF cB ⊢;by_cases hf:Fine (i,L)
 ·rw [decide_eq_true hf] at cF;rw [show decide (Has i L j V)=decide (j=i/\aY L V) from decide_eq_decide.2 ⟨fun k=>k.2,fun k=>⟨hf,k⟩⟩];generalize decide (j=i/\aY L V)=r at *;clear hf;unfold WF at HX cF cB HW;go_enter func158,ntmps158;go_wp2_with (first
   | (go_at_call 90;((with_reducible refine cF.mono ?_);rintro e w2 ⟨rfl,hb2⟩;obtain ⟨z0,z1,z2,z3,hbo⟩:=HX.o _ hb2))
   | (go_at_call 128;((with_reducible refine (cB _ hb2).mono ?_);rintro e w3 ⟨rfl,hb3⟩)))
  go_ret;exact ⟨rfl,hbo.trans (hb3.mono hbo.size)⟩
 ·rw [decide_eq_false hf] at cF;rw [show decide (Has i L j V)=false from decide_eq_false (fun e=>hf e.1)];clear hf cB;unfold WF at HX cF HW;go_enter func158,ntmps158;go_wp2_with (go_at_call 90;((with_reducible refine cF.mono ?_);rintro e w2 ⟨rfl,hb2⟩;obtain ⟨z0,z1,z2,z3,hbo⟩:=HX.o _ hb2));go_ret;exact ⟨rfl,hbo⟩
end record
namespace turn
open Go Go.RowKit schema
open record (vaC vaV)
open field (Va ak)
open step (va0)
set_option maxRecDepth 20000 in
set_option maxHeartbeats 1600000 in
theorem xI {B:Nat} {w:World} {u:Value} {V:List Va} (h:Own B w u V) (hB:B<=w.heap.size) {k i:Nat} (hk:k<V.length) (hi:i<V.length) (hn:V.length<=1000):
  Calls prog 162 #[u,.int .i64 (k:Int),.int .i64 (i:Int)] w (Turns B u (iQ (cutV V k) i (V.getD k va0)) w):=by
 obtain ⟨g,cap,rfl,hb,hg,hn',hc,hr,hth,hset⟩:=h.get hk;obtain ⟨y,hy⟩:∃y,V.getD k va0=y:=⟨_,rfl⟩;rw [hy] at hr ⊢;have c0:w.cell? ⟨g,k*2,none⟩=some (.int .i64 y.n):=hr 0 _ rfl;have c1:w.cell? ⟨g,k*2+1,none⟩=some (.string y.s):=hr 1 _ rfl;have i1:(k:Int)<V.length:=by omega
 have HO:Hid (Own B (w.alloc (.cells (zV y) 54)) (.slice (some ⟨g,0,none⟩) V.length cap) V):=hid (h.later (ak w _));have HBX:Hid (Block (w.alloc (.cells (zV y) 54)) w.heap.size 54 (vaC y)):=hid (Block.new w _ _);have HGB:Hid (w.grownBy (w.alloc (.cells (zV y) 54)) (some g)):=hid (rows.dw (ak w _));have HNE:Hid (g≠w.heap.size):=hid om_;have HZ:Hid (B<=(w.alloc (.cells (zV y) 54)).heap.size):=hid (Nat.le_trans hB (ak w _).size);have HK:=hid hk;have HI:=hid hi;have HN:=hid hn;have hcl:=kD hk;have HCL:=hid hcl;clear h hB hr hth hset hy hb hg hn' hc hcl hi hn;go_enter func162,ntmps162;go_wp2;obtain ⟨W0,hW0⟩:∃x,Hid ((w.alloc (.cells (zV y) 54))=x):=⟨_,hid rfl⟩;rw [hW0.o] at HO HBX HGB HZ;try rw [hW0.o]
 have hob:(Value.slice (some ⟨g,0,none⟩) V.length cap).ownBlock=some g:=rfl;have hS:Block W0.drew w.heap.size 54 (vaC y):=HBX.o.drewN 1;have HOd:Own B W0.drew (.slice (some ⟨g,0,none⟩) V.length cap) V:=HO.o.later (aJ (Below.refl _ _));have hZd:B<=W0.drew.heap.size:=HZ.o;refine plan.bU (S:=fun w'=>Block w' w.heap.size 54 (vaC y)) ?_;refine plan.af 0 _ (.slice (some ⟨g,0,none⟩) V.length cap) rfl (fun w' hS'=>kr_) hS ?_;refine plan.af 1 _ (.int .i64 (k:Int)) rfl (fun w' hS'=>kr_) hS ?_;refine plan.af 2 _ (.int .i64 (k:Int)) rfl (fun w' hS'=>kr_) hS ?_;refine plan.af 3 _ (.int .i64 ((k:Int)+1)) rfl (fun w' hS'=>typing.mW rfl om_ (by have:=HK.o;have:=HN.o;omega)) hS ?_;refine plan.af 5 _ (.int .i64 (i:Int)) rfl (fun w' hS'=>kr_) hS ?_;refine plan.af 6 _ (zV y) rfl (fun w' hS'=>plan.jb (cs:=vaC y) (b:=w.heap.size) rfl hS'.whole underlying54 rfl iE.o) hS ?_;refine typing.uj 4 7 ?_ ?_
 ·refine ⟨_,rfl,rfl,.inr ⟨161,#[.slice (some ⟨g,0,none⟩) V.length cap,.int .i64 (k:Int),.int .i64 ((k:Int)+1)],by kernel_rfl,(nP HOd HK.o HN.o).mono ?_⟩⟩;rintro e w3 ⟨v3,rfl,ho3,hg3,hob3⟩;rw [hob] at hg3 hob3;have hS3:Block w3 w.heap.size 54 (vaC y):=(hg3.block _ hS.lt (by have:=HNE.o;intro e;cases e;exact this rfl)).trans hS;refine ⟨v3,rfl,hS3, ?_⟩;have hSi:=hS3.alloc (.cells (zV y) 54);refine plan.dZ (w1:=w3.alloc (.cells (zV y) 54)) 7 _ (.slice (some ⟨w3.heap.size,0,none⟩) 1 1) rfl rfl hSi ?_;have cI:=qi (i:=i) (g:=w3.heap.size) (ho3.later (ak w3 (.cells (zV y) 54))) (Nat.le_trans (Nat.le_trans hZd hg3.size) (ak w3 (.cells (zV y) 54)).size) y (by have:=HCL.o;have:=HI.o;omega) (Block.new w3 54 (vaC y)) (fun e=>by have:=(ho3.at' e).2;omega) (by have:=HCL.o;have:=HN.o;omega);refine plan.dY 8 _ 160 #[v3,.int .i64 (i:Int),.slice (some ⟨w3.heap.size,0,none⟩) 1 1] rfl (cI.mono ?_);rintro e w4 ⟨v4,rfl,ho4,hg4⟩;rw [hob3] at hg4;have hS4:Block w4 w.heap.size 54 (vaC y):=(hg4.block _ hSi.lt (by have:=HNE.o;intro e;cases e;exact this rfl)).trans hSi;refine ⟨v4,rfl,hS4, ?_⟩;refine plan.dZ (w1:=w4) 9 _ v4 rfl rfl hS4 ?_;refine plan.gI ?_;have HFIN:Hid (Turns B (.slice (some ⟨g,0,none⟩) V.length cap) (iQ (cutV V k) i y) w (.returned v4) w4):=hid ⟨v4,rfl,ho4,HGB.o.trans (World.grownBy.trans (rows.dw (aJ (Below.refl _ _))) (hg3.trans (World.grownBy.trans (rows.dw (ak w3 _)) hg4)))⟩;clear ho4 hg4 hS4 hS hS3 hSi hg3 ho3;walk_nrm;go_wp2;go_ret;exact HFIN.o
 ·have hS3:=hS.alloc (.cells (zV y) 54);refine ⟨_,rfl,rfl,.inl ⟨.slice (some ⟨W0.drew.heap.size,0,none⟩) 1 1,W0.drew.alloc (.cells (zV y) 54),by kernel_rfl,hS3, ?_⟩⟩;have hgl:g<W0.drew.heap.size:=(HO.o.at' rfl).2;refine plan.dY 4 _ 161 #[.slice (some ⟨g,0,none⟩) V.length cap,.int .i64 (k:Int),.int .i64 ((k:Int)+1)] rfl ((nP (HOd.later (ak W0.drew (.cells (zV y) 54))) HK.o HN.o).mono ?_);rintro e w3 ⟨v3,rfl,ho3,hg3,hob3⟩;rw [hob] at hg3 hob3;have hSi:Block w3 w.heap.size 54 (vaC y):=(hg3.block _ hS3.lt (by have:=HNE.o;intro e;cases e;exact this rfl)).trans hS3;have hG:Block w3 W0.drew.heap.size 54 (vaC y):=(hg3.block _ si_ (by intro e;cases e;exact Nat.lt_irrefl _ hgl)).trans (Block.new W0.drew _ _);refine ⟨v3,rfl,hSi, ?_⟩;have cI:=qi (i:=i) (g:=W0.drew.heap.size) ho3 (Nat.le_trans (Nat.le_trans hZd (ak W0.drew (.cells (zV y) 54)).size) hg3.size) y (by have:=HCL.o;have:=HI.o;omega) hG (fun e=>by rw [hob3] at e;cases e;exact Nat.lt_irrefl _ hgl) (by have:=HCL.o;have:=HN.o;omega);refine plan.dY 8 _ 160 #[v3,.int .i64 (i:Int),.slice (some ⟨W0.drew.heap.size,0,none⟩) 1 1] rfl (cI.mono ?_);rintro e w4 ⟨v4,rfl,ho4,hg4⟩;rw [hob3] at hg4;have hS4:Block w4 w.heap.size 54 (vaC y):=(hg4.block _ hSi.lt (by have:=HNE.o;intro e;cases e;exact this rfl)).trans hSi;refine ⟨v4,rfl,hS4, ?_⟩;refine plan.dZ (w1:=w4) 9 _ v4 rfl rfl hS4 ?_;refine plan.gI ?_;have HFIN:Hid (Turns B (.slice (some ⟨g,0,none⟩) V.length cap) (iQ (cutV V k) i y) w (.returned v4) w4):=hid ⟨v4,rfl,ho4,HGB.o.trans (World.grownBy.trans (rows.dw (aJ (Below.refl _ _))) (World.grownBy.trans (rows.dw (ak W0.drew _)) (hg3.trans hg4)))⟩;clear ho4 hg4 hS4 hS hS3 hSi hg3 ho3 hG;walk_nrm;go_wp2;go_ret;exact HFIN.o
end turn
end Go.Proofs.YtogkgbnpodojjaaGreat
