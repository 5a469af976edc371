/- Contracts and lemmas that claims of this seat share: TypingForward. Each says its own conditions. -/
import Derived.Test.YtogkgbnpodojjaaGreatCmWord
import Derived.Test.YtogkgbnpodojjaaGreatCmJ
import Derived.Test.YtogkgbnpodojjaaGreatCmX
import Derived.Test.YtogkgbnpodojjaaGreatCmAA
set_option linter.unusedVariables false
namespace Go.Proofs.YtogkgbnpodojjaaGreat
open Go.Proofs.Tryz
theorem t34{P:Prop}(h:P:=by
 have h1:=ak w (.cells (zS v a F.length cc) 24);have h2:=h1.alloc h1.size (.cells (zP c.s ta tc la lc) 57);exact h2.alloc h2.size _):P:=h
theorem t30{P:Prop}(h:P:=by
 have:=(Block.new ((w.alloc (.cells (zS v a F.length cc) 24))) 57 (zP c.s ta tc la lc)).alloc (.cells #[.int .i64 0,.slice none 0 0] 24);simpa using this):P:=h
theorem t19{P:Prop}(h:P:=by
 refine bodyPost_ret (ay (b:=w.heap.size+1+1) (o:=0) rfl rfl hB.whole underlying24 rfl (fV _ _)) rfl ?_;exact ⟨none,0,[],rfl,⟨.inl rfl,by simp⟩,rfl,sS _,below_setCells (below_setCells KB.o om_ 0 [_]) om_ 1 [_]⟩):P:=h
namespace typing
open Go.RowKit schema
open field (Gives ak aj)
open step (Lists ou)
theorem AZ (n lo hi:Int) (w:World):Calls prog 139 #[.int .i64 n,.int .i64 lo,.int .i64 hi] w (Gives (.bool (decide (lo<=n/\n<=hi))) w):=by
 obtain ⟨v,hv⟩:∃v:Bool,Hid (decide (lo<=n/\n<=hi)=v):=⟨_,rfl⟩;rw [hv.o];unfold Gives;by_cases h1:lo<=n
 ·by_cases h2:n<=hi
  ·obtain rfl:true=v:=by rw [<-hv.o];simp [h1,h2]
   go_enter func139,ntmps139
   exact t28
  ·obtain rfl:false=v:=by rw [<-hv.o];simp [h1,h2]
   have hd:decide (n<=hi)=false:=decide_eq_false h2;go_enter func139,ntmps139
   exact t28
 ·obtain rfl:false=v:=by rw [<-hv.o];simp [h1]
  have hd:decide (lo<=n)=false:=decide_eq_false h1;go_enter func139,ntmps139
  exact t28
set_option maxRecDepth 20000 in
theorem kJ (s:step.Sp) (ta:Option Addr) (tc:Nat) (la:Option Addr) (lc:Nat) (w:World) (hl:Lists w s ta la):Calls prog 91 #[zP s ta tc la lc] w (Gives (.bool (decide ((1<=s.op/\s.op<=10)/\s.Right))) w):=by
 have HX:=hid (ou s ta tc la lc w);have hN:=ak w (.cells (zP s ta tc la lc) 57);have cW:=AZ s.op 1 10 ((w.alloc (.cells (zP s ta tc la lc) 57)));have cR:=fun (w':World) (hb:Below ((w.alloc (.cells (zP s ta tc la lc) 57))).heap.size ((w.alloc (.cells (zP s ta tc la lc) 57))) w')=>step.aX s ta tc la lc w' ((hl.below hN).below hb)
 obtain ⟨r,hr⟩:∃r:Bool,Hid (decide ((1<=s.op/\s.op<=10)/\s.Right)=r):=⟨_,rfl⟩;rw [hr.o];unfold Gives at cW cR ⊢;clear hN hl;by_cases hw:1<=s.op/\s.op<=10
 ·rw [decide_eq_true hw] at cW;have HR:Hid (decide s.Right=r):=hid (by rw [<-hr.o];simp [hw]);rw [HR.o] at cR;clear hw;go_enter func91,ntmps91;go_wp2_with (first
   | (go_at_call 139;((with_reducible refine cW.mono ?_);rintro e w1 ⟨rfl,hb1⟩;obtain ⟨⟨z0,z1,z2,z3,z4,z5,z6,z7,z8,z9,z10,z11,z12,z13,z14,z15⟩,hbo⟩:=HX.o _ hb1))
   | (go_at_call 140;((with_reducible refine (cR _ hb1).mono ?_);rintro e w2 ⟨rfl,hb2⟩)))
  go_ret;exact ⟨rfl,hbo.trans (hb2.mono hbo.size)⟩
 ·rw [decide_eq_false hw] at cW;obtain rfl:false=r:=by rw [<-hr.o];simp [hw]
  clear hw;go_enter func91,ntmps91;go_wp2_with (go_at_call 139;((with_reducible refine cW.mono ?_);rintro e w1 ⟨rfl,hb1⟩;have hbo:=(HX.o _ hb1).2));go_ret;exact ⟨rfl,hbo⟩
def Far (n:Nat) (x:Option Addr) (G:List Fm):Prop:=(∀y,x=some y->n<=y.block)/\∀p∈G,∀y,p.f=some y->n<=y.block
theorem Dc {w:World} {B n m sz c:Nat} {e:TypeId} {x:Option Addr} {xs:List Value} (h:w.ownsRow B e sz (.slice x n c) m xs):∀y,x=some y->B<=y.block:=by
 intro y hy;subst hy;rcases h.2 with ⟨hv,_⟩ | ⟨g,cap,cur,hv,hb,_⟩
 ·cases hv
 ·cases hv;exact hb
theorem sS (n:Nat):Far n none []:=⟨fun y hy=>(by cases hy),fun p hp=>(by cases hp)⟩
def lH (r:Int×List schema.Form×Nat) (w:World) (e:Ending) (w':World):Prop:=
 ∃x xc G,e=.returned (.tuple #[zS r.1 x (List.length (α:=Fm) G) xc,.int .i64 (r.2.2:Nat)])/\FmL w' x G/\forms G=r.2.1/\Far w.heap.size x G/\Below w.heap.size w w'
theorem sU (v:Int) (F:List schema.Form) (s:step.Sp):Fit v F s↔Right v F/\(1<=s.op/\s.op<=10)/\s.Right:=by
 unfold Fit;constructor
 ·rintro ⟨h1,h2,h3⟩;exact ⟨h1,⟨(step.Ak h2.2.1).1,h3⟩,h2⟩
 ·rintro ⟨h1,h2,h3⟩;exact ⟨h1,h3,h2.2⟩
set_option maxRecDepth 20000 in
set_option maxHeartbeats 3200000 in
theorem Lh (v:Int) (a:Option Addr) (cc:Nat) (F:List Fm) (c:Ch) (hc:c=aC (forms F) c.s) (ta:Option Addr) (tc:Nat) (la:Option Addr) (lc:Nat) (w:World) (h:FmL w a F) (hF:Small w F) (hl:Lists w c.s ta la) (hL:c.s.l.length<=40) (hf:¬Fit v (forms F) c.s):
  Calls prog 49 #[zS v a F.length cc,zP c.s ta tc la lc] w (lH (0,[],2) w):=by
 have hbw:Below w.heap.size w ((((w.alloc (.cells (zS v a F.length cc) 24))).alloc (.cells (zP c.s ta tc la lc) 57)).alloc (.cells #[.int .i64 0,.slice none 0 0] 24)):=by
  exact t34
 have HX:Hid (∀w',Below (((((w.alloc (.cells (zS v a F.length cc) 24))).alloc (.cells (zP c.s ta tc la lc) 57)).alloc (.cells #[.int .i64 0,.slice none 0 0] 24))).heap.size ((((w.alloc (.cells (zS v a F.length cc) 24))).alloc (.cells (zP c.s ta tc la lc) 57)).alloc (.cells #[.int .i64 0,.slice none 0 0] 24)) w'->Block w' w.heap.size 24 (zS v a F.length cc)/\Block w' (w.heap.size+1) 57 (zP c.s ta tc la lc)/\Block w' (w.heap.size+1+1) 24 [.int .i64 0,.slice none 0 0]/\Below w.heap.size w w'):=hid (fun w' hb=>by
  refine ⟨(((Block.new w _ _).alloc _).alloc _).later hb,Block.later (w:=((((w.alloc (.cells (zS v a F.length cc) 24))).alloc (.cells (zP c.s ta tc la lc) 57)).alloc (.cells #[.int .i64 0,.slice none 0 0] 24))) ?_ hb,Block.later (w:=((((w.alloc (.cells (zS v a F.length cc) 24))).alloc (.cells (zP c.s ta tc la lc) 57)).alloc (.cells #[.int .i64 0,.slice none 0 0] 24))) ?_ hb,hbw.trans (hb.mono (by simp;omega))⟩
  ·exact t30
  ·have:=Block.new (((w.alloc (.cells (zS v a F.length cc) 24))).alloc (.cells (zP c.s ta tc la lc) 57)) 24 [.int .i64 0,.slice none 0 0];simpa using this)
 have hmx:F.length<=maxLen:=by have:=hF.1;unfold maxLen;omega
 have cR:=aX v a cc F ((((w.alloc (.cells (zS v a F.length cc) 24))).alloc (.cells (zP c.s ta tc la lc) 57)).alloc (.cells #[.int .i64 0,.slice none 0 0] 24)) (h.below hbw) hmx;unfold Gives at cR;have n1:w.heap.size≠w.heap.size+1+1:=by omega
 have n2:w.heap.size+1≠w.heap.size+1+1:=by omega
 have cF:=fun (w':World) (hb:Below (((((w.alloc (.cells (zS v a F.length cc) 24))).alloc (.cells (zP c.s ta tc la lc) 57)).alloc (.cells #[.int .i64 0,.slice none 0 0] 24))).heap.size ((((w.alloc (.cells (zS v a F.length cc) 24))).alloc (.cells (zP c.s ta tc la lc) 57)).alloc (.cells #[.int .i64 0,.slice none 0 0] 24)) w')=>kJ c.s ta tc la lc w' ((hl.below hbw).below hb)
 unfold Gives at cF;rw [sU] at hf;unfold lH;clear h hF hl hL hmx hbw hc;by_cases hr:Right v (forms F)
 ·rw [decide_eq_true hr] at cR;rw [decide_eq_false (show ¬((1<=c.s.op/\c.s.op<=10)/\c.s.Right) from fun e=>hf ⟨hr,e⟩)] at cF;clear hf hr;go_enter func49,ntmps49;go_wp2_with (first
   | (go_at_call 48;((with_reducible refine cR.mono ?_);rintro e w1 ⟨rfl,hb1⟩;obtain ⟨k0,k1,k2,kb⟩:=HX.o _ hb1;have z0:=k0.cell 0;have z1:=k0.cell 1;have y0:=k1.cell 0;have y1:=k1.cell 1;have y2:=k1.cell 2;have y3:=k1.cell 3;have y4:=k1.cell 4;have y5:=k1.cell 5;have y6:=k1.cell 6;have y7:=k1.cell 7;have y8:=k1.cell 8;have y9:=k1.cell 9;have y10:=k1.cell 10;have y11:=k1.cell 11;have y12:=k1.cell 12;have y13:=k1.cell 13;have y14:=k1.cell 14;have y15:=k1.cell 15;have x0:=k2.cell 0;have x1:=k2.cell 1;have f0:=k2.frozen 0;have f1:=k2.frozen 1;have K2:=hid k2;have KB:=hid kb;clear k0 k1 k2 kb))
   | (go_at_call 91;((with_reducible refine (cF _ hb1).mono ?_);rintro e w2 ⟨rfl,hb2⟩;have hb1:=hb1.trans (hb2.mono hb1.size);obtain ⟨k0,k1,k2,kb⟩:=HX.o _ hb1;have z0:=k0.cell 0;have z1:=k0.cell 1;have y0:=k1.cell 0;have y1:=k1.cell 1;have y2:=k1.cell 2;have y3:=k1.cell 3;have y4:=k1.cell 4;have y5:=k1.cell 5;have y6:=k1.cell 6;have y7:=k1.cell 7;have y8:=k1.cell 8;have y9:=k1.cell 9;have y10:=k1.cell 10;have y11:=k1.cell 11;have y12:=k1.cell 12;have y13:=k1.cell 13;have y14:=k1.cell 14;have y15:=k1.cell 15;have x0:=k2.cell 0;have x1:=k2.cell 1;have f0:=k2.frozen 0;have f1:=k2.frozen 1;have K2:=hid k2;have KB:=hid kb;clear k0 k1 k2 kb)))
  have hB:=(K2.o.setCell 0 (.int .i64 0)).setCell 1 (.slice none 0 0)
  exact t19
 ·rw [decide_eq_false hr] at cR;clear hf hr cF;go_enter func49,ntmps49;go_wp2_with (go_at_call 48;((with_reducible refine cR.mono ?_);rintro e w1 ⟨rfl,hb1⟩;obtain ⟨k0,k1,k2,kb⟩:=HX.o _ hb1;have z0:=k0.cell 0;have z1:=k0.cell 1;have y0:=k1.cell 0;have y1:=k1.cell 1;have y2:=k1.cell 2;have y3:=k1.cell 3;have y4:=k1.cell 4;have y5:=k1.cell 5;have y6:=k1.cell 6;have y7:=k1.cell 7;have y8:=k1.cell 8;have y9:=k1.cell 9;have y10:=k1.cell 10;have y11:=k1.cell 11;have y12:=k1.cell 12;have y13:=k1.cell 13;have y14:=k1.cell 14;have y15:=k1.cell 15;have x0:=k2.cell 0;have x1:=k2.cell 1;have f0:=k2.frozen 0;have f1:=k2.frozen 1;have K2:=hid k2;have KB:=hid kb;clear k0 k1 k2 kb));have hB:=(K2.o.setCell 0 (.int .i64 0)).setCell 1 (.slice none 0 0)
  exact t19
end typing
end Go.Proofs.YtogkgbnpodojjaaGreat
