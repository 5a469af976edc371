/- Contracts and lemmas that claims of this seat share: TypingAsk. Each says its own conditions. -/
import Derived.Test.YtogkgbnpodojjaaGreatCmWord
import Derived.Deep.MidRow
import Derived.Handy
import Derived.BigQuiet
import Derived.Deep.QuietTactic
import Derived.Laws.Small
import Derived.Test.YtogkgbnpodojjaaGreatCmF
import Derived.Test.YtogkgbnpodojjaaGreatCmJ
import Derived.Test.YtogkgbnpodojjaaGreatCmL
import Derived.Test.YtogkgbnpodojjaaGreatCmM
set_option linter.unusedVariables false
namespace Go.Proofs.YtogkgbnpodojjaaGreat
open Go.Proofs.Tryz
theorem t134{P:Prop}(h:P:=by
 have dk:=bf hk;obtain rfl:false=r:=by rw [<-hr.o,HSP.o];simp [*]
 clear hk
 exact t38):P:=h
theorem t133{P:Prop}(h:P:=by
 have dm:=bt hm;obtain rfl:true=r:=by rw [<-hr.o,HSP.o];simp [*]
 clear hk hm
 exact t38):P:=h
theorem t132{P:Prop}(h:P:=by
 have dm:=bf hm;obtain rfl:false=r:=by rw [<-hr.o,HSP.o];simp [*]
 clear hk hm
 exact t38):P:=h
theorem t128{P:Prop}(h:P:=by
 have cH:=aj (ul c ta tc la lc fa fc ((w.alloc (.cells (zH c ta tc la lc fa fc) 147))) (c.s.tt) (h.below HN.o) hL) HN.o
 exact t11):P:=h
theorem t111{P:Prop}(h:P:=by
 go_enter func143,ntmps143;go_wp2;go_ret;exact ⟨rfl,HN.o⟩):P:=h
theorem t82{P:Prop}(h:P:=by
 go_enter func144,ntmps144;go_wp2;go_ret;exact ⟨rfl,HN.o⟩):P:=h
theorem t73{P:Prop}(h:P:=by
 go_enter func191,ntmps191;go_wp2_with (go_at_call 141;((with_reducible refine cA.mono ?_);rintro e w1 ⟨rfl,hb1⟩));go_ret;exact ⟨rfl,hb1⟩):P:=h
theorem t65{P:Prop}(h:P:=by
 go_enter func142,ntmps142;go_wp2;go_ret;exact ⟨rfl,HN.o⟩):P:=h
theorem t38{P:Prop}(h:P:=by
 go_enter func145,ntmps145;go_wp2;go_ret;exact ⟨rfl,HN.o⟩):P:=h
theorem t13{P:Prop}(h:P:=by
 go_enter func145,ntmps145;go_wp2_with ((first
  | (with_reducible refine wpList_load_mid rfl 147 (.tmp 1) rfl w.heap.size 0 rfl (zH c ta tc la lc fa fc) _ (HRG.o _ (Below.refl _ _)) underlying147 rfl HI.o ?_)
  | (go_at_call 193;((with_reducible refine cS.mono ?_);rintro e w1 ⟨rfl,hb1⟩;have z21:=HBX.o _ hb1))))
 go_ret;exact ⟨rfl,HBO.o _ hb1⟩):P:=h
theorem t12{P:Prop}(h:P:=by
 go_enter func93,ntmps93;go_wp2_with ((first
  | ((with_reducible refine wpList_load_mid rfl 147 (.tmp 1) rfl w.heap.size 0 rfl (zH c ta tc la lc fa fc) _ (HRG.o _ HB0.o) underlying147 rfl HI.o ?_))
  | (go_at_call 142;((with_reducible refine (c1 _ HB0.o).mono ?_);rintro e w1 ⟨rfl,hb1⟩))
  | ((with_reducible refine wpList_load_mid rfl 147 (.tmp 1) rfl w.heap.size 0 rfl (zH c ta tc la lc fa fc) _ (HRG.o _ hb1) underlying147 rfl HI.o ?_))
  | (go_at_call 143;((with_reducible refine (c2 _ hb1).mono ?_);rintro e w2 ⟨rfl,hb2⟩))
  | ((with_reducible refine wpList_load_mid rfl 147 (.tmp 1) rfl w.heap.size 0 rfl (zH c ta tc la lc fa fc) _ (HRG.o _ hb2) underlying147 rfl HI.o ?_))
  | (go_at_call 144;((with_reducible refine (c3 _ hb2).mono ?_);rintro e w3 ⟨rfl,hb3⟩))
  | ((with_reducible refine wpList_load_mid rfl 147 (.tmp 1) rfl w.heap.size 0 rfl (zH c ta tc la lc fa fc) _ (HRG.o _ hb3) underlying147 rfl HI.o ?_))
  | (go_at_call 145;((with_reducible refine (c4 _ hb3).mono ?_);rintro e w4 ⟨rfl,hb4⟩))))
 go_ret;exact ⟨rfl,HBO.o _ hb4⟩):P:=h
theorem t11{P:Prop}(h:P:=by
 have HRG:Hid (((w.alloc (.cells (zH c ta tc la lc fa fc) 147))).rangeAt w.heap.size 0 (zH c ta tc la lc fa fc)):=hid (Block.new w _ _).whole;have HI:Hid ((prog.info? 147).map (·.size)=some ((zH c ta tc la lc fa fc):List Value).length):=hid dH;clear h hL;go_enter func143,ntmps143;go_wp2_with ((first
  | (with_reducible refine wpList_load_mid rfl 147 (.tmp 1) rfl w.heap.size 0 rfl (zH c ta tc la lc fa fc) _ HRG.o underlying147 rfl HI.o ?_)
  | (go_at_call 191;((with_reducible refine cH.mono ?_);rintro e w1 ⟨rfl,hb1⟩))))
 go_ret;exact ⟨rfl,hb1⟩):P:=h
namespace typing
open Go.RowKit schema
open field (Gives ak aj gZ xW)
theorem dH:(prog.info? 147).map (·.size)=some 25:=by kernel_rfl
theorem bt {a b:Int} (h:a=b):(a == b)=true:=beq_iff_eq.2 h
theorem bf {a b:Int} (h:¬a=b):(a == b)=false:=beq_eq_false_iff_ne.2 h
set_option maxRecDepth 20000 in
theorem nU (c:Ch) (ta:Option Addr) (tc:Nat) (la:Option Addr) (lc:Nat) (fa:Option Addr) (fc:Nat) (w:World):
  Calls prog 142 #[zH c ta tc la lc fa fc] w (Gives (.bool (found c)) w):=by
 have HN:=hid (ak w (.cells (zH c ta tc la lc fa fc) 147));obtain ⟨r,hr⟩:∃r:Bool,Hid (found c=r):=⟨_,rfl⟩;rw [hr.o];unfold Gives;by_cases h9:c.s.op=9
 ·have d9:=bt h9;obtain rfl:true=r:=by rw [<-hr.o];unfold found;simp [*]
  clear h9
  exact t65
 ·have d9:=bf h9;by_cases h1:c.s.op=1
  ·have d1:=bt h1;obtain rfl:c.kn=r:=by rw [<-hr.o];unfold found;simp [*]
   clear h9 h1
   exact t65
  ·have d1:=bf h1;by_cases h10:c.s.op=10
   ·have d10:=bt h10;obtain rfl:c.kn=r:=by rw [<-hr.o];unfold found;simp [*]
    clear h9 h1 h10
    exact t65
   ·have d10:=bf h10;obtain rfl:decide (0<=c.at_)=r:=by rw [<-hr.o];unfold found;simp [*]
    clear h9 h1 h10
    exact t65
theorem ul (c:Ch) (ta:Option Addr) (tc:Nat) (la:Option Addr) (lc:Nat) (fa:Option Addr) (fc:Nat) (w:World) (x:Int) (h:field.Fds w fa c.L) (hL:c.L.length<=maxLen):
  Calls prog 191 #[zH c ta tc la lc fa fc,.int .i64 x] w (Gives (.bool (decide (0<=au (ids c.L) x))) w):=by
 have HN:=ak w (.cells (zH c ta tc la lc fa fc) 147);have cA:=aj (oN c.fi fa fc c.L x ((w.alloc (.cells (zH c ta tc la lc fa fc) 147))) (h.below HN) hL) HN;obtain ⟨K,hK⟩:∃K:Int,Hid (au (ids c.L) x=K):=⟨_,rfl⟩;rw [hK.o] at cA ⊢;unfold Gives;clear h hL;by_cases h0:0<=K
 ·rw [decide_eq_true h0];have d0:decide (K≥0)=true:=decide_eq_true h0
  exact t73
 ·rw [decide_eq_false h0];have d0:decide (K≥0)=false:=decide_eq_false h0
  exact t73
set_option maxRecDepth 20000 in
theorem Fe (c:Ch) (ta:Option Addr) (tc:Nat) (la:Option Addr) (lc:Nat) (fa:Option Addr) (fc:Nat) (w:World) (h:field.Fds w fa c.L) (hL:c.L.length<=maxLen):
  Calls prog 143 #[zH c ta tc la lc fa fc] w (Gives (.bool (twice c)) w):=by
 have HN:=hid (ak w (.cells (zH c ta tc la lc fa fc) 147));obtain ⟨r,hr⟩:∃r:Bool,Hid (twice c=r):=⟨_,rfl⟩;rw [hr.o];unfold Gives;by_cases h9:c.s.op=9
 ·have d9:=bt h9;obtain rfl:c.kn=r:=by rw [<-hr.o];unfold twice;simp [*]
  clear h9
  exact t111
 ·have d9:=bf h9;by_cases h1:c.s.op=1
  ·have d1:=bt h1;obtain rfl:decide (0<=au (ids c.L) c.s.f.id)=r:=by rw [<-hr.o];unfold twice;simp [*]
   clear h9 h1;have cH:=aj (ul c ta tc la lc fa fc ((w.alloc (.cells (zH c ta tc la lc fa fc) 147))) (c.s.f.id) (h.below HN.o) hL) HN.o
   exact t11
  ·have d1:=bf h1;by_cases h6:c.s.op=6
   ·have d6:=bt h6;obtain rfl:decide (0<=au (ids c.L) c.s.tt)=r:=by rw [<-hr.o];unfold twice;simp [*]
    clear h9 h1 h6
    exact t128
   ·have d6:=bf h6;by_cases h8:c.s.op=8
    ·have d8:=bt h8;obtain rfl:decide (0<=au (ids c.L) c.s.tt)=r:=by rw [<-hr.o];unfold twice;simp [*]
     clear h9 h1 h6 h8
     exact t128
    ·have d8:=bf h8;obtain rfl:false=r:=by rw [<-hr.o];unfold twice;simp [*]
     clear h9 h1 h6 h8
     exact t111
set_option maxRecDepth 20000 in
theorem Bo (c:Ch) (ta:Option Addr) (tc:Nat) (la:Option Addr) (lc:Nat) (fa:Option Addr) (fc:Nat) (w:World) (hL:c.L.length<=40):
  Calls prog 144 #[zH c ta tc la lc fa fc] w (Gives (.bool (beyond c)) w):=by
 have HN:=hid (ak w (.cells (zH c ta tc la lc fa fc) 147));obtain ⟨r,hr⟩:∃r:Bool,Hid (beyond c=r):=⟨_,rfl⟩;rw [hr.o];unfold Gives;have hml:(c.L.length:Int)<=40:=by omega
 by_cases h1:c.s.op=1
 ·have d1:=bt h1;obtain rfl:decide ((c.L.length:Int)<c.s.pl)=r:=by rw [<-hr.o];unfold beyond;simp [*]
  clear h1
  exact t82
 ·have d1:=bf h1;by_cases h7:c.s.op=7
  ·have d7:=bt h7;obtain rfl:decide ((c.L.length:Int) - 1<c.s.pl)=r:=by rw [<-hr.o];unfold beyond;simp [*]
   clear h1 h7
   exact t82
  ·have d7:=bf h7;obtain rfl:false=r:=by rw [<-hr.o];unfold beyond;simp [*]
   clear h1 h7
   exact t82
def Bd (c:Ch):Prop:=(-1048576<=c.s.a/\c.s.a<=1048576)/\(-1099511627776<=c.s.b/\c.s.b<=1099511627776)/\(-1099511627776<=c.old.lo/\c.old.lo<=1099511627776)/\(-1099511627776<=c.old.hi/\c.old.hi<=1099511627776)
theorem GK {a x:Int} (h: -1048576<=a/\a<=1048576) (k: -1099511627776<=x/\x<=1099511627776): -1152921504606846976<=a*x/\a*x<=1152921504606846976:=by
 have h1:(a+1048576)*(x+1099511627776)≥0:=Int.mul_nonneg om_ om_;have h2:(1048576 - a)*(1099511627776 - x)≥0:=Int.mul_nonneg om_ om_;have h3:(a+1048576)*(1099511627776 - x)≥0:=Int.mul_nonneg om_ om_;have h4:(1048576 - a)*(x+1099511627776)≥0:=Int.mul_nonneg om_ om_;simp only [Int.add_mul,Int.sub_mul,Int.mul_add,Int.mul_sub] at h1 h2 h3 h4;constructor <;> omega
set_option maxRecDepth 20000 in
theorem vw (c:Ch) (ta:Option Addr) (tc:Nat) (la:Option Addr) (lc:Nat) (fa:Option Addr) (fc:Nat) (w:World) (hb:Bd c):
  Calls prog 193 #[zH c ta tc la lc fa fc] w (Gives (.tuple #[.int .i64 (low c),.int .i64 (high c)]) w):=by
 have HN:=hid (ak w (.cells (zH c ta tc la lc fa fc) 147));obtain ⟨ha,hbb,hlo,hhi⟩:=hb;have q1:=GK ha hlo;have q2:=GK ha hhi;have e1:scA c=c.s.a*c.old.lo+c.s.b:=rfl;have e2:scB c=c.s.a*c.old.hi+c.s.b:=rfl;have e3:low c=if scB c<scA c then scB c else scA c:=rfl
 have e4:high c=if scB c>scA c then scB c else scA c:=rfl
 obtain ⟨Q1,hQ1⟩:∃Q1,c.s.a*c.old.lo=Q1:=⟨_,rfl⟩;obtain ⟨Q2,hQ2⟩:∃Q2,c.s.a*c.old.hi=Q2:=⟨_,rfl⟩;rw [hQ1] at q1 e1;rw [hQ2] at q2 e2;obtain ⟨R1,hR1⟩:∃R1,scA c=R1:=⟨_,rfl⟩;obtain ⟨R2,hR2⟩:∃R2,scB c=R2:=⟨_,rfl⟩;rw [hR1] at e1;rw [hR2] at e2;rw [hR1,hR2] at e3 e4;have em:∀ts t W,(Builtin.min_ ts t #[.int .i64 R1,.int .i64 R2]).run prog W=.ok (.int .i64 (low c)) W:=fun ts t W=>by rw [run_min_int2,e3]
 have ex:∀ts t W,(Builtin.max_ ts t #[.int .i64 R1,.int .i64 R2]).run prog W=.ok (.int .i64 (high c)) W:=fun ts t W=>by rw [run_max_int2,e4]
 have w1:IntKind.i64.wrap Q1=Q1:=IntWalk.i64_in _ om_;have w2:IntKind.i64.wrap Q2=Q2:=IntWalk.i64_in _ om_;have w3:IntKind.i64.wrap (Q1+c.s.b)=R1:=by rw [IntWalk.i64_in _ om_,e1]
 have w4:IntKind.i64.wrap (Q2+c.s.b)=R2:=by rw [IntWalk.i64_in _ om_,e2]
 obtain ⟨L,hL⟩:∃L:Int,Hid (low c=L):=⟨_,rfl⟩;obtain ⟨M,hM⟩:∃M:Int,Hid (high c=M):=⟨_,rfl⟩;rw [hL.o] at em ⊢;rw [hM.o] at ex ⊢;unfold Gives;clear e1 e2 e3 e4 hR1 hR2 q1 q2 ha hbb hlo hhi;go_enter func193,ntmps193;go_wp2;go_quiet (fail);go_wp2;go_ret2;exact ⟨rfl,below_drewN HN.o _⟩
set_option maxRecDepth 20000 in
theorem Fa (c:Ch) (ta:Option Addr) (tc:Nat) (la:Option Addr) (lc:Nat) (fa:Option Addr) (fc:Nat) (w:World) (hb4:c.s.op=4->Bd c):
  Calls prog 145 #[zH c ta tc la lc fa fc] w (Gives (.bool (iP c)) w):=by
 have HN:=hid (ak w (.cells (zH c ta tc la lc fa fc) 147));obtain ⟨r,hr⟩:∃r:Bool,Hid (iP c=r):=⟨_,rfl⟩;rw [hr.o];unfold Gives;by_cases h2:c.s.op=2
 ·have d2:=bt h2;obtain rfl:decide (c.old.Has c.s.v)=r:=by rw [<-hr.o];unfold iP;simp [*]
  clear h2;have cH:=aj (gZ c.old c.s.v ((w.alloc (.cells (zH c ta tc la lc fa fc) 147)))) HN.o;clear hb4;go_enter func145,ntmps145;go_wp2_with ((go_at_call 170;((with_reducible refine cH.mono ?_);rintro e w1 ⟨rfl,hb1⟩)));go_ret;exact ⟨rfl,hb1⟩
 ·have d2:=bf h2;by_cases h3:c.s.op=3
  ·have d3:=bt h3;obtain rfl:decide (c.old.Wider c.s.f)=r:=by rw [<-hr.o];unfold iP;simp [*]
   clear h2 h3;have cH:=aj (xW c.old c.s.f ((w.alloc (.cells (zH c ta tc la lc fa fc) 147)))) HN.o;clear hb4;go_enter func145,ntmps145;go_wp2_with ((go_at_call 192;((with_reducible refine cH.mono ?_);rintro e w1 ⟨rfl,hb1⟩)));go_ret;exact ⟨rfl,hb1⟩
  ·have d3:=bf h3;by_cases h4:c.s.op=4
   ·have d4:=bt h4;have cS:=vw c ta tc la lc fa fc ((w.alloc (.cells (zH c ta tc la lc fa fc) 147))) (hb4 h4);unfold Gives at cS;have HRG:Hid (∀w',Below ((w.alloc (.cells (zH c ta tc la lc fa fc) 147))).heap.size ((w.alloc (.cells (zH c ta tc la lc fa fc) 147))) w'->w'.rangeAt w.heap.size 0 (zH c ta tc la lc fa fc)):=hid (fun w' hb=>((Block.new w _ _).later hb).whole);have HI:Hid ((prog.info? 147).map (·.size)=some ((zH c ta tc la lc fa fc):List Value).length):=hid dH;have hsp:iP c=decide (c.old.kind=1/\ -1099511627776<=low c/\high c<=1099511627776):=by unfold iP;simp [*]
    have HSP:=hid hsp;clear hb4 hsp;clear h2 h3 h4;have HBX:=hid (fun w' (hb:Below ((w.alloc (.cells (zH c ta tc la lc fa fc) 147))).heap.size ((w.alloc (.cells (zH c ta tc la lc fa fc) 147))) w')=>((Block.new w 147 (zH c ta tc la lc fa fc)).later hb).cell 21);have HBO:=hid (fun w' (hb:Below ((w.alloc (.cells (zH c ta tc la lc fa fc) 147))).heap.size ((w.alloc (.cells (zH c ta tc la lc fa fc) 147))) w')=>aP hb);generalize low c=K1 at *;generalize high c=K2 at *;by_cases hk:c.old.kind=1
    ·by_cases hl: -1099511627776<=K1
     ·by_cases hh:K2<=1099511627776
      ·obtain rfl:true=r:=by rw [<-hr.o,HSP.o];simp [*]
       have dk:=bt hk;have dl:decide (K1≥ -1099511627776)=true:=decide_eq_true hl;have dh:decide (K2<=1099511627776)=true:=decide_eq_true hh;clear hk hl hh
       exact t13
      ·obtain rfl:false=r:=by rw [<-hr.o,HSP.o];simp [*]
       have dk:=bt hk;have dl:decide (K1≥ -1099511627776)=true:=decide_eq_true hl;have dh:decide (K2<=1099511627776)=false:=decide_eq_false hh;clear hk hl hh
       exact t13
     ·obtain rfl:false=r:=by rw [<-hr.o,HSP.o];simp [*]
      have dk:=bt hk;have dl:decide (K1≥ -1099511627776)=false:=decide_eq_false hl;clear hk hl
      exact t13
    ·obtain rfl:false=r:=by rw [<-hr.o,HSP.o];simp [*]
     have dk:=bf hk;clear hk
     exact t13
   ·have d4:=bf h4;by_cases h5:c.s.op=5
    ·have d5:=bt h5;have hsp:iP c=decide (c.old.kind=3/\c.old.most=c.s.t.length):=by unfold iP;simp [*]
     have HSP:=hid hsp;clear hb4 hsp;clear h2 h3 h4 h5;by_cases hk:c.old.kind=3
     ·have dk:=bt hk;by_cases hm:c.old.most=c.s.t.length
      ·exact t133
      ·exact t132
     ·exact t134
    ·have d5:=bf h5;by_cases h6:c.s.op=6
     ·have d6:=bt h6;have hsp:iP c=decide (c.old.kind=1/\c.old.lo=0):=by unfold iP;simp [*]
      have HSP:=hid hsp;clear hb4 hsp;clear h2 h3 h4 h5 h6;by_cases hk:c.old.kind=1
      ·have dk:=bt hk;by_cases hm:c.old.lo=0
       ·exact t133
       ·exact t132
      ·exact t134
     ·have d6:=bf h6;obtain rfl:true=r:=by rw [<-hr.o];unfold iP;simp [*]
      clear h2 h3 h4 h5 h6;clear hb4
      exact t38
set_option maxRecDepth 20000 in
theorem check_any (c:Ch) (ta:Option Addr) (tc:Nat) (la:Option Addr) (lc:Nat) (fa:Option Addr) (fc:Nat) (w:World) (h:field.Fds w fa c.L) (hL:c.L.length<=40) (hb4:c.s.op=4->Bd c):
  Calls prog 93 #[zH c ta tc la lc fa fc] w (Gives (.int .i64 (err c:Nat)) w):=by
 have HN:=hid (ak w (.cells (zH c ta tc la lc fa fc) 147));have hmx:c.L.length<=maxLen:=by unfold maxLen;omega
 have hh:=h.below HN.o;obtain ⟨r,hr⟩:∃r:Nat,Hid (err c=r):=⟨_,rfl⟩;rw [hr.o];have HER:Hid (err c=if found c=false then 8 else if twice c=true then 9 else if beyond c=true then 3 else if iP c=false then 17 else 0):=hid rfl;have c1:=fun (w':World) (hb:Below ((w.alloc (.cells (zH c ta tc la lc fa fc) 147))).heap.size ((w.alloc (.cells (zH c ta tc la lc fa fc) 147))) w')=>aj (nU c ta tc la lc fa fc w') hb
 have c2:=fun (w':World) (hb:Below ((w.alloc (.cells (zH c ta tc la lc fa fc) 147))).heap.size ((w.alloc (.cells (zH c ta tc la lc fa fc) 147))) w')=>aj (Fe c ta tc la lc fa fc w' (hh.below hb) hmx) hb
 have c3:=fun (w':World) (hb:Below ((w.alloc (.cells (zH c ta tc la lc fa fc) 147))).heap.size ((w.alloc (.cells (zH c ta tc la lc fa fc) 147))) w')=>aj (Bo c ta tc la lc fa fc w' hL) hb
 have c4:=fun (w':World) (hb:Below ((w.alloc (.cells (zH c ta tc la lc fa fc) 147))).heap.size ((w.alloc (.cells (zH c ta tc la lc fa fc) 147))) w')=>aj (Fa c ta tc la lc fa fc w' hb4) hb
 have HRG:Hid (∀w',Below ((w.alloc (.cells (zH c ta tc la lc fa fc) 147))).heap.size ((w.alloc (.cells (zH c ta tc la lc fa fc) 147))) w'->w'.rangeAt w.heap.size 0 (zH c ta tc la lc fa fc)):=hid (fun w' hb=>((Block.new w _ _).later hb).whole);have HI:Hid ((prog.info? 147).map (·.size)=some ((zH c ta tc la lc fa fc):List Value).length):=hid dH;have HB0:=hid (Below.refl ((w.alloc (.cells (zH c ta tc la lc fa fc) 147))).heap.size ((w.alloc (.cells (zH c ta tc la lc fa fc) 147))));have HBO:=hid (fun w' (hb:Below ((w.alloc (.cells (zH c ta tc la lc fa fc) 147))).heap.size ((w.alloc (.cells (zH c ta tc la lc fa fc) 147))) w')=>aP hb);unfold Gives;clear h hh hL hb4 hmx;by_cases e1:found c=false
 ·rw [e1] at c1;obtain rfl:8=r:=by rw [<-hr.o,HER.o];simp [*]
  clear e1;go_enter func93,ntmps93;go_wp2_with ((first
   | ((with_reducible refine wpList_load_mid rfl 147 (.tmp 1) rfl w.heap.size 0 rfl (zH c ta tc la lc fa fc) _ (HRG.o _ HB0.o) underlying147 rfl HI.o ?_))
   | (go_at_call 142;((with_reducible refine (c1 _ HB0.o).mono ?_);rintro e w1 ⟨rfl,hb1⟩))))
  go_ret;exact ⟨rfl,HBO.o _ hb1⟩
 ·have f1:found c=true:=by simpa using e1
  rw [f1] at c1;by_cases e2:twice c=true
  ·rw [e2] at c2;obtain rfl:9=r:=by rw [<-hr.o,HER.o];simp [*]
   clear e1 e2;go_enter func93,ntmps93;go_wp2_with ((first
    | ((with_reducible refine wpList_load_mid rfl 147 (.tmp 1) rfl w.heap.size 0 rfl (zH c ta tc la lc fa fc) _ (HRG.o _ HB0.o) underlying147 rfl HI.o ?_))
    | (go_at_call 142;((with_reducible refine (c1 _ HB0.o).mono ?_);rintro e w1 ⟨rfl,hb1⟩))
    | ((with_reducible refine wpList_load_mid rfl 147 (.tmp 1) rfl w.heap.size 0 rfl (zH c ta tc la lc fa fc) _ (HRG.o _ hb1) underlying147 rfl HI.o ?_))
    | (go_at_call 143;((with_reducible refine (c2 _ hb1).mono ?_);rintro e w2 ⟨rfl,hb2⟩))))
   go_ret;exact ⟨rfl,HBO.o _ hb2⟩
  ·have f2:twice c=false:=by simpa using e2
   rw [f2] at c2;by_cases e3:beyond c=true
   ·rw [e3] at c3;obtain rfl:3=r:=by rw [<-hr.o,HER.o];simp [*]
    clear e1 e2 e3;go_enter func93,ntmps93;go_wp2_with ((first
     | ((with_reducible refine wpList_load_mid rfl 147 (.tmp 1) rfl w.heap.size 0 rfl (zH c ta tc la lc fa fc) _ (HRG.o _ HB0.o) underlying147 rfl HI.o ?_))
     | (go_at_call 142;((with_reducible refine (c1 _ HB0.o).mono ?_);rintro e w1 ⟨rfl,hb1⟩))
     | ((with_reducible refine wpList_load_mid rfl 147 (.tmp 1) rfl w.heap.size 0 rfl (zH c ta tc la lc fa fc) _ (HRG.o _ hb1) underlying147 rfl HI.o ?_))
     | (go_at_call 143;((with_reducible refine (c2 _ hb1).mono ?_);rintro e w2 ⟨rfl,hb2⟩))
     | ((with_reducible refine wpList_load_mid rfl 147 (.tmp 1) rfl w.heap.size 0 rfl (zH c ta tc la lc fa fc) _ (HRG.o _ hb2) underlying147 rfl HI.o ?_))
     | (go_at_call 144;((with_reducible refine (c3 _ hb2).mono ?_);rintro e w3 ⟨rfl,hb3⟩))))
    go_ret;exact ⟨rfl,HBO.o _ hb3⟩
   ·have f3:beyond c=false:=by simpa using e3
    rw [f3] at c3;by_cases e4:iP c=false
    ·rw [e4] at c4;obtain rfl:17=r:=by rw [<-hr.o,HER.o];simp [*]
     clear e1 e2 e3 e4
     exact t12
    ·have f4:iP c=true:=by simpa using e4
     rw [f4] at c4;obtain rfl:0=r:=by rw [<-hr.o,HER.o];simp [*]
     clear e1 e2 e3 e4 f1 f2 f3 f4
     exact t12
end typing
end Go.Proofs.YtogkgbnpodojjaaGreat
