/- Contracts and lemmas that claims of this seat share: FieldSpan. Each says its own conditions. -/
import Derived.Test.YtogfefdlffmioaaGreatCmWord
import Derived.Test.YtogfefdlffmioaaGreatCmE
set_option linter.unusedVariables false
namespace Go.Proofs.YtogfefdlffmioaaGreat
open Go.Proofs.Tryz
theorem t138{P:Prop}(h:P:=by
 have hd:(m == 0)=false:=by rw[beq_eq_false_iff_ne];omega
 clear h
 exact t3):P:=h
theorem t129{P:Prop}(h:P:=by
 go_enter func96,ntmps96;go_wp2;go_wp2;refine bodyPost_ret (results_tmp4 rfl _ _ _) rfl ?_;exact⟨⟨_,_,_,rfl⟩,HB.o _ (Below.refl _ _)⟩):P:=h
theorem t127{P:Prop}(h:P:=by
 have hd:(lo == 0)=false:=by rw[beq_eq_false_iff_ne];omega
 clear h c1
 exact t3):P:=h
theorem t126{P:Prop}(h:P:=by
 subst c1;have hd:(hi == 0)=false:=by rw[beq_eq_false_iff_ne];omega
 clear h c2
 exact t3):P:=h
theorem t125{P:Prop}(h:P:=by
 by_cases k1:k=1
 ·subst k1
  exact t3
 ·by_cases k2:k=2
  ·subst k2
   exact t3
  ·by_cases k3:k=3
   ·subst k3
    exact t3
   ·by_cases k4:k=4
    ·subst k4
     exact t3
    ·exact t25):P:=h
theorem t25{P:Prop}(h:P:=by
 have e1:(k == 1)=false:=by rw[beq_eq_false_iff_ne];exact k1
 have e2:(k == 2)=false:=by rw[beq_eq_false_iff_ne];exact k2
 have e3:(k == 3)=false:=by rw[beq_eq_false_iff_ne];exact k3
 have e4:(k == 4)=false:=by rw[beq_eq_false_iff_ne];exact k4
 clear k1 k2 k3 k4
 exact t129):P:=h
theorem t21{P:Prop}(h:P:=by
 go_enter func96,ntmps96;go_wp2;go_quiet (fail);go_wp2;refine bodyPost_ret (results_tmp4 rfl _ _ _) rfl ?_;exact⟨rfl,HB.o _ (below_drewN (Below.refl _ _) _)⟩):P:=h
theorem t3{P:Prop}(h:P:=by
 go_enter func96,ntmps96;go_wp2;go_quiet (fail);go_wp2;refine bodyPost_ret (results_tmp4 rfl _ _ _) rfl ?_;exact⟨⟨_,_,_,rfl⟩,HB.o _ (below_drewN (Below.refl _ _) _)⟩):P:=h
namespace field
open Go.RowKit
theorem results_tmp4{fn:Func}{t u v x:Tmp}(h:fn.results=#[.tmp t,.tmp u,.tmp v,.tmp x])(tmps:Array Value)(P:Program)(w:World):
  (results fn tmps).run P w=.ok (.tuple #[tmps.getD t undef,tmps.getD u undef,tmps.getD v undef,tmps.getD x undef]) w:=by
 simp[results,h]
def SpanNo(w:World)(e:Ending)(w':World):Prop:=(∃a b c:Int,e=.returned (.tuple #[.int .i64 a,.int .i64 b,.int .i64 c,.bool false]))/\Below w.heap.size w w'
def SpanYes(a b c:Int)(w:World)(e:Ending)(w':World):Prop:=e=.returned (.tuple #[.int .i64 a,.int .i64 b,.int .i64 c,.bool true])/\Below w.heap.size w w'
theorem span_yes(f:Fd)(h:f.Right)(w:World):Calls prog 96 #[zF f] w (SpanYes f.lo f.great f.long w):=by
 have HB:=hid (belowF f w);obtain⟨i,k,lo,hi,m⟩:=f;obtain⟨⟨h1,h2⟩,h⟩:=h;simp only at h h1 h2 HB ⊢;have g1:i≥0:=h1;unfold SpanYes;rcases h with ⟨rfl,h3,h4,h5,rfl⟩ | ⟨rfl,⟨rfl,rfl⟩,rfl⟩ | ⟨rfl,⟨rfl,rfl⟩,h3,h4⟩ | ⟨rfl,⟨rfl,rfl⟩,h3,h4⟩
 ·have g4:lo≥ -1099511627776:=h4;rw[show Fd.great ⟨i,1,lo,hi,0⟩=hi from rfl,show Fd.long ⟨i,1,lo,hi,0⟩=0 from rfl]
  exact t21
 ·rw[show Fd.great ⟨i,2,0,0,0⟩=1 from rfl,show Fd.long ⟨i,2,0,0,0⟩=0 from rfl]
  exact t21
 ·rw[show Fd.great ⟨i,3,0,0,m⟩=m - 1 from rfl,show Fd.long ⟨i,3,0,0,m⟩=0 from rfl];have g3:m≥1:=h3
  exact t21
 ·rw[show Fd.great ⟨i,4,0,0,m⟩=0 from rfl,show Fd.long ⟨i,4,0,0,m⟩=m from rfl];have g3:m≥0:=h3
  exact t21
set_option maxHeartbeats 4000000 in
theorem span_no(f:Fd)(h:¬f.Right)(w:World):Calls prog 96 #[zF f] w (SpanNo w):=by
 have HB:=hid (belowF f w);obtain⟨i,k,lo,hi,m⟩:=f;replace h:=Fd.wrong h;simp only at h HB ⊢;unfold SpanNo;by_cases a0:(0<=i/\i<=255)
 ·have h:_:=Or.resolve_left h om_;obtain⟨⟨h1,h2⟩,h⟩:=h;have g1:i≥0:=h1;clear a0;rcases h with ⟨rfl,h⟩ | ⟨rfl,h⟩ | ⟨rfl,h⟩ | ⟨rfl,h⟩ | ⟨n1,n2,n3,n4⟩
  ·by_cases c1:lo≥ -1099511627776
   ·by_cases c2:hi<=1099511627776
    ·by_cases c3:lo<=hi
     ·exact t138
     ·have hd:decide (lo<=hi)=false:=decide_eq_false c3;clear h c3
      exact t3
    ·have hd:decide (hi<=1099511627776)=false:=decide_eq_false c2;clear h c2
     exact t3
   ·have hd:decide (lo≥ -1099511627776)=false:=decide_eq_false c1;clear h c1
    exact t3
  ·by_cases c1:lo=0
   ·by_cases c2:hi=0
    ·subst c1 c2
     exact t138
    ·exact t126
   ·exact t127
  ·by_cases c1:lo=0
   ·by_cases c2:hi=0
    ·subst c1 c2;by_cases c3:m≥1
     ·have hd:decide (m<=1000)=false:=decide_eq_false om_;clear h
      exact t3
     ·have hd:decide (m≥1)=false:=decide_eq_false c3;clear h c3
      exact t3
    ·exact t126
   ·exact t127
  ·by_cases c1:lo=0
   ·by_cases c2:hi=0
    ·subst c1 c2;by_cases c3:m≥0
     ·have hd:decide (m<=32)=false:=decide_eq_false om_;clear h
      exact t3
     ·have hd:decide (m≥0)=false:=decide_eq_false c3;clear h c3
      exact t3
    ·exact t126
   ·exact t127
  ·have e1:(k == 1)=false:=by rw[beq_eq_false_iff_ne];exact n1
   have e2:(k == 2)=false:=by rw[beq_eq_false_iff_ne];exact n2
   have e3:(k == 3)=false:=by rw[beq_eq_false_iff_ne];exact n3
   have e4:(k == 4)=false:=by rw[beq_eq_false_iff_ne];exact n4
   clear n1 n2 n3 n4
   exact t129
 ·clear h;by_cases a1:i≥0
  ·have hd:decide (i<=255)=false:=decide_eq_false om_;clear a0
   exact t125
  ·have hd:decide (i≥0)=false:=decide_eq_false a1;clear a0 a1
   exact t125
end field
end Go.Proofs.YtogfefdlffmioaaGreat
