/- Contracts and lemmas that claims of this seat share: FieldRight. Each says its own conditions. -/
import Derived.Test.YtogfefdlffmioaaGreatCmWord
import Derived.Test.YtogfefdlffmioaaGreatCmC
import Derived.Test.YtogfefdlffmioaaGreatCmD
set_option linter.unusedVariables false
namespace Go.Proofs.YtogfefdlffmioaaGreat
open Go.Proofs.Tryz
theorem t146{P:Prop}(h:P:=by
 have qQ:lo≥ -1099511627776:=h2;clear h
 exact t2):P:=h
theorem t142{P:Prop}(h:P:=by
 rcases h with hn | ⟨⟨rfl,rfl⟩,hn⟩
 ·exact t2
 ·exact t2):P:=h
theorem t72{P:Prop}(h:P:=by
 go_enter func113,ntmps113;go_wp2;go_ret;exact⟨rfl,rfl⟩):P:=h
theorem t39{P:Prop}(h:P:=by
 go_wp2;go_ret;exact⟨rfl,newB _ _⟩):P:=h
theorem t2{P:Prop}(h:P:=by
 go_enter func102,ntmps102;go_wp2_with (first
  | (go_at_call 113;(with_reducible refine hw0.mono ?_);rintro e w' ⟨rfl,rfl⟩;clear hw0)
  | (go_at_call 113;(with_reducible refine(within_no _ _ _ _ hn).mono ?_);rintro e w' ⟨rfl,rfl⟩)
  | (go_at_call 114;(with_reducible refine(unbounded_yes _ _ _ _).mono ?_);rintro e w1 ⟨rfl,ak⟩;have bU:=HS.o w1 ak)
  | (go_at_call 114;(with_reducible refine(unbounded_no _ _ _ _ _ hn _).mono ?_);rintro e w1 ⟨rfl,ak⟩;have bU:=HS.o w1 ak))
 go_ret;exact⟨rfl,HB.o _ ba_⟩):P:=h
namespace field
open Go.RowKit
def Gives(v:Value)(w:World)(e:Ending)(w':World):Prop:=e=.returned v/\Below w.heap.size w w'
theorem newB(w:World)(d:Obj):Below w.heap.size w (w.alloc d):=(Below.refl _ _).alloc (Nat.le_refl _) _
theorem five(f:Fd)(w w':World)(hb:Below (w.alloc (.cells (zF f) 79)).heap.size (w.alloc (.cells (zF f) 79)) w'):(w'.cell? ⟨w.heap.size,0,none⟩=some (.int .i64 f.id)/\w'.cell? ⟨w.heap.size,1,none⟩=some (.int .i64 f.kind)/\w'.cell? ⟨w.heap.size,2,none⟩=some (.int .i64 f.lo)/\w'.cell? ⟨w.heap.size,3,none⟩=some (.int .i64 f.hi)/\w'.cell? ⟨w.heap.size,4,none⟩=some (.int .i64 f.most)):=by
 have hB:=(Block.new w 79 (zF f)).later hb;exact⟨hB.cell 0,hB.cell 1,hB.cell 2,hB.cell 3,hB.cell 4⟩
theorem belowF(f:Fd)(w w':World)(hb:Below (w.alloc (.cells (zF f) 79)).heap.size (w.alloc (.cells (zF f) 79)) w'):Below w.heap.size w w':=((Below.refl _ _).alloc (Nat.le_refl _) _).trans (hb.mono si_)
theorem within_yes(n lo hi:Int)(w:World)(h1:lo<=n)(h2:n<=hi):Calls prog 113 #[.int .i64 n,.int .i64 lo,.int .i64 hi] w fun e w'=>e=.returned (.bool true)/\w=w':=by
 exact t72
theorem within_no(n lo hi:Int)(w:World)(h:n<lo\/hi<n):Calls prog 113 #[.int .i64 n,.int .i64 lo,.int .i64 hi] w fun e w'=>e=.returned (.bool false)/\w=w':=by
 by_cases h1:n<lo
 ·clear h
  exact t72
 ·have h2:hi<n:=by omega
  have h3:lo<=n:=by omega
  have hd:decide (n<=hi)=false:=decide_eq_false om_;clear h h1
  exact t72
theorem unbounded_yes(i k m:Int)(w:World):Calls prog 114 #[.agg #[.int .i64 i,.int .i64 k,.int .i64 0,.int .i64 0,.int .i64 m]] w (Gives (.bool true) w):=by
 unfold Gives;go_enter func114,ntmps114
 exact t39
theorem unbounded_no(i k lo hi m:Int)(h:lo≠0\/hi≠0)(w:World):Calls prog 114 #[.agg #[.int .i64 i,.int .i64 k,.int .i64 lo,.int .i64 hi,.int .i64 m]] w (Gives (.bool false) w):=by
 unfold Gives;by_cases h1:lo=0
 ·have h2:(hi == 0)=false:=by rw[beq_eq_false_iff_ne];omega
  subst h1;clear h;go_enter func114,ntmps114
  exact t39
 ·have h2:(lo == 0)=false:=by rw[beq_eq_false_iff_ne];omega
  clear h h1;go_enter func114,ntmps114
  exact t39
theorem right_yes(f:Fd)(h:f.Right)(w:World):Calls prog 102 #[zF f] w (Gives (.bool true) w):=by
 have HB:=hid (belowF f w);have HS:=hid (five f w);obtain⟨i,k,lo,hi,m⟩:=f;obtain⟨⟨h1,h2⟩,h⟩:=h;simp only at h h1 h2 HB HS ⊢;have hw0:=within_yes i 0 255 (w.alloc (.cells #[.int .i64 i,.int .i64 k,.int .i64 lo,.int .i64 hi,.int .i64 m] 79)) h1 h2;clear h1 h2;unfold Gives;rcases h with ⟨rfl,h1,h2,h3,rfl⟩ | ⟨rfl,⟨rfl,rfl⟩,rfl⟩ | ⟨rfl,⟨rfl,rfl⟩,h1,h2⟩ | ⟨rfl,⟨rfl,rfl⟩,h1,h2⟩
 all_goals
  go_enter func102,ntmps102
  go_wp2_with (first
   | (go_at_call 113;(with_reducible refine hw0.mono ?_);rintro e w' ⟨rfl,rfl⟩;clear hw0)
   | (go_at_call 113;(with_reducible refine(within_yes _ _ _ _ h1 h2).mono ?_);rintro e w' ⟨rfl,rfl⟩)
   | (go_at_call 114;(with_reducible refine(unbounded_yes _ _ _ _).mono ?_);rintro e w1 ⟨rfl,ak⟩;have bU:=HS.o w1 ak))
  go_ret
  exact⟨rfl,HB.o _ ba_⟩
theorem Fd.wrong{i k lo hi m:Int}(h:¬(⟨i,k,lo,hi,m⟩:Fd).Right):(i<0\/255<i)\/((0<=i/\i<=255)/\(
  (k=1/\((lo>hi)\/(lo<=hi/\lo< -1099511627776)\/(lo<=hi/\ -1099511627776<=lo/\1099511627776<hi)\/(lo<=hi/\ -1099511627776<=lo/\hi<=1099511627776/\m≠0)))\/
  (k=2/\((lo≠0\/hi≠0)\/((lo=0/\hi=0)/\m≠0)))\/
  (k=3/\((lo≠0\/hi≠0)\/((lo=0/\hi=0)/\(m<1\/1000<m))))\/
  (k=4/\((lo≠0\/hi≠0)\/((lo=0/\hi=0)/\(m<0\/32<m))))\/
  (k≠1/\k≠2/\k≠3/\k≠4))):=by
 unfold Fd.Right at h;simp only at h;omega
theorem right_no(f:Fd)(h:¬f.Right)(w:World):Calls prog 102 #[zF f] w (Gives (.bool false) w):=by
 have HB:=hid (belowF f w);have HS:=hid (five f w);obtain⟨i,k,lo,hi,m⟩:=f;replace h:=Fd.wrong h;simp only at h HB HS ⊢;unfold Gives;rcases h with hn | ⟨⟨h1,h2⟩,h⟩
 ·have hw0:=within_no i 0 255 (w.alloc (.cells #[.int .i64 i,.int .i64 k,.int .i64 lo,.int .i64 hi,.int .i64 m] 79)) hn;clear hn;go_enter func102,ntmps102;go_wp2_with (go_at_call 113;(with_reducible refine hw0.mono ?_);rintro e w' ⟨rfl,rfl⟩;clear hw0);go_ret;exact⟨rfl,HB.o _ (Below.refl _ _)⟩
 have hw0:=within_yes i 0 255 (w.alloc (.cells #[.int .i64 i,.int .i64 k,.int .i64 lo,.int .i64 hi,.int .i64 m] 79)) h1 h2;clear h1 h2;rcases h with ⟨rfl,h⟩ | ⟨rfl,h⟩ | ⟨rfl,h⟩ | ⟨rfl,h⟩ | ⟨n1,n2,n3,n4⟩
 ·rcases h with h | ⟨h1,h⟩ | ⟨h1,h2,h⟩ | ⟨h1,h2,h3,h⟩
  ·have hd:decide (lo<=hi)=false:=decide_eq_false om_;clear h
   exact t2
  ·have hd:decide (lo≥ -1099511627776)=false:=decide_eq_false om_;clear h
   exact t2
  ·have hd:decide (hi<=1099511627776)=false:=decide_eq_false om_
   exact t146
  ·have hd:(m == 0)=false:=by rw[beq_eq_false_iff_ne];exact h
   exact t146
 ·rcases h with hn | ⟨⟨rfl,rfl⟩,h⟩
  ·exact t2
  ·have hd:(m == 0)=false:=by rw[beq_eq_false_iff_ne];exact h
   clear h
   exact t2
 ·exact t142
 ·exact t142
 ·have e1:(k == 1)=false:=by rw[beq_eq_false_iff_ne];exact n1
  have e2:(k == 2)=false:=by rw[beq_eq_false_iff_ne];exact n2
  have e3:(k == 3)=false:=by rw[beq_eq_false_iff_ne];exact n3
  have e4:(k == 4)=false:=by rw[beq_eq_false_iff_ne];exact n4
  clear n1 n2 n3 n4
  exact t2
theorem right_any(f:Fd)(w:World):Calls prog 102 #[zF f] w (Gives (.bool (decide f.Right)) w):=by
 by_cases h:f.Right
 ·rw[decide_eq_true h];exact right_yes f h w
 ·rw[decide_eq_false h];exact right_no f h w
end field
end Go.Proofs.YtogfefdlffmioaaGreat
