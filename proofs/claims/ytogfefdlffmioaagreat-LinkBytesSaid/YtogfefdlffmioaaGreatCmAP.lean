/- Contracts and lemmas that claims of this seat share: StepRightB. Each says its own conditions. -/
import Derived.Test.YtogfefdlffmioaaGreatCmWord
import Derived.Test.YtogfefdlffmioaaGreatCmAO
set_option linter.unusedSimpArgs false
set_option linter.unusedVariables false
namespace Go.Proofs.YtogfefdlffmioaaGreat
open Go.Proofs.Tryz
namespace step
open Go.RowKit
open field (Gives)
theorem has_right{f:field.Fd}{v:field.Va}(h:f.Has v):f.Right:=h.1
theorem len_nil{α:Type}(l:List α):((l.length:Int) == 0)=decide (l=[]):=by
 cases l <;> simp <;> omega
set_option maxHeartbeats 3200000 in
theorem rightB_eq(s:Sp):s.rightB=decide s.Right:=by
 obtain⟨op,fm,fd,pl,tt,a,b,f,v,t,l⟩:=s;refine all_ops (Q:=fun op=>(⟨op,fm,fd,pl,tt,a,b,f,v,t,l⟩:Sp).rightB=decide (⟨op,fm,fd,pl,tt,a,b,f,v,t,l⟩:Sp).Right) ?_ ?_ ?_ ?_ ?_ ?_ ?_ ?_ ?_ ?_ ?_ ?_ ?_ ?_ ?_ ?_ ?_ ?_ ?_ ?_ ?h0 op;case h0=>
  intro op h1 h2;have e1:(⟨op,fm,fd,pl,tt,a,b,f,v,t,l⟩:Sp).no1=true:=by unfold Sp.no1;rw[h2];rfl
  rw[show decide (⟨op,fm,fd,pl,tt,a,b,f,v,t,l⟩:Sp).Right=false from decide_eq_false (fun h=>h.2.1 h1)];unfold Sp.rightB;rw[e1];rfl
 all_goals
  rw[Bool.eq_iff_iff,decide_eq_true_iff]
  have hr:= @has_right f v
  simp[Sp.rightB,Sp.no1,Sp.no2,Sp.no3,Sp.no4,Sp.no5,Sp.yes6,Sp.zeroB,Sp.numsB,HasC,uses,mem,Sp.Right,Sp.Fine,Sp.clear,len_nil,schema.Fine]
  grind
theorem refRight_any(s:Sp)(ta:Option Addr)(tc:Nat)(la:Option Addr)(lc:Nat)(w:World)(h:Lists w s ta la):Calls prog 44 #[zP s ta tc la lc] w (Gives (.bool (decide s.Right)) w):=by
 have:=refRightB_any s ta tc la lc w h;rw[rightB_eq] at this;exact this
end step
end Go.Proofs.YtogfefdlffmioaaGreat
