/- Contracts and lemmas that claims of this seat share: StepRightB. Each says its own conditions. -/
import Derived.Test.YtogfefdlffmioaaCmWord
import Derived.Test.YtogfefdlffmioaaCmAR
set_option linter.unusedSimpArgs false
set_option linter.unusedVariables false
namespace Go.Proofs.Ytogfefdlffmioaa
open Go.Proofs.Try
namespace step
open Go.RowKit
open field (Gives)
theorem D5{f:field.Fd}{v:field.Va}(h:f.Has v):f.Right:=h.1
theorem len_nil{α:Type}(l:List α):((l.length:Int) == 0)=decide (l=[]):=by
 cases l <;> simp <;> omega
set_option maxHeartbeats 3200000 in
theorem Dq(s:Sp):s.kP=decide s.Right:=by
 obtain⟨op,fm,fd,pl,tt,a,b,f,v,t,l⟩:=s;refine jG (Q:=fun op=>(⟨op,fm,fd,pl,tt,a,b,f,v,t,l⟩:Sp).kP=decide (⟨op,fm,fd,pl,tt,a,b,f,v,t,l⟩:Sp).Right) ?_ ?_ ?_ ?_ ?_ ?_ ?_ ?_ ?_ ?_ ?_ ?_ ?_ ?_ ?_ ?_ ?_ ?_ ?_ ?_ ?h0 op;case h0=>
  intro op h1 h2;have e1:(⟨op,fm,fd,pl,tt,a,b,f,v,t,l⟩:Sp).no1=true:=by unfold Sp.no1;rw[h2];rfl
  rw[show decide (⟨op,fm,fd,pl,tt,a,b,f,v,t,l⟩:Sp).Right=false from decide_eq_false (fun h=>h.2.1 h1)];unfold Sp.kP;rw[e1];rfl
 all_goals
  rw[Bool.eq_iff_iff,decide_eq_true_iff]
  have hr:= @D5 f v
  simp[Sp.kP,Sp.no1,Sp.no2,Sp.no3,Sp.no4,Sp.no5,Sp.KO,Sp.dK,Sp.nD,aG,uses,mem,Sp.Right,Sp.Fine,Sp.clear,len_nil,ak.Fine]
  grind
theorem fB(s:Sp)(ta:Option Addr)(tc:Nat)(la:Option Addr)(lc:Nat)(w:World)(h:Lists w s ta la):Calls prog 38 #[zP s ta tc la lc] w (Gives (.bool (decide s.Right)) w):=by
 have:=wz s ta tc la lc w h;rw[Dq] at this;exact this
end step
end Go.Proofs.Ytogfefdlffmioaa
