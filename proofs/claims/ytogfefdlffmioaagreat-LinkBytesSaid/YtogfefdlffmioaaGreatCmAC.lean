/- Contracts and lemmas that claims of this seat share: RowOps. Each says its own conditions. -/
import Derived.Test.YtogfefdlffmioaaGreatCmWord
import Derived.Laws.CopyOwn
import Derived.Lib.AppendZerosOnto
import Derived.Lib.AppendZeros
import Derived.Lib.Overlaps
import Derived.Test.YtogfefdlffmioaaGreatCmD
set_option linter.unusedVariables false
namespace Go.Proofs.YtogfefdlffmioaaGreat
open Go.Proofs.Tryz
namespace rows
open Go.RowKit
variable {P:Program} {ops:Array Oper} {rest:List Oper} {o:Oper} {a:Act} {w:World} {Q:Exit->Act->World->Prop}
theorem splice_head{α:Type}(C:List α)(p:Nat)(V:List α)(q:Nat)(hq:q<=p)(hp:p<=C.length):(splice C p V).take q=C.take q:=by
 unfold splice;rw[List.take_append_of_le_length (by simp;omega),List.take_take,Nat.min_eq_left hq]
theorem splice_drop{α:Type}(C:List α)(p:Nat)(V:List α)(hp:p<=C.length):(splice C p V).drop p=V++C.drop (p+V.length):=by
 unfold splice;have h:(C.take p).length=p:=by simp;omega
 have h2:=List.drop_left (l₁:=C.take p) (l₂:=V++C.drop (p+V.length));rw[h] at h2;exact h2
theorem two{α:Type}(C:List α)(p:Nat)(V X2:List α)(hC:p+V.length+X2.length<=C.length):
  (splice (splice C (p+V.length) X2) p V).take (p+V.length+X2.length)=C.take p++V++X2:=by
 have hl:(splice C (p+V.length) X2).length=C.length:=length_splice _ _ _ hC;conv=>lhs;unfold splice
 have e1:(splice C (p+V.length) X2).take p=C.take p:=splice_head _ _ _ _ om_ om_;have e2:(splice C (p+V.length) X2).drop (p+V.length)=X2++C.drop (p+V.length+X2.length):=splice_drop _ _ _ om_;unfold splice at e1 e2;rw[e1,e2];have h3:(C.take p++V++X2).length=p+V.length+X2.length:=by simp;omega
 rw[show C.take p++(V++(X2++C.drop (p+V.length+X2.length)))=(C.take p++V++X2)++C.drop (p+V.length+X2.length) by simp,<-h3];exact List.take_left
end rows
end Go.Proofs.YtogfefdlffmioaaGreat
