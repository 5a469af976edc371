/- Contracts and lemmas that claims of this seat share: FieldPush. Each says its own conditions. -/
import Derived.Test.YtogfefdlffmioaaGreatCmWord
import Derived.Conc.WalkWords
import Derived.Test.YtogfefdlffmioaaGreatCmQ
import Derived.Test.YtogfefdlffmioaaGreatCmL
set_option linter.unusedVariables false
namespace Go.Proofs.YtogfefdlffmioaaGreat
open Go.Proofs.Tryz
namespace schema
open Go.RowKit
theorem exec_push_fd{o:Oper}{a:Act}{w:World}{x y:Operand}{u:Value}{B n g:Nat}{L:List field.Fd}{p:field.Fd}
  (ho:o.op=.call { callee:=.builtin .append,args:=#[x,y],argTypes:=#[41,41]})
  (hown:w.ownsRow B 79 5 u n (fdV L)) (hb:Block w g 79 (fdC p)) (hn:n<=1000) (hB:B<=w.heap.size) (hx:a.eval x=u:=by kernel_rfl) (hy:a.eval y=.slice (some ⟨g,0,none⟩) 1 1:=by kernel_rfl):
  ∃q w',(execOp a.eval o).run prog w=.ok (.value q) w'/\w'.ownsRow B 79 5 q (n+1) (fdV (L++[p]))/\w.grownBy w' u.ownBlock:=by
 obtain⟨i0,hi,hz0,hz1,hz2⟩:=fd_info_parts;obtain⟨q,w',h1,h2,h3⟩:=exec_push (sz:=5) (bytes:=40) underlying41 hi hz0 hz1 hz2 (by simp[Value.cells]) om_ ho hx hy hown (news:=fdC p) rfl (fun j v hj=>(hb.cell j).trans hj) (by have:=fdV_one [p];simpa[fdV] using this) om_ om_ hB;exact⟨q,w',h1,by rw[fdV_append];simpa[fdV] using h2,h3⟩
theorem exec_put_fd{o:Oper}{a:Act}{w:World}{x y:Operand}{ad:Addr}{v:Value}{p:Option Addr}{n c:Nat}(ho:o.op=.store 41 x y)(hc:w.cell? ad=some v)(hf:w.frozen? ad=false)(hx:a.eval x=.pointer (some ad):=by kernel_rfl)(hy:a.eval y=.slice p n c:=by kernel_rfl):(execOp a.eval o).run prog w=.ok .skip (w.setCell ad (.slice p n c)):=by
 unfold execOp;rw[ho];simp only[hx,hy];go_simp
end schema
end Go.Proofs.YtogfefdlffmioaaGreat
