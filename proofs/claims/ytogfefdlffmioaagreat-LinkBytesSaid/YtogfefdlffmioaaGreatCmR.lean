/- Contracts and lemmas that claims of this seat share: StepMem. Each says its own conditions. -/
import Derived.Test.YtogfefdlffmioaaGreatCmWord
import Derived.Test.YtogfefdlffmioaaGreatCmD
import Derived.Test.YtogfefdlffmioaaGreatCmP
import Derived.Test.YtogfefdlffmioaaGreatCmQ
set_option linter.unusedVariables false
namespace Go.Proofs.YtogfefdlffmioaaGreat
open Go.Proofs.Tryz
theorem t137{P:Prop}(h:P:=by
 have hg:decide (n≥lo)=true:=decide_eq_true h1;go_enter func74,ntmps74
 exact t13):P:=h
theorem t74{P:Prop}(h:P:=by
 go_enter func67,ntmps67;go_wp2;go_ret;exact⟨_,_,rfl,.inr ⟨_,rfl,Block.new w 115 (insV [0])⟩,newB _ _⟩):P:=h
theorem t71{P:Prop}(h:P:=by
 go_enter func67,ntmps67;go_wp2;go_ret;exact⟨_,_,rfl,.inr ⟨_,rfl,Block.new w 115 (insV [0,11])⟩,newB _ _⟩):P:=h
theorem t70{P:Prop}(h:P:=by
 go_enter func67,ntmps67;go_wp2;go_ret;exact⟨_,_,rfl,.inr ⟨_,rfl,Block.new w 115 (insV [0,2,9])⟩,newB _ _⟩):P:=h
theorem t69{P:Prop}(h:P:=by
 go_enter func67,ntmps67;go_wp2;go_ret;exact⟨_,_,rfl,.inr ⟨_,rfl,Block.new w 115 (insV [0,1,8])⟩,newB _ _⟩):P:=h
theorem t68{P:Prop}(h:P:=by
 go_enter func67,ntmps67;go_wp2;go_ret;exact⟨_,_,rfl,.inr ⟨_,rfl,Block.new w 115 (insV [0,1,3])⟩,newB _ _⟩):P:=h
theorem t67{P:Prop}(h:P:=by
 go_enter func67,ntmps67;go_wp2;go_ret;exact⟨_,_,rfl,.inr ⟨_,rfl,Block.new w 115 (insV [0,1,2])⟩,newB _ _⟩):P:=h
namespace step
open Go.RowKit
open field (Gives newB gives_from)
theorem within_any(n lo hi:Int)(w:World):Calls prog 104 #[.int .i64 n,.int .i64 lo,.int .i64 hi] w (Gives (.bool (decide (lo<=n/\n<=hi))) w):=by
 obtain⟨v,hv⟩:∃v:Bool,Hid (decide (lo<=n/\n<=hi)=v):=⟨_,rfl⟩;rw[hv.o];unfold Gives;by_cases h1:lo<=n
 ·by_cases h2:n<=hi
  ·obtain rfl:true=v:=by rw[<-hv.o];simp[h1,h2]
   skip;go_enter func104,ntmps104
   exact t13
  ·obtain rfl:false=v:=by rw[<-hv.o];simp[h1,h2]
   have hd:decide (n<=hi)=false:=decide_eq_false h2;skip;go_enter func104,ntmps104
   exact t13
 ·obtain rfl:false=v:=by rw[<-hv.o];simp[h1]
  have hd:decide (lo<=n)=false:=decide_eq_false h1;go_enter func104,ntmps104
  exact t13
theorem between_any(n lo hi:Int)(w:World):Calls prog 74 #[.int .i64 n,.int .i64 lo,.int .i64 hi] w (Gives (.bool (decide (lo<=n/\n<=hi))) w):=by
 obtain⟨v,hv⟩:∃v:Bool,Hid (decide (lo<=n/\n<=hi)=v):=⟨_,rfl⟩;rw[hv.o];unfold Gives;by_cases h1:lo<=n
 ·by_cases h2:n<=hi
  ·obtain rfl:true=v:=by rw[<-hv.o];simp[h1,h2]
   exact t137
  ·obtain rfl:false=v:=by rw[<-hv.o];simp[h1,h2]
   have hd:decide (n<=hi)=false:=decide_eq_false h2
   exact t137
 ·obtain rfl:false=v:=by rw[<-hv.o];simp[h1]
  have hd:decide (n≥lo)=false:=decide_eq_false h1;go_enter func74,ntmps74
  exact t13
def insV(l:List Int):List Value:=l.map fun n=>Value.int .i64 n
def memI(op:Int):List Int:=(mem op).map fun m:Nat=>(m:Int)
theorem memI_len(op:Int):(memI op).length=(mem op).length:=List.length_map _
theorem memI_at{op:Int}{k:Nat}{m:Nat}(h:(mem op)[k]?=some m):(memI op)[k]?=some (m:Int):=by simp[memI,h]
def MRow(w:World)(a:Option Addr)(op:Int):Prop:=mem op=[]\/∃g,a=some ⟨g,0,none⟩/\Block w g 115 (insV (memI op))
theorem MRow.ins{w:World}{a:Option Addr}{op:Int}(h:MRow w a op):Ins w a (memI op):=by
 rcases h with h | ⟨g,rfl,hB⟩
 ·exact .inl (by unfold memI;rw[h];rfl)
 ·refine .inr ⟨g,0,rfl,hB.lt,fun i n hi=> ?_⟩;rw[Nat.zero_add,hB.cell];simp[insV,hi]
def Members(op:Int)(w:World)(e:Ending)(w':World):Prop:=∃(a:Option Addr) (c:Nat),e=.returned (.slice a (mem op).length c)/\MRow w' a op/\Below w.heap.size w w'
set_option maxHeartbeats 1600000 in
theorem members_any(op:Int)(w:World):Calls prog 67 #[.int .i64 op] w (Members op w):=by
 unfold Members;rcases ops op with h | h
 ·rcases h with rfl | rfl | rfl | rfl | rfl | rfl | rfl | rfl | rfl | rfl | rfl | rfl | rfl | rfl | rfl | rfl | rfl | rfl | rfl | rfl
  ·exact t70
  ·exact t70
  ·go_enter func67,ntmps67;go_wp2;go_ret;exact⟨_,_,rfl,.inr ⟨_,rfl,Block.new w 115 (insV [0,1,10])⟩,newB _ _⟩
  ·exact t69
  ·exact t69
  ·go_enter func67,ntmps67;go_wp2;go_ret;exact⟨_,_,rfl,.inr ⟨_,rfl,Block.new w 115 (insV [0,1,5])⟩,newB _ _⟩
  ·go_enter func67,ntmps67;go_wp2;go_ret;exact⟨_,_,rfl,.inr ⟨_,rfl,Block.new w 115 (insV [0,1,5,8])⟩,newB _ _⟩
  ·go_enter func67,ntmps67;go_wp2;go_ret;exact⟨_,_,rfl,.inr ⟨_,rfl,Block.new w 115 (insV [0,1,6])⟩,newB _ _⟩
  ·go_enter func67,ntmps67;go_wp2;go_ret;exact⟨_,_,rfl,.inr ⟨_,rfl,Block.new w 115 (insV [0,1,7])⟩,newB _ _⟩
  ·go_enter func67,ntmps67;go_wp2;go_ret;exact⟨_,_,rfl,.inr ⟨_,rfl,Block.new w 115 (insV [0,1,4,3])⟩,newB _ _⟩
  ·go_enter func67,ntmps67;go_wp2;go_ret;exact⟨_,_,rfl,.inr ⟨_,rfl,Block.new w 115 (insV [0,1,4,3,8])⟩,newB _ _⟩
  ·exact t67
  ·exact t67
  ·exact t68
  ·exact t68
  ·exact t71
  ·exact t71
  ·exact t74
  ·exact t74
  ·go_enter func67,ntmps67;go_wp2;go_ret;exact⟨_,_,rfl,.inr ⟨_,rfl,Block.new w 115 (insV [0,1])⟩,newB _ _⟩
 ·have hm:=(mem_none h).1;obtain⟨L,hL⟩:∃L,Hid (mem op=L):=⟨_,rfl⟩;have hI:∀W,MRow W none op:=fun W=>.inl hm
  rw[hm];obtain⟨n0,n1,n2,n3,n4,n5,n6,n7,n8,n9,n10,n11,n12,n13,n14,n15,n16,n17,n18,n19⟩:=h;have d0:(op == 1)=false:=by simpa using n0
  have d1:(op == 22)=false:=by simpa using n1
  have d2:(op == 2)=false:=by simpa using n2
  have d3:(op == 3)=false:=by simpa using n3
  have d4:(op == 23)=false:=by simpa using n4
  have d5:(op == 4)=false:=by simpa using n5
  have d6:(op == 24)=false:=by simpa using n6
  have d7:(op == 5)=false:=by simpa using n7
  have d8:(op == 25)=false:=by simpa using n8
  have d9:(op == 6)=false:=by simpa using n9
  have d10:(op == 26)=false:=by simpa using n10
  have d11:(op == 7)=false:=by simpa using n11
  have d12:(op == 27)=false:=by simpa using n12
  have d13:(op == 8)=false:=by simpa using n13
  have d14:(op == 28)=false:=by simpa using n14
  have d15:(op == 9)=false:=by simpa using n15
  have d16:(op == 30)=false:=by simpa using n16
  have d17:(op == 10)=false:=by simpa using n17
  have d18:(op == 29)=false:=by simpa using n18
  have d19:(op == 21)=false:=by simpa using n19
  clear hm hL n0 n1 n2 n3 n4 n5 n6 n7 n8 n9 n10 n11 n12 n13 n14 n15 n16 n17 n18 n19;go_enter func67,ntmps67;go_wp2;go_ret;exact⟨_,_,rfl,hI _,Below.refl _ _⟩
def usesS(op:Int):ByteArray:=texts.strL (uses op)
set_option maxHeartbeats 1600000 in
theorem uses_any(op:Int)(w:World):Calls prog 72 #[.int .i64 op] w (Gives (.string (usesS op)) w):=by
 unfold Gives;rcases ops op with h | h
 ·rcases h with rfl | rfl | rfl | rfl | rfl | rfl | rfl | rfl | rfl | rfl | rfl | rfl | rfl | rfl | rfl | rfl | rfl | rfl | rfl | rfl <;>
  ·go_enter func72,ntmps72
   exact t13
 ·have hm:usesS op=⟨#[]⟩:=by unfold usesS;rw[(mem_none h).2];rfl
  rw[hm];obtain⟨n0,n1,n2,n3,n4,n5,n6,n7,n8,n9,n10,n11,n12,n13,n14,n15,n16,n17,n18,n19⟩:=h;have d0:(op == 1)=false:=by simpa using n0
  have d1:(op == 22)=false:=by simpa using n1
  have d2:(op == 2)=false:=by simpa using n2
  have d3:(op == 3)=false:=by simpa using n3
  have d4:(op == 23)=false:=by simpa using n4
  have d5:(op == 4)=false:=by simpa using n5
  have d6:(op == 24)=false:=by simpa using n6
  have d7:(op == 5)=false:=by simpa using n7
  have d8:(op == 25)=false:=by simpa using n8
  have d9:(op == 6)=false:=by simpa using n9
  have d10:(op == 26)=false:=by simpa using n10
  have d11:(op == 7)=false:=by simpa using n11
  have d12:(op == 27)=false:=by simpa using n12
  have d13:(op == 8)=false:=by simpa using n13
  have d14:(op == 28)=false:=by simpa using n14
  have d15:(op == 9)=false:=by simpa using n15
  have d16:(op == 30)=false:=by simpa using n16
  have d17:(op == 10)=false:=by simpa using n17
  have d18:(op == 29)=false:=by simpa using n18
  have d19:(op == 21)=false:=by simpa using n19
  clear hm n0 n1 n2 n3 n4 n5 n6 n7 n8 n9 n10 n11 n12 n13 n14 n15 n16 n17 n18 n19;go_enter func72,ntmps72
  exact t13
end step
end Go.Proofs.YtogfefdlffmioaaGreat
