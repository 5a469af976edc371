/- Contracts and lemmas that claims of this seat share: StepMem. Each says its own conditions. -/
import Derived.Test.YtogfefdlffmioaaCmWord
import Derived.Test.YtogfefdlffmioaaCmK
import Derived.Test.YtogfefdlffmioaaCmP
import Derived.Test.YtogfefdlffmioaaCmQ
set_option linter.unusedVariables false
namespace Go.Proofs.Ytogfefdlffmioaa
open Go.Proofs.Try
theorem t124{P:Prop}(h:P:=by
 have hg:decide (n≥lo)=true:=decide_eq_true h1;go_enter func69,ntmps69
 exact t12):P:=h
theorem t67{P:Prop}(h:P:=by
 go_enter func61,ntmps61;go_wp2;go_ret;exact⟨_,_,rfl,.inr ⟨_,rfl,Block.new w 100 (kS [0])⟩,aI _ _⟩):P:=h
theorem t63{P:Prop}(h:P:=by
 go_enter func61,ntmps61;go_wp2;go_ret;exact⟨_,_,rfl,.inr ⟨_,rfl,Block.new w 100 (kS [0,11])⟩,aI _ _⟩):P:=h
theorem t61{P:Prop}(h:P:=by
 go_enter func61,ntmps61;go_wp2;go_ret;exact⟨_,_,rfl,.inr ⟨_,rfl,Block.new w 100 (kS [0,2,9])⟩,aI _ _⟩):P:=h
theorem t60{P:Prop}(h:P:=by
 go_enter func61,ntmps61;go_wp2;go_ret;exact⟨_,_,rfl,.inr ⟨_,rfl,Block.new w 100 (kS [0,1,8])⟩,aI _ _⟩):P:=h
theorem t59{P:Prop}(h:P:=by
 go_enter func61,ntmps61;go_wp2;go_ret;exact⟨_,_,rfl,.inr ⟨_,rfl,Block.new w 100 (kS [0,1,3])⟩,aI _ _⟩):P:=h
theorem t58{P:Prop}(h:P:=by
 go_enter func61,ntmps61;go_wp2;go_ret;exact⟨_,_,rfl,.inr ⟨_,rfl,Block.new w 100 (kS [0,1,2])⟩,aI _ _⟩):P:=h
namespace step
open Go.RowKit
open field (Gives aI ay)
theorem dY(n lo hi:Int)(w:World):Calls prog 83 #[.int .i64 n,.int .i64 lo,.int .i64 hi] w (Gives (.bool (decide (lo<=n/\n<=hi))) w):=by
 obtain⟨v,hv⟩:∃v:Bool,Hid (decide (lo<=n/\n<=hi)=v):=⟨_,rfl⟩;rw[hv.o];unfold Gives;by_cases h1:lo<=n
 ·by_cases h2:n<=hi
  ·obtain rfl:true=v:=by rw[<-hv.o];simp[h1,h2]
   skip;go_enter func83,ntmps83
   exact t12
  ·obtain rfl:false=v:=by rw[<-hv.o];simp[h1,h2]
   have hd:decide (n<=hi)=false:=decide_eq_false h2;skip;go_enter func83,ntmps83
   exact t12
 ·obtain rfl:false=v:=by rw[<-hv.o];simp[h1]
  have hd:decide (lo<=n)=false:=decide_eq_false h1;go_enter func83,ntmps83
  exact t12
theorem fC(n lo hi:Int)(w:World):Calls prog 69 #[.int .i64 n,.int .i64 lo,.int .i64 hi] w (Gives (.bool (decide (lo<=n/\n<=hi))) w):=by
 obtain⟨v,hv⟩:∃v:Bool,Hid (decide (lo<=n/\n<=hi)=v):=⟨_,rfl⟩;rw[hv.o];unfold Gives;by_cases h1:lo<=n
 ·by_cases h2:n<=hi
  ·obtain rfl:true=v:=by rw[<-hv.o];simp[h1,h2]
   exact t124
  ·obtain rfl:false=v:=by rw[<-hv.o];simp[h1,h2]
   have hd:decide (n<=hi)=false:=decide_eq_false h2
   exact t124
 ·obtain rfl:false=v:=by rw[<-hv.o];simp[h1]
  have hd:decide (n≥lo)=false:=decide_eq_false h1;go_enter func69,ntmps69
  exact t12
def kS(l:List Int):List Value:=l.map fun n=>Value.int .i64 n
def AP(op:Int):List Int:=(mem op).map fun m:Nat=>(m:Int)
theorem Fb(op:Int):(AP op).length=(mem op).length:=List.length_map _
theorem GY{op:Int}{k:Nat}{m:Nat}(h:(mem op)[k]?=some m):(AP op)[k]?=some (m:Int):=by simp[AP,h]
def sN(w:World)(a:Option Addr)(op:Int):Prop:=mem op=[]\/∃g,a=some ⟨g,0,none⟩/\Block w g 100 (kS (AP op))
theorem sN.ins{w:World}{a:Option Addr}{op:Int}(h:sN w a op):Ins w a (AP op):=by
 rcases h with h | ⟨g,rfl,hB⟩
 ·exact .inl (by unfold AP;rw[h];rfl)
 ·refine .inr ⟨g,0,rfl,hB.lt,fun i n hi=> ?_⟩;rw[Nat.zero_add,hB.cell];simp[kS,hi]
def qj(op:Int)(w:World)(e:Ending)(w':World):Prop:=∃(a:Option Addr) (c:Nat),e=.returned (.slice a (mem op).length c)/\sN w' a op/\Below w.heap.size w w'
set_option maxHeartbeats 1600000 in
theorem og(op:Int)(w:World):Calls prog 61 #[.int .i64 op] w (qj op w):=by
 unfold qj;rcases ops op with h | h
 ·rcases h with rfl | rfl | rfl | rfl | rfl | rfl | rfl | rfl | rfl | rfl | rfl | rfl | rfl | rfl | rfl | rfl | rfl | rfl | rfl | rfl
  ·exact t61
  ·exact t61
  ·go_enter func61,ntmps61;go_wp2;go_ret;exact⟨_,_,rfl,.inr ⟨_,rfl,Block.new w 100 (kS [0,1,10])⟩,aI _ _⟩
  ·exact t60
  ·exact t60
  ·go_enter func61,ntmps61;go_wp2;go_ret;exact⟨_,_,rfl,.inr ⟨_,rfl,Block.new w 100 (kS [0,1,5])⟩,aI _ _⟩
  ·go_enter func61,ntmps61;go_wp2;go_ret;exact⟨_,_,rfl,.inr ⟨_,rfl,Block.new w 100 (kS [0,1,5,8])⟩,aI _ _⟩
  ·go_enter func61,ntmps61;go_wp2;go_ret;exact⟨_,_,rfl,.inr ⟨_,rfl,Block.new w 100 (kS [0,1,6])⟩,aI _ _⟩
  ·go_enter func61,ntmps61;go_wp2;go_ret;exact⟨_,_,rfl,.inr ⟨_,rfl,Block.new w 100 (kS [0,1,7])⟩,aI _ _⟩
  ·go_enter func61,ntmps61;go_wp2;go_ret;exact⟨_,_,rfl,.inr ⟨_,rfl,Block.new w 100 (kS [0,1,4,3])⟩,aI _ _⟩
  ·go_enter func61,ntmps61;go_wp2;go_ret;exact⟨_,_,rfl,.inr ⟨_,rfl,Block.new w 100 (kS [0,1,4,3,8])⟩,aI _ _⟩
  ·exact t58
  ·exact t58
  ·exact t59
  ·exact t59
  ·exact t63
  ·exact t63
  ·exact t67
  ·exact t67
  ·go_enter func61,ntmps61;go_wp2;go_ret;exact⟨_,_,rfl,.inr ⟨_,rfl,Block.new w 100 (kS [0,1])⟩,aI _ _⟩
 ·have hm:=(nZ h).1;obtain⟨L,hL⟩:∃L,Hid (mem op=L):=⟨_,rfl⟩;have hI:∀W,sN W none op:=fun W=>.inl hm
  rw[hm];obtain⟨n0,n1,n2,n3,n4,n5,n6,n7,n8,n9,n10,n11,n12,n13,n14,n15,n16,n17,n18,n19⟩:=h;have d0:(op == 1)=false:=by simpa using n0
  have d1:(op == 22)=false:=by simpa using n1
  have d2:(op == 2)=false:=by simpa using n2
  have d3:(op == 3)=false:=by simpa using n3
  have d4:(op == 23)=false:=by simpa using n4
  have d5:(op == 4)=false:=by simpa using n5
  have d6:(op == 24)=false:=by simpa using n6
  have d7:(op == 5)=false:=by simpa using n7
  have d8:(op == 25)=false:=by simpa using n8
  have d9:(op == 6)=false:=by simpa using n9
  have d10:(op == 26)=false:=by simpa using n10
  have d11:(op == 7)=false:=by simpa using n11
  have d12:(op == 27)=false:=by simpa using n12
  have d13:(op == 8)=false:=by simpa using n13
  have U4:(op == 28)=false:=by simpa using n14
  have U5:(op == 9)=false:=by simpa using n15
  have U6:(op == 30)=false:=by simpa using n16
  have U7:(op == 10)=false:=by simpa using n17
  have U8:(op == 29)=false:=by simpa using n18
  have U9:(op == 21)=false:=by simpa using n19
  clear hm hL n0 n1 n2 n3 n4 n5 n6 n7 n8 n9 n10 n11 n12 n13 n14 n15 n16 n17 n18 n19;go_enter func61,ntmps61;go_wp2;go_ret;exact⟨_,_,rfl,hI _,Below.refl _ _⟩
def qP(op:Int):ByteArray:=texts.kT (uses op)
set_option maxHeartbeats 1600000 in
theorem zQ(op:Int)(w:World):Calls prog 67 #[.int .i64 op] w (Gives (.string (qP op)) w):=by
 unfold Gives;rcases ops op with h | h
 ·rcases h with rfl | rfl | rfl | rfl | rfl | rfl | rfl | rfl | rfl | rfl | rfl | rfl | rfl | rfl | rfl | rfl | rfl | rfl | rfl | rfl <;>
  ·go_enter func67,ntmps67
   exact t12
 ·have hm:qP op=⟨#[]⟩:=by unfold qP;rw[(nZ h).2];rfl
  rw[hm];obtain⟨n0,n1,n2,n3,n4,n5,n6,n7,n8,n9,n10,n11,n12,n13,n14,n15,n16,n17,n18,n19⟩:=h;have d0:(op == 1)=false:=by simpa using n0
  have d1:(op == 22)=false:=by simpa using n1
  have d2:(op == 2)=false:=by simpa using n2
  have d3:(op == 3)=false:=by simpa using n3
  have d4:(op == 23)=false:=by simpa using n4
  have d5:(op == 4)=false:=by simpa using n5
  have d6:(op == 24)=false:=by simpa using n6
  have d7:(op == 5)=false:=by simpa using n7
  have d8:(op == 25)=false:=by simpa using n8
  have d9:(op == 6)=false:=by simpa using n9
  have d10:(op == 26)=false:=by simpa using n10
  have d11:(op == 7)=false:=by simpa using n11
  have d12:(op == 27)=false:=by simpa using n12
  have d13:(op == 8)=false:=by simpa using n13
  have U4:(op == 28)=false:=by simpa using n14
  have U5:(op == 9)=false:=by simpa using n15
  have U6:(op == 30)=false:=by simpa using n16
  have U7:(op == 10)=false:=by simpa using n17
  have U8:(op == 29)=false:=by simpa using n18
  have U9:(op == 21)=false:=by simpa using n19
  clear hm n0 n1 n2 n3 n4 n5 n6 n7 n8 n9 n10 n11 n12 n13 n14 n15 n16 n17 n18 n19;go_enter func67,ntmps67
  exact t12
end step
end Go.Proofs.Ytogfefdlffmioaa
