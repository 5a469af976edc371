/- Contracts and lemmas that claims of this seat share: StepMem. Each says its own conditions. -/
import Derived.Test.YtogkgbnpodojjaaGreatCmWord
import Derived.Test.YtogkgbnpodojjaaGreatCmE
import Derived.Test.YtogkgbnpodojjaaGreatCmG
import Derived.Test.YtogkgbnpodojjaaGreatCmF
set_option linter.unusedVariables false
namespace Go.Proofs.YtogkgbnpodojjaaGreat
open Go.Proofs.Tryz
theorem t90{P:Prop}(h:P:=by
 go_enter func185,ntmps185;go_wp2;go_ret;exact ⟨_,_,rfl,.inr ⟨_,rfl,Block.new w 226 (kz [0])⟩,ak _ _⟩):P:=h
theorem t88{P:Prop}(h:P:=by
 go_enter func185,ntmps185;go_wp2;go_ret;exact ⟨_,_,rfl,.inr ⟨_,rfl,Block.new w 226 (kz [0,11])⟩,ak _ _⟩):P:=h
theorem t86{P:Prop}(h:P:=by
 go_enter func185,ntmps185;go_wp2;go_ret;exact ⟨_,_,rfl,.inr ⟨_,rfl,Block.new w 226 (kz [0,2,9])⟩,ak _ _⟩):P:=h
theorem t85{P:Prop}(h:P:=by
 go_enter func185,ntmps185;go_wp2;go_ret;exact ⟨_,_,rfl,.inr ⟨_,rfl,Block.new w 226 (kz [0,1,8])⟩,ak _ _⟩):P:=h
theorem t84{P:Prop}(h:P:=by
 go_enter func185,ntmps185;go_wp2;go_ret;exact ⟨_,_,rfl,.inr ⟨_,rfl,Block.new w 226 (kz [0,1,3])⟩,ak _ _⟩):P:=h
theorem t83{P:Prop}(h:P:=by
 go_enter func185,ntmps185;go_wp2;go_ret;exact ⟨_,_,rfl,.inr ⟨_,rfl,Block.new w 226 (kz [0,1,2])⟩,ak _ _⟩):P:=h
namespace step
open Go.RowKit
open field (Gives ak aj)
theorem dK (n lo hi:Int) (w:World):Calls prog 215 #[.int .i64 n,.int .i64 lo,.int .i64 hi] w (Gives (.bool (decide (lo<=n/\n<=hi))) w):=by
 obtain ⟨v,hv⟩:∃v:Bool,Hid (decide (lo<=n/\n<=hi)=v):=⟨_,rfl⟩;rw [hv.o];unfold Gives;by_cases h1:lo<=n
 ·by_cases h2:n<=hi
  ·obtain rfl:true=v:=by rw [<-hv.o];simp [h1,h2]
   skip;go_enter func215,ntmps215
   exact t28
  ·obtain rfl:false=v:=by rw [<-hv.o];simp [h1,h2]
   have hd:decide (n<=hi)=false:=decide_eq_false h2;skip;go_enter func215,ntmps215
   exact t28
 ·obtain rfl:false=v:=by rw [<-hv.o];simp [h1]
  have hd:decide (lo<=n)=false:=decide_eq_false h1;go_enter func215,ntmps215
  exact t28
def kz (l:List Int):List Value:=l.map fun n=>Value.int .i64 n
def BV (op:Int):List Int:=(mem op).map fun m:Nat=>(m:Int)
theorem GI (op:Int):(BV op).length=(mem op).length:=List.length_map _
theorem IW {op:Int} {k:Nat} {m:Nat} (h:(mem op)[k]?=some m):(BV op)[k]?=some (m:Int):=by simp [BV,h]
def Il (w:World) (a:Option Addr) (op:Int):Prop:=mem op=[]\/∃g,a=some ⟨g,0,none⟩/\Block w g 226 (kz (BV op))
theorem Il.ins {w:World} {a:Option Addr} {op:Int} (h:Il w a op):Ins w a (BV op):=by
 rcases h with h | ⟨g,rfl,hB⟩
 ·exact .inl (by unfold BV;rw [h];rfl)
 ·refine .inr ⟨g,0,rfl,hB.lt,fun i n hi=> ?_⟩;rw [Nat.zero_add,hB.cell];simp [kz,hi]
def xY (op:Int) (w:World) (e:Ending) (w':World):Prop:=∃(a:Option Addr) (c:Nat),e=.returned (.slice a (mem op).length c)/\Il w' a op/\Below w.heap.size w w'
set_option maxHeartbeats 1600000 in
theorem Am (op:Int) (w:World):Calls prog 185 #[.int .i64 op] w (xY op w):=by
 unfold xY;rcases ops op with h | h
 ·rcases h with rfl | rfl | rfl | rfl | rfl | rfl | rfl | rfl | rfl | rfl | rfl | rfl | rfl | rfl | rfl | rfl | rfl | rfl | rfl | rfl
  ·exact t86
  ·exact t86
  ·go_enter func185,ntmps185;go_wp2;go_ret;exact ⟨_,_,rfl,.inr ⟨_,rfl,Block.new w 226 (kz [0,1,10])⟩,ak _ _⟩
  ·exact t85
  ·exact t85
  ·go_enter func185,ntmps185;go_wp2;go_ret;exact ⟨_,_,rfl,.inr ⟨_,rfl,Block.new w 226 (kz [0,1,5])⟩,ak _ _⟩
  ·go_enter func185,ntmps185;go_wp2;go_ret;exact ⟨_,_,rfl,.inr ⟨_,rfl,Block.new w 226 (kz [0,1,5,8])⟩,ak _ _⟩
  ·go_enter func185,ntmps185;go_wp2;go_ret;exact ⟨_,_,rfl,.inr ⟨_,rfl,Block.new w 226 (kz [0,1,6])⟩,ak _ _⟩
  ·go_enter func185,ntmps185;go_wp2;go_ret;exact ⟨_,_,rfl,.inr ⟨_,rfl,Block.new w 226 (kz [0,1,7])⟩,ak _ _⟩
  ·go_enter func185,ntmps185;go_wp2;go_ret;exact ⟨_,_,rfl,.inr ⟨_,rfl,Block.new w 226 (kz [0,1,4,3])⟩,ak _ _⟩
  ·go_enter func185,ntmps185;go_wp2;go_ret;exact ⟨_,_,rfl,.inr ⟨_,rfl,Block.new w 226 (kz [0,1,4,3,8])⟩,ak _ _⟩
  ·exact t83
  ·exact t83
  ·exact t84
  ·exact t84
  ·exact t88
  ·exact t88
  ·exact t90
  ·exact t90
  ·go_enter func185,ntmps185;go_wp2;go_ret;exact ⟨_,_,rfl,.inr ⟨_,rfl,Block.new w 226 (kz [0,1])⟩,ak _ _⟩
 ·have hm:=(nC h).1;obtain ⟨L,hL⟩:∃L,Hid (mem op=L):=⟨_,rfl⟩;have hI:∀W,Il W none op:=fun W=>.inl hm
  rw [hm];obtain ⟨n0,n1,n2,n3,n4,n5,n6,n7,n8,n9,n10,n11,n12,n13,n14,n15,n16,n17,n18,n19⟩:=h;have d0:(op == 1)=false:=by simpa using n0
  have d1:(op == 22)=false:=by simpa using n1
  have d2:(op == 2)=false:=by simpa using n2
  have d3:(op == 3)=false:=by simpa using n3
  have d4:(op == 23)=false:=by simpa using n4
  have d5:(op == 4)=false:=by simpa using n5
  have d6:(op == 24)=false:=by simpa using n6
  have d7:(op == 5)=false:=by simpa using n7
  have d8:(op == 25)=false:=by simpa using n8
  have d9:(op == 6)=false:=by simpa using n9
  have d10:(op == 26)=false:=by simpa using n10
  have d11:(op == 7)=false:=by simpa using n11
  have d12:(op == 27)=false:=by simpa using n12
  have d13:(op == 8)=false:=by simpa using n13
  have d14:(op == 28)=false:=by simpa using n14
  have d15:(op == 9)=false:=by simpa using n15
  have d16:(op == 30)=false:=by simpa using n16
  have d17:(op == 10)=false:=by simpa using n17
  have d18:(op == 29)=false:=by simpa using n18
  have d19:(op == 21)=false:=by simpa using n19
  clear hm hL n0 n1 n2 n3 n4 n5 n6 n7 n8 n9 n10 n11 n12 n13 n14 n15 n16 n17 n18 n19;go_enter func185,ntmps185;go_wp2;go_ret;exact ⟨_,_,rfl,hI _,Below.refl _ _⟩
def xU (op:Int):ByteArray:=texts.KG (uses op)
set_option maxHeartbeats 1600000 in
theorem Ic (op:Int) (w:World):Calls prog 130 #[.int .i64 op] w (Gives (.string (xU op)) w):=by
 unfold Gives;rcases ops op with h | h
 ·rcases h with rfl | rfl | rfl | rfl | rfl | rfl | rfl | rfl | rfl | rfl | rfl | rfl | rfl | rfl | rfl | rfl | rfl | rfl | rfl | rfl <;>
  ·go_enter func130,ntmps130
   exact t28
 ·have hm:xU op=⟨#[]⟩:=by unfold xU;rw [(nC h).2];rfl
  rw [hm];obtain ⟨n0,n1,n2,n3,n4,n5,n6,n7,n8,n9,n10,n11,n12,n13,n14,n15,n16,n17,n18,n19⟩:=h;have d0:(op == 1)=false:=by simpa using n0
  have d1:(op == 22)=false:=by simpa using n1
  have d2:(op == 2)=false:=by simpa using n2
  have d3:(op == 3)=false:=by simpa using n3
  have d4:(op == 23)=false:=by simpa using n4
  have d5:(op == 4)=false:=by simpa using n5
  have d6:(op == 24)=false:=by simpa using n6
  have d7:(op == 5)=false:=by simpa using n7
  have d8:(op == 25)=false:=by simpa using n8
  have d9:(op == 6)=false:=by simpa using n9
  have d10:(op == 26)=false:=by simpa using n10
  have d11:(op == 7)=false:=by simpa using n11
  have d12:(op == 27)=false:=by simpa using n12
  have d13:(op == 8)=false:=by simpa using n13
  have d14:(op == 28)=false:=by simpa using n14
  have d15:(op == 9)=false:=by simpa using n15
  have d16:(op == 30)=false:=by simpa using n16
  have d17:(op == 10)=false:=by simpa using n17
  have d18:(op == 29)=false:=by simpa using n18
  have d19:(op == 21)=false:=by simpa using n19
  clear hm n0 n1 n2 n3 n4 n5 n6 n7 n8 n9 n10 n11 n12 n13 n14 n15 n16 n17 n18 n19;go_enter func130,ntmps130
  exact t28
end step
end Go.Proofs.YtogkgbnpodojjaaGreat
