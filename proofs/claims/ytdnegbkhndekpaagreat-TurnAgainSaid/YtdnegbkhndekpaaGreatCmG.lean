/- Contracts and lemmas that claims of this seat share: StepMem, StepTable, FieldsSame, SchemaExecF, StepHas, FormRow, CloneOwn, TypingCloned, TurnMath, StepRow, StepOwn. Each says its own conditions. -/
import Derived.Test.YtdnegbkhndekpaaGreatCmWord
import Derived.Laws.StructEq
import Derived.Laws.Strings
import Derived.Conc.WalkWords
import Derived.Laws.OwnMore
import Derived.Deep.RegionHeld3
import Derived.Laws.Cover3
import Derived.Test.YtdnegbkhndekpaaGreatCmC
import Derived.Test.YtdnegbkhndekpaaGreatCmE
import Derived.Test.YtdnegbkhndekpaaGreatCmA
import Derived.Test.YtdnegbkhndekpaaGreatCmF
import Derived.Test.YtdnegbkhndekpaaGreatCmB
set_option linter.unusedVariables false
namespace Go.Proofs.YtdnegbkhndekpaaGreat
open Go.Proofs.Tryz
theorem t168{P:Prop}(h:P:=by
 have hg:decide (n≥lo)=true:=decide_eq_true h1;go_enter func64,ntmps64
 exact t23):P:=h
theorem t105{P:Prop}(h:P:=by
 go_enter func112,ntmps112;go_wp2;go_ret;exact ⟨_,_,rfl,.inr ⟨_,rfl,Block.new w 139 (lY [0])⟩,aC _ _⟩):P:=h
theorem t101{P:Prop}(h:P:=by
 go_enter func112,ntmps112;go_wp2;go_ret;exact ⟨_,_,rfl,.inr ⟨_,rfl,Block.new w 139 (lY [0,11])⟩,aC _ _⟩):P:=h
theorem t100{P:Prop}(h:P:=by
 go_enter func112,ntmps112;go_wp2;go_ret;exact ⟨_,_,rfl,.inr ⟨_,rfl,Block.new w 139 (lY [0,2,9])⟩,aC _ _⟩):P:=h
theorem t99{P:Prop}(h:P:=by
 go_enter func112,ntmps112;go_wp2;go_ret;exact ⟨_,_,rfl,.inr ⟨_,rfl,Block.new w 139 (lY [0,1,8])⟩,aC _ _⟩):P:=h
theorem t98{P:Prop}(h:P:=by
 go_enter func112,ntmps112;go_wp2;go_ret;exact ⟨_,_,rfl,.inr ⟨_,rfl,Block.new w 139 (lY [0,1,3])⟩,aC _ _⟩):P:=h
theorem t97{P:Prop}(h:P:=by
 go_enter func112,ntmps112;go_wp2;go_ret;exact ⟨_,_,rfl,.inr ⟨_,rfl,Block.new w 139 (lY [0,1,2])⟩,aC _ _⟩):P:=h
namespace step
open Go.RowKit
open field (Gives aC aj)
theorem fF (n lo hi:Int) (w:World):Calls prog 131 #[.int .i64 n,.int .i64 lo,.int .i64 hi] w (Gives (.bool (decide (lo<=n/\n<=hi))) w):=by
 obtain ⟨v,hv⟩:∃v:Bool,Hid (decide (lo<=n/\n<=hi)=v):=⟨_,rfl⟩;rw [hv.o];unfold Gives;by_cases h1:lo<=n
 ·by_cases h2:n<=hi
  ·obtain rfl:true=v:=by rw [<-hv.o];simp [h1,h2]
   skip;go_enter func131,ntmps131
   exact t23
  ·obtain rfl:false=v:=by rw [<-hv.o];simp [h1,h2]
   have hd:decide (n<=hi)=false:=decide_eq_false h2;skip;go_enter func131,ntmps131
   exact t23
 ·obtain rfl:false=v:=by rw [<-hv.o];simp [h1]
  have hd:decide (lo<=n)=false:=decide_eq_false h1;go_enter func131,ntmps131
  exact t23
theorem fM (n lo hi:Int) (w:World):Calls prog 64 #[.int .i64 n,.int .i64 lo,.int .i64 hi] w (Gives (.bool (decide (lo<=n/\n<=hi))) w):=by
 obtain ⟨v,hv⟩:∃v:Bool,Hid (decide (lo<=n/\n<=hi)=v):=⟨_,rfl⟩;rw [hv.o];unfold Gives;by_cases h1:lo<=n
 ·by_cases h2:n<=hi
  ·obtain rfl:true=v:=by rw [<-hv.o];simp [h1,h2]
   exact t168
  ·obtain rfl:false=v:=by rw [<-hv.o];simp [h1,h2]
   have hd:decide (n<=hi)=false:=decide_eq_false h2
   exact t168
 ·obtain rfl:false=v:=by rw [<-hv.o];simp [h1]
  have hd:decide (n≥lo)=false:=decide_eq_false h1;go_enter func64,ntmps64
  exact t23
def lY (l:List Int):List Value:=l.map fun n=>Value.int .i64 n
def DF (op:Int):List Int:=(mem op).map fun m:Nat=>(m:Int)
theorem Gg (op:Int):(DF op).length=(mem op).length:=List.length_map _
theorem IL {op:Int} {k:Nat} {m:Nat} (h:(mem op)[k]?=some m):(DF op)[k]?=some (m:Int):=by simp [DF,h]
def Iu (w:World) (a:Option Addr) (op:Int):Prop:=mem op=[]\/∃g,a=some ⟨g,0,none⟩/\Block w g 139 (lY (DF op))
theorem Iu.ins {w:World} {a:Option Addr} {op:Int} (h:Iu w a op):Ins w a (DF op):=by
 rcases h with h | ⟨g,rfl,hB⟩
 ·exact .inl (by unfold DF;rw [h];rfl)
 ·refine .inr ⟨g,0,rfl,hB.lt,fun i n hi=> ?_⟩;rw [Nat.zero_add,hB.cell];simp [lY,hi]
def zL (op:Int) (w:World) (e:Ending) (w':World):Prop:=∃(a:Option Addr) (c:Nat),e=.returned (.slice a (mem op).length c)/\Iu w' a op/\Below w.heap.size w w'
set_option maxHeartbeats 1600000 in
theorem Bc (op:Int) (w:World):Calls prog 112 #[.int .i64 op] w (zL op w):=by
 unfold zL;rcases ops op with h | h
 ·rcases h with rfl | rfl | rfl | rfl | rfl | rfl | rfl | rfl | rfl | rfl | rfl | rfl | rfl | rfl | rfl | rfl | rfl | rfl | rfl | rfl
  ·exact t100
  ·exact t100
  ·go_enter func112,ntmps112;go_wp2;go_ret;exact ⟨_,_,rfl,.inr ⟨_,rfl,Block.new w 139 (lY [0,1,10])⟩,aC _ _⟩
  ·exact t99
  ·exact t99
  ·go_enter func112,ntmps112;go_wp2;go_ret;exact ⟨_,_,rfl,.inr ⟨_,rfl,Block.new w 139 (lY [0,1,5])⟩,aC _ _⟩
  ·go_enter func112,ntmps112;go_wp2;go_ret;exact ⟨_,_,rfl,.inr ⟨_,rfl,Block.new w 139 (lY [0,1,5,8])⟩,aC _ _⟩
  ·go_enter func112,ntmps112;go_wp2;go_ret;exact ⟨_,_,rfl,.inr ⟨_,rfl,Block.new w 139 (lY [0,1,6])⟩,aC _ _⟩
  ·go_enter func112,ntmps112;go_wp2;go_ret;exact ⟨_,_,rfl,.inr ⟨_,rfl,Block.new w 139 (lY [0,1,7])⟩,aC _ _⟩
  ·go_enter func112,ntmps112;go_wp2;go_ret;exact ⟨_,_,rfl,.inr ⟨_,rfl,Block.new w 139 (lY [0,1,4,3])⟩,aC _ _⟩
  ·go_enter func112,ntmps112;go_wp2;go_ret;exact ⟨_,_,rfl,.inr ⟨_,rfl,Block.new w 139 (lY [0,1,4,3,8])⟩,aC _ _⟩
  ·exact t97
  ·exact t97
  ·exact t98
  ·exact t98
  ·exact t101
  ·exact t101
  ·exact t105
  ·exact t105
  ·go_enter func112,ntmps112;go_wp2;go_ret;exact ⟨_,_,rfl,.inr ⟨_,rfl,Block.new w 139 (lY [0,1])⟩,aC _ _⟩
 ·have hm:=(qy h).1;obtain ⟨L,hL⟩:∃L,Hid (mem op=L):=⟨_,rfl⟩;have hI:∀W,Iu W none op:=fun W=>.inl hm
  rw [hm];obtain ⟨n0,n1,n2,n3,n4,n5,n6,n7,n8,n9,n10,n11,n12,n13,n14,n15,n16,n17,n18,n19⟩:=h;have d0:(op == 1)=false:=by simpa using n0
  have d1:(op == 22)=false:=by simpa using n1
  have d2:(op == 2)=false:=by simpa using n2
  have d3:(op == 3)=false:=by simpa using n3
  have d4:(op == 23)=false:=by simpa using n4
  have d5:(op == 4)=false:=by simpa using n5
  have d6:(op == 24)=false:=by simpa using n6
  have d7:(op == 5)=false:=by simpa using n7
  have d8:(op == 25)=false:=by simpa using n8
  have d9:(op == 6)=false:=by simpa using n9
  have d10:(op == 26)=false:=by simpa using n10
  have d11:(op == 7)=false:=by simpa using n11
  have d12:(op == 27)=false:=by simpa using n12
  have d13:(op == 8)=false:=by simpa using n13
  have d14:(op == 28)=false:=by simpa using n14
  have d15:(op == 9)=false:=by simpa using n15
  have d16:(op == 30)=false:=by simpa using n16
  have d17:(op == 10)=false:=by simpa using n17
  have d18:(op == 29)=false:=by simpa using n18
  have d19:(op == 21)=false:=by simpa using n19
  clear hm hL n0 n1 n2 n3 n4 n5 n6 n7 n8 n9 n10 n11 n12 n13 n14 n15 n16 n17 n18 n19;go_enter func112,ntmps112;go_wp2;go_ret;exact ⟨_,_,rfl,hI _,Below.refl _ _⟩
def tu (op:Int):ByteArray:=texts.IV (uses op)
set_option maxHeartbeats 1600000 in
theorem zX (op:Int) (w:World):Calls prog 62 #[.int .i64 op] w (Gives (.string (tu op)) w):=by
 unfold Gives;rcases ops op with h | h
 ·rcases h with rfl | rfl | rfl | rfl | rfl | rfl | rfl | rfl | rfl | rfl | rfl | rfl | rfl | rfl | rfl | rfl | rfl | rfl | rfl | rfl <;>
  ·go_enter func62,ntmps62
   exact t23
 ·have hm:tu op=⟨#[]⟩:=by unfold tu;rw [(qy h).2];rfl
  rw [hm];obtain ⟨n0,n1,n2,n3,n4,n5,n6,n7,n8,n9,n10,n11,n12,n13,n14,n15,n16,n17,n18,n19⟩:=h;have d0:(op == 1)=false:=by simpa using n0
  have d1:(op == 22)=false:=by simpa using n1
  have d2:(op == 2)=false:=by simpa using n2
  have d3:(op == 3)=false:=by simpa using n3
  have d4:(op == 23)=false:=by simpa using n4
  have d5:(op == 4)=false:=by simpa using n5
  have d6:(op == 24)=false:=by simpa using n6
  have d7:(op == 5)=false:=by simpa using n7
  have d8:(op == 25)=false:=by simpa using n8
  have d9:(op == 6)=false:=by simpa using n9
  have d10:(op == 26)=false:=by simpa using n10
  have d11:(op == 7)=false:=by simpa using n11
  have d12:(op == 27)=false:=by simpa using n12
  have d13:(op == 8)=false:=by simpa using n13
  have d14:(op == 28)=false:=by simpa using n14
  have d15:(op == 9)=false:=by simpa using n15
  have d16:(op == 30)=false:=by simpa using n16
  have d17:(op == 10)=false:=by simpa using n17
  have d18:(op == 29)=false:=by simpa using n18
  have d19:(op == 21)=false:=by simpa using n19
  clear hm n0 n1 n2 n3 n4 n5 n6 n7 n8 n9 n10 n11 n12 n13 n14 n15 n16 n17 n18 n19;go_enter func62,ntmps62
  exact t23
end step
theorem t122{P:Prop}(h:P:=by
 go_ret;exact ⟨rfl,HB1.o.trans ((HB.o.trans (hb3.mono HB.o.size)).mono HB1.o.size)⟩):P:=h
namespace step
open Go.RowKit
open field (Gives aC aj)
open schema (aT aY)
def qN (l:List Int):List Value:=(List.range 1000).map fun j:Nat=>Value.bool (decide ((j:Int)∈l))
theorem vW (l:List Int) (n:Nat) (h:n<1000):(qN l)[n]?=some (.bool (decide ((n:Int)∈l))):=by simp [qN,h]
theorem FB (l:List Int) (n:Nat) (h:n<1000):(qN l).set n (.bool true)=qN (l++[(n:Int)]):=by
 apply List.ext_getElem?;intro i;rw [List.getElem?_set];by_cases hi:i<1000
 ·rw [vW _ i hi,vW _ i hi];by_cases hn:n=i
  ·subst hn;simp [qN,h]
  ·rw [if_neg hn];simp;omega
 ·simp [qN];simp [hi];omega
theorem D7:Tryz.zeroCells167=(qN []).toArray:=by kernel_rfl
def tq (lim:Int) (l:List Int):Prop:=(∀n∈l,0<=n/\n<=lim - 1)/\l.Nodup
theorem xG {lim:Int} {L:List Int} {k:Nat} {x:Int} (h:L[k]?=some x):tq lim (L.take (k+1))↔tq lim (L.take k)/\(0<=x/\x<=lim - 1)/\x∉L.take k:=by
 rw [aT h];unfold tq;simp only [List.nodup_append,List.mem_append,List.mem_singleton];constructor
 ·rintro ⟨h1,h2,h3,h4⟩;exact ⟨⟨fun n hn=>h1 n (.inl hn),h2⟩,h1 x (.inr rfl),fun hm=>h4 _ hm _ rfl rfl⟩
 ·rintro ⟨⟨h1,h2⟩,h3,h4⟩;exact ⟨fun n hn=>hn.elim (h1 n) (fun e=>e ▸ h3),h2,by simp,fun a ha b hb e=>h4 (by rw [<-hb,<-e];exact ha)⟩
theorem BN {lim:Int} {L:List Int} (h:tq lim L) (k:Nat):tq lim (L.take k):=
 ⟨fun n hn=>h.1 n (List.mem_of_mem_take hn),h.2.sublist (List.take_sublist _ _)⟩
theorem Hz {lim:Int} {L:List Int} {k:Nat} {x:Int} (h:L[k]?=some x) (hn:¬((0<=x/\x<=lim - 1)/\x∉L.take k)):¬tq lim L:=fun hf=>hn ((xG h).1 (BN hf _)).2
theorem wZ {w w':World} {a:Option Addr} {L:List Int} (h:Ins w a L) (hb:Below w.heap.size w w') {k:Nat} (hk:k<L.length):
  ∃b off p,a=some ⟨b,off,none⟩/\b<w'.heap.size/\L[k]?=some p/\w'.cell? ⟨b,off+k,none⟩=some (.int .i64 p):=(h.below hb).at hk
set_option maxRecDepth 20000 in
theorem qP (a:Option Addr) (cap:Nat) (L:List Int) (lim:Int) (h1:1<=lim) (h2:lim<=1000) (w:World) (h:Ins w a L) (hL:L.length<=maxLen):
  Calls prog 132 #[.slice a L.length cap,.int .i64 lim] w (Gives (.bool (decide (Table L lim))) w):=by
 have hml:(L.length:Int)<=9223372036854775807:=by unfold maxLen at hL;omega
 obtain ⟨v,hv⟩:∃v:Bool,Hid (decide (Table L lim)=v):=⟨_,rfl⟩;rw [hv.o];have cW:=fF (L.length:Int) 1 64;unfold Gives at cW ⊢;have HF:=hid h;clear h hL;by_cases h3:1<=L.length/\L.length<=64
 ·rw [show decide ((1:Int)<=(L.length:Int)/\(L.length:Int)<=64)=true from decide_eq_true om_] at cW;have HTI:Hid (Table L lim↔tq lim L):=hid ⟨fun h=>h.2,fun h=>⟨h3,h⟩⟩;have cV:=fun n (w':World)=>fF n 0 (lim - 1) w'
  clear h3;go_enter func132,ntmps132;go_wp2_with (go_at_call 131;((with_reducible refine (cW _).mono ?_);rintro e w1 ⟨rfl,hb1⟩;have HB1:=hid hb1;have HZ:Hid (Block (w1.alloc (.cells Tryz.zeroCells167 167)) w1.heap.size 167 (qN [])):=(by rw [D7];exact hid (Block.new w1 167 (qN [])));have HN:=hid (aC w1 (.cells Tryz.zeroCells167 167));have HLE:=hid hb1.size;clear hb1));have HF1:=hid (HF.o.below HB1.o);clear cW;generalize w1.alloc (.cells Tryz.zeroCells167 167)=w2 at *;obtain ⟨B,hB⟩:∃B:Nat,Hid (w1.heap.size=B):=⟨_,rfl⟩;rw [hB.o] at HZ HLE ⊢;go_loopw [14] (fun n wr=>∃k:Nat,k<=L.length/\n=.int .i64 (k:Int)/\Hid (tq lim (L.take k))/\Hid (Block wr B 167 (qN (L.take k)))/\Hid (Below w1.heap.size w1 wr)) (fun n _=>L.length - (intOf n).toNat);case atStart=>exact ⟨0,Nat.zero_le _,rfl,hid ⟨by simp,by simp⟩,HZ,HN⟩
  case round=>
   obtain ⟨k,hk,rfl,HOK,HBl,HB⟩:=hrel;by_cases hlt:k<L.length
   ·obtain ⟨b,off,p,rfl,hbl,hp,c0⟩:=wZ HF1.o HB.o hlt;have i1:(k:Int)<L.length:=by omega
    have HP:=hid hp;have HNO:=hid (Hz (lim:=lim) hp);have HSUC:=hid (xG (lim:=lim) hp);have HTK:=hid (aT hp);have cs:=fun w'=>cV p w'
    clear hp;generalize hI:L.take k=I at *;clear hI;by_cases hr:0<=p/\p<=lim - 1
    ·obtain ⟨n,rfl⟩:=Int.eq_ofNat_of_zero_le hr.1;have hn2:n<1000:=by omega
     have hn3:(n:Int)<1000:=by omega
     rw [decide_eq_true hr] at cs;have HR:=hid hr;clear hr;have hsd:=vW I n hn2;by_cases hm:(n:Int)∈I
     ·rw [decide_eq_true hm] at hsd;obtain rfl:false=v:=by rw [<-hv.o];exact (decide_eq_false (fun h=>HNO.o (fun h=>h.2 hm) (HTI.o.1 h))).symm
      clear hm;go_wp2_with (go_at_call 131;((with_reducible refine (cs _).mono ?_);rintro e w3 ⟨rfl,hb3⟩;have hc:=(HBl.o.later hb3).cell n;rw [hsd] at hc))
      exact t122
     ·rw [decide_eq_false hm] at hsd;have HM:=hid hm;clear hm;go_wp2_with (go_at_call 131;((with_reducible refine (cs _).mono ?_);rintro e w3 ⟨rfl,hb3⟩;have hblk:=HBl.o.later hb3;have hc:=hblk.cell n;rw [hsd] at hc;have hfz:=hblk.frozen n;have HBK:=hid hblk;clear hblk));refine ⟨⟨k+1,by omega,by go_num,hid (HSUC.o.2 ⟨HOK.o,HR.o,HM.o⟩),hid ?_,hid ?_⟩,by simp [intOf];omega⟩
      ·have:=HBK.o.setCell n (.bool true);rw [FB _ _ om_] at this;rw [HTK.o];exact this
      ·exact below_setCells (HB.o.trans (hb3.mono HB.o.size)) (by rw [hB.o];exact Nat.le_refl _) n [.bool true]
    ·obtain rfl:false=v:=by rw [<-hv.o];exact (decide_eq_false (fun h=>HNO.o (fun h=>hr h.1) (HTI.o.1 h))).symm
     rw [decide_eq_false hr] at cs;clear hr;go_wp2_with (go_at_call 131;((with_reducible refine (cs _).mono ?_);rintro e w3 ⟨rfl,hb3⟩))
     exact t122
   ·obtain rfl:k=L.length:=by omega
    obtain rfl:true=v:=by rw [<-hv.o];have:=HOK.o;rw [List.take_of_length_le (Nat.le_refl _)] at this;exact (decide_eq_true (HTI.o.2 this)).symm
    go_wp2;go_ret;exact ⟨rfl,HB1.o.trans (HB.o.mono HB1.o.size)⟩
 ·rw [show decide ((1:Int)<=(L.length:Int)/\(L.length:Int)<=64)=false from decide_eq_false om_] at cW;obtain rfl:false=v:=by rw [<-hv.o];exact (decide_eq_false (fun h=>h3 h.1)).symm
  clear h3;go_enter func132,ntmps132;go_wp2_with (go_at_call 131;((with_reducible refine (cW _).mono ?_);rintro e w1 ⟨rfl,hb1⟩));go_ret;exact ⟨rfl,hb1⟩
end step
theorem t124{P:Prop}(h:P:=by
 clear hpq;go_wp2;go_quiet (fail);go_wp2;go_ret;exact ⟨rfl,below_drewN HB.o _⟩):P:=h
theorem t81{P:Prop}(h:P:=by
 clear hpq;go_wp2;go_quiet (fail);go_wp2;exact ⟨⟨k+1,by omega,by go_num,hid (HS.o.2 ⟨HEQ.o,HPQ.o⟩),hid (below_drewN HB.o _)⟩,by simp [intOf];omega⟩):P:=h
theorem t59{P:Prop}(h:P:=by
 obtain rfl:k=L.length:=by omega
 obtain rfl:true=r:=by
  rw [<-hr.o];have:=HEQ.o;rw [List.take_of_length_le (Nat.le_refl _),List.take_of_length_le (by rw [HLEN.o];exact Nat.le_refl _)] at this;exact (decide_eq_true this).symm
 go_wp2;go_ret;exact ⟨rfl,HB.o⟩):P:=h
theorem t55{P:Prop}(h:P:=by
 go_simp;obtain ⟨i,k,lo,hi,m⟩:=p;obtain ⟨i',k',lo',hi',m'⟩:=q;simp only [field.Fd.mk.injEq];by_cases h1:i=i'
 ·by_cases h2:k=k'
  ·by_cases h3:lo=lo'
   ·by_cases h4:hi=hi'
    ·by_cases h5:m=m' <;> simp [h1,h2,h3,h4,h5]
    ·simp [h1,h2,h3,h4]
   ·simp [h1,h2,h3]
  ·simp [h1,h2]
 ·simp [h1]):P:=h
namespace schema
open Go.RowKit
open field (Gives aC aj)
theorem Dc (p q:field.Fd) (w:World):(binOp .neq 26 (zF p) (zF q)).run prog w=.ok (.bool (!decide (p=q))) w:=by
 rw [run_neq_struct,show (10000:Nat)=9999+1 from rfl,run_equalIn_struct w 9999 26 _ _ kr_ Tryz.stoodInHeld26]
 exact t55
theorem jg {α:Type} {L M:List α} {k:Nat} {p q:α} (hp:L[k]?=some p) (hq:M[k]?=some q):L.take (k+1)=M.take (k+1)↔L.take k=M.take k/\p=q:=by
 rw [aT hp,aT hq];have h1:=(List.getElem?_eq_some_iff.1 hp).1;have h2:=(List.getElem?_eq_some_iff.1 hq).1;constructor
 ·intro h;have:=List.append_inj' h rfl;exact ⟨this.1,by simpa using this.2⟩
 ·rintro ⟨h,rfl⟩;rw [h]
theorem qV (a:Option Addr) (ca:Nat) (L:List field.Fd) (b:Option Addr) (cb:Nat) (M:List field.Fd) (w:World) (h:field.Fds w a L) (h':field.Fds w b M) (hL:L.length<=maxLen) (hM:M.length<=maxLen):
  Calls prog 135 #[.slice a L.length ca,.slice b M.length cb] w (Gives (.bool (decide (L=M))) w):=by
 have hml:(L.length:Int)<=9223372036854775807:=by unfold maxLen at hL;omega
 have hmm:(M.length:Int)<=9223372036854775807:=by unfold maxLen at hM;omega
 have HF:=hid h;have HG:=hid h';obtain ⟨r,hr⟩:∃r:Bool,Hid (decide (L=M)=r):=⟨_,rfl⟩;rw [hr.o];unfold Gives;clear h h' hL hM;by_cases hlen:L.length=M.length
 ·have HLEN:=hid hlen;rw [<-hlen];clear hlen hmm;go_enter func135,ntmps135;go_wp2;go_loopw [13] (fun n wr=>∃k:Nat,k<=L.length/\n=.int .i64 (k:Int)/\Hid (L.take k=M.take k)/\Hid (Below w.heap.size w wr)) (fun n _=>L.length - (intOf n).toNat);case atStart=>exact ⟨0,Nat.zero_le _,rfl,hid rfl,hid (Below.refl _ _)⟩
  case round=>
   obtain ⟨k,hk,rfl,HEQ,HB⟩:=hrel;by_cases hlt:k<L.length
   ·obtain ⟨g,off,p,rfl,hbl,hp,c0,c1,c2,c3,c4⟩:=di HF.o HB.o hlt;obtain ⟨g',off',q,rfl,hbl',hq,d0,d1,d2,d3,d4⟩:=di HG.o HB.o (k:=k) (by rw [<-HLEN.o];exact hlt);have i1:(k:Int)<L.length:=by omega
    have HS:=hid (jg hp hq);have hne:=fun W=>Dc p q W
    have HNE:=hid (fun (hpq:¬p=q)=>show ¬L=M from fun e=>by rw [e] at hp;exact hpq (Option.some.inj (hp.symm.trans hq)));clear hp hq;by_cases hpq:p=q
    ·rw [decide_eq_true hpq] at hne;have HPQ:=hid hpq
     exact t81
    ·rw [decide_eq_false hpq] at hne;obtain rfl:false=r:=by rw [<-hr.o];exact (decide_eq_false (HNE.o hpq)).symm
     exact t124
   ·exact t59
 ·obtain rfl:false=r:=by rw [<-hr.o];exact (decide_eq_false (fun e=>hlen (by rw [e]))).symm
  have hd:((L.length:Int) == (M.length:Int))=false:=by rw [beq_eq_false_iff_ne];omega
  clear hlen;go_enter func135,ntmps135;go_wp2;go_ret;exact ⟨rfl,Below.refl _ _⟩
end schema
theorem t44{P:Prop}(h:P:=by
 unfold execOp;rw [ho];simp only [hx,hy];go_simp):P:=h
namespace schema
open Go.RowKit
section
variable {o:Oper} {a:Act} {w:World}
theorem dH {op:BinOp} {t t':TypeId} {x y:Operand} {vx vy u:Value} (ho:o.op=.binOp op t x y t')
  (hg:(eqGuard op t x y vx vy).run prog w=.ok () w) (hr:(binOp op t vx vy).run prog w=.ok u w) (hx:a.eval x=vx:=by kernel_rfl) (hy:a.eval y=vy:=by kernel_rfl):(execOp a.eval o).run prog w=.ok (.value u) w:=by
 unfold execOp;simp [ho,hx,hy,Sem.run_bind,hg,hr]
theorem eU {x y:Operand} {t':TypeId} {n m:Int} {r:Bool} (ho:o.op=.binOp .neq 3 x y t') (h:Hid ((n != m)=r)) (hx:a.eval x=.int .i64 n:=by kernel_rfl) (hy:a.eval y=.int .i64 m:=by kernel_rfl):(execOp a.eval o).run prog w=.ok (.value (.bool r)) w:=
 dH ho (hx:=hx) (hy:=hy) (by simp [go_sem]) (by rw [<-h.o];simp [go_sem])
theorem ji {x y:Operand} {t':TypeId} {n m:Int} {r:Bool} (ho:o.op=.binOp .gtr 3 x y t') (h:Hid (decide (n>m)=r)) (hx:a.eval x=.int .i64 n:=by kernel_rfl) (hy:a.eval y=.int .i64 m:=by kernel_rfl):(execOp a.eval o).run prog w=.ok (.value (.bool r)) w:=
 dH ho (hx:=hx) (hy:=hy) (by simp [go_sem]) (by rw [<-h.o];simp [go_sem])
theorem jW {x y:Operand} {t':TypeId} {n m:Int} {r:Bool} (ho:o.op=.binOp .geq 3 x y t') (h:Hid (decide (n≥m)=r)) (hx:a.eval x=.int .i64 n:=by kernel_rfl) (hy:a.eval y=.int .i64 m:=by kernel_rfl):(execOp a.eval o).run prog w=.ok (.value (.bool r)) w:=
 dH ho (hx:=hx) (hy:=hy) (by simp [go_sem]) (by rw [<-h.o];simp [go_sem])
theorem yJ {x y:Operand} {t':TypeId} {k:Nat} (ho:o.op=.binOp .sub 3 x y t') (h:k<1000000) (hx:a.eval x=.int .i64 ((k+1:Nat):Int):=by kernel_rfl) (hy:a.eval y=.int .i64 1:=by kernel_rfl):(execOp a.eval o).run prog w=.ok (.value (.int .i64 (k:Int))) w:=
 dH ho (hx:=hx) (hy:=hy) (by simp [go_sem]) (by
  have:IntKind.i64.wrap (((k+1:Nat):Int) - 1)=(k:Int):=by rw [show ((k+1:Nat):Int) - 1=(k:Int) by omega];exact IntWalk.i64_in _ om_
  simp only [go_sem];rw [this];simp [go_sem])
theorem fB {x y:Operand} {b off len cap i:Nat} (ho:o.op=.indexAddr 30 x y) (hi:i<len) (hx:a.eval x=.slice (some ⟨b,off,none⟩) len cap:=by kernel_rfl) (hy:a.eval y=.int .i64 (i:Int):=by kernel_rfl):
  (execOp a.eval o).run prog w=.ok (.value (.pointer (some ⟨b,off+i*5,none⟩))) w:=by
 exact t44
theorem ah {ty:TypeId} {x:Operand} {ad:Addr} {k:IntKind} {n:Int} (ho:o.op=.load ty x) (hx:a.eval x=.pointer (some ad)) (hc:w.cell? ad=some (.int k n)) (hu:∀w',(isAgg ty).run prog w'=.ok false w'):
  (execOp a.eval o).run prog w=.ok (.value (.int k n)) w:=by
 unfold execOp;rw [ho];simp only [hx];go_simp
theorem ay {ty:TypeId} {x:Operand} {ad:Addr} {q:Option Addr} {n c:Nat} (ho:o.op=.load ty x) (hc:w.cell? ad=some (.slice q n c)) (hu:∀w',(isAgg ty).run prog w'=.ok false w') (hx:a.eval x=.pointer (some ad):=by kernel_rfl):
  (execOp a.eval o).run prog w=.ok (.value (.slice q n c)) w:=by
 unfold execOp;rw [ho];simp only [hx];go_simp
theorem ak {ty:TypeId} {x:Operand} {b off:Nat} {cs:List Value} {d:TypeDesc} (ho:o.op=.load ty x) (hc:w.rangeAt b off cs)
  (hu:prog.underlying ty=some d) (hd:d.isRow=true) (hi:(prog.info? ty).map (·.size)=some cs.length) (hx:a.eval x=.pointer (some ⟨b,off,none⟩):=by kernel_rfl):(execOp a.eval o).run prog w=.ok (.value (.agg cs.toArray)) w:=by
 unfold execOp;simp [ho,hx,run_loadAt_mid w b off ty cs d hc hu hd hi]
end
theorem aX:Hid ((prog.info? 26).map (·.size)=some 5):=by show _=_;kernel_rfl
theorem lg:Hid ((prog.info? 57).map (·.size)=some 2):=by show _=_;kernel_rfl
theorem ja {w w':World} {b o:Nat} {cs:List Value} (h:w.rangeAt b o cs) (hb:Below w.heap.size w w') (hlt:b<w.heap.size):w'.rangeAt b o cs:=fun j v hj=>(hb.cell (p:=⟨b,o+j,none⟩) hlt).trans (h j v hj)
theorem nX {w:World} {b o:Nat} {v0 v1 v2 v3 v4:Value} (h0:w.cell? ⟨b,o,none⟩=some v0) (h1:w.cell? ⟨b,o+1,none⟩=some v1) (h2:w.cell? ⟨b,o+2,none⟩=some v2) (h3:w.cell? ⟨b,o+3,none⟩=some v3) (h4:w.cell? ⟨b,o+4,none⟩=some v4):w.rangeAt b o [v0,v1,v2,v3,v4]
 | 0,v,hj=>by cases hj;exact h0
 | 1,v,hj=>by cases hj;exact h1
 | 2,v,hj=>by cases hj;exact h2
 | 3,v,hj=>by cases hj;exact h3
 | 4,v,hj=>by cases hj;exact h4
 | n+5,v,hj=>by simp at hj
theorem Hq {w:World} {b o:Nat} {v0 v1:Value} (h0:w.cell? ⟨b,o,none⟩=some v0) (h1:w.cell? ⟨b,o+1,none⟩=some v1):w.rangeAt b o [v0,v1]
 | 0,v,hj=>by cases hj;exact h0
 | 1,v,hj=>by cases hj;exact h1
 | n+2,v,hj=>by simp at hj
theorem mZ:∀(l:List Int) (k:Nat) (x:Int),x∈l.take k->l.idxOf x<k
 | l,0,x,h=>by simp at h
 | [],k+1,x,h=>by simp at h
 | y :: l,k+1,x,h=>by
  by_cases hy:y=x
  ·subst hy;simp
  ·have hb:(y == x)=false:=beq_eq_false_iff_ne.2 hy;rw [List.take_succ_cons,List.mem_cons] at h;have:=mZ l k x (h.resolve_left (Ne.symm hy));rw [List.idxOf_cons,hb];show l.idxOf x+1<k+1
   omega
theorem JU {l:List Int} {k:Nat} {x:Int} (h:l[k]?=some x):ai l x=k↔x∉l.take k:=by
 constructor
 ·intro he hm;have:=mZ l k x hm;unfold ai at he;rw [if_pos (List.mem_of_getElem? h)] at he;omega
 ·intro hn;exact kE hn h
theorem Ae (L:List field.Fd) (k:Nat):ids (L.take k)=(ids L).take k:=by unfold ids;rw [List.map_take]
end schema
namespace step
open Go.RowKit
open field (Gives aC aj)
open schema (aT)
def aH (op:Int) (c:UInt8):Bool:=decide (c∈uses op)
theorem wJ (op:Int):(tu op).size=(uses op).length:=texts.Eu _
theorem I4 {op:Int} {k:Nat} {q:UInt8} (h:(uses op)[k]?=some q) (W:World):(Instr.index 9 (.string (tu op)) (.int .i64 (k:Int))).run prog W=.ok (.int .u8 (q.toNat:Int)) W:=by
 have hk:=(List.getElem?_eq_some_iff.1 h).1;have he:=(List.getElem?_eq_some_iff.1 h).2;rw [run_index_string W _ _ _ _ underlying9,dif_pos ⟨by omega,by rw [wJ];omega⟩];congr 2;rw [<-he];simp only [Int.toNat_natCast];rfl
theorem J9 {p q:UInt8} (h:p≠q):((p.toNat:Int) == (q.toNat:Int))=false:=by
 rw [beq_eq_false_iff_ne];intro e;exact h (UInt8.toNat_inj.1 om_)
theorem dI (op:Int) (c:UInt8) (w:World):Calls prog 66 #[.int .i64 op,.int .u8 (c.toNat:Int)] w (Gives (.bool (aH op c)) w):=by
 obtain ⟨v,hv⟩:∃v:Bool,Hid (aH op c=v):=⟨_,rfl⟩;rw [hv.o];have cU:=zX op w;have hsz:=wJ op;have hix:=fun (k:Nat) (q:UInt8) (h:(uses op)[k]?=some q) W=>I4 h W
 have hl5:=Hg op;obtain ⟨S,hS⟩:∃S,Hid (tu op=S):=⟨_,rfl⟩;obtain ⟨L,hL⟩:∃L,Hid (uses op=L):=⟨_,rfl⟩;have HV:Hid (decide (c∈L)=v):=hid (by rw [<-hL.o];exact hv.o);rw [hS.o] at cU hsz hix;rw [hL.o] at hsz hix hl5;have HIX:=hid hix;unfold Gives at cU ⊢;clear hix hv;go_enter func66,ntmps66;go_wp2_with (go_at_call 62;((with_reducible refine cU.mono ?_);rintro e w1 ⟨rfl,hb1⟩;have HB1:=hid hb1));clear cU;go_loopw [6] (fun n wr=>∃k:Nat,k<=L.length/\n=.int .i64 (k:Int)/\Hid (c∉L.take k)/\Hid (Below w.heap.size w wr)) (fun n _=>L.length - (intOf n).toNat);case atStart=>exact ⟨0,Nat.zero_le _,rfl,hid si_,HB1⟩
 case round=>
  obtain ⟨k,hk,rfl,HN,HB⟩:=hrel;by_cases hlt:k<L.length
  ·have hq:=List.getElem?_eq_getElem hlt;generalize L[k]=q at *;have hx:=fun W=>HIX.o k q hq W
   have i1:(k:Int)<S.size:=by rw [hsz];omega
   have i2:((k:Int)<(L.length:Int)):=by omega
   have HS1:=hid (aT hq);have HM:=hid (List.mem_of_getElem? hq);clear hq;by_cases hc:q=c
   ·subst hc;obtain rfl:true=v:=by rw [<-HV.o];exact (decide_eq_true HM.o).symm
    go_wp2;go_ret;exact ⟨rfl,HB.o⟩
   ·have hd:=J9 hc;have HC:=hid hc;clear hc;go_wp2;exact ⟨⟨k+1,by omega,by go_num,hid (by rw [HS1.o];intro hm;rcases List.mem_append.1 hm with h | h;exact HN.o h;exact HC.o (List.mem_singleton.1 h).symm),hid HB.o⟩,by simp [intOf];omega⟩
  ·obtain rfl:k=L.length:=by omega
   obtain rfl:false=v:=by rw [<-HV.o];have:=HN.o;rw [List.take_of_length_le (Nat.le_refl _)] at this;exact (decide_eq_false this).symm
   have i1:¬((L.length:Int)<S.size):=by omega
   go_wp2;go_ret;exact ⟨rfl,HB.o⟩
end step
namespace schema
open Go.RowKit pen
def fmC (p:Fm):List Value:=(zS p.id p.f p.fL.length p.fCap)
def fmV:List Fm->List Value
 | []=>[]
 | p :: L=>fmC p++fmV L
theorem dS:∀a b,fmV (a++b)=fmV a++fmV b
 | [],_=>rfl
 | p :: a,b=>by rw [List.cons_append,fmV,fmV,dS a b,List.append_assoc]
theorem iV:∀L,(fmV L).length=L.length*2
 | []=>rfl
 | p :: L=>by rw [fmV];simp only [fmC,List.length_append,List.length_cons,List.length_nil,iV L];omega
theorem xH:∀(L:List Fm) (i:Nat) (p:Fm) (c:Nat),L[i]?=some p->c<2->(fmV L)[i*2+c]?=(fmC p)[c]?
 | [],i,p,c,h,_=>by simp at h
 | q :: L,0,p,c,h,hc=>by
  simp at h;subst h;rw [fmV,List.getElem?_append_left (by simp [fmC];omega)];simp
 | q :: L,i+1,p,c,h,hc=>by
  rw [fmV,List.getElem?_append_right (by simp [fmC];omega)];rw [<-xH L i p c (by simpa using h) hc];congr 1;simp only [fmC,List.length_cons,List.length_nil];omega
theorem qC {w:World} {base n:Nat} {a:Option Addr} {cap:Nat} {L:List Fm} {e:TypeId} (h:w.ownsRow base e 2 (.slice a n cap) n (fmV L)):Fms w a L/\n=L.length/\n<=cap:=by
 obtain ⟨hl,hr⟩:=h;have hn:n=L.length:=by have:=iV L;rw [hl] at this;omega
 rcases hr with ⟨hv,h0⟩ | ⟨b,cap',cur,hv,_,hg,hcp,_,_,htake⟩
 ·exact t128
 ·cases hv
  refine ⟨.inr ⟨b,0,rfl,(Array.getElem?_eq_some_iff.1 hg).1,fun i p hp=> ?_⟩,hn,hcp⟩;have hi:i<L.length:=(List.getElem?_eq_some_iff.1 hp).1;have key:∀c x,c<2->(fmC p)[c]?=some x->w.cell? ⟨b,0+(i*2+c),none⟩=some x:=by
   intro c x hc hx;have h1:=xH L i p c hp hc
   exact t175
  exact ⟨key 0 _ om_ rfl,key 1 _ om_ rfl⟩
theorem Bh:(prog.info? 57).map (fun i=>(i.zero,i.size,i.bytes))=some (some (.agg #[.int .i64 0,.slice none 0 0]),2,32):=by kernel_rfl
theorem jw:∃i,prog.info? 57=some i/\i.zero=some (.agg #[.int .i64 0,.slice none 0 0])/\i.size=2/\i.bytes=32:=by
 obtain ⟨i,hi,he⟩:=Option.map_eq_some_iff.1 Bh
 exact t91
def qK (B:Nat) (w:World) (p:Fm):Prop:=w.ownsRow B 26 5 (.slice p.f p.fL.length p.fCap) p.fL.length (fdV p.fL)
theorem qK.ok {B:Nat} {w:World} {p:Fm} (h:qK B w p):p.Ok w:=⟨(gQ h).1,(jS h).1,(jS h).2⟩
theorem H9:(57:TypeId)≠26:=by decide
end schema
theorem t141{P:Prop}(h:P:=by
 rcases h with h | ⟨b,off,h,_⟩
 ·exact h
 ·cases h):P:=h
theorem t109{P:Prop}(h:P:=by
 have HO2:=hid ho';have HB2:=hid hbl;clear ho ho' hbl hg;go_wp2;go_ret;exact ⟨_,rfl,HO2.o,HB2.o⟩):P:=h
namespace schema
open Go.RowKit
theorem nO:∀L,∀u∈fmV L,u.oneCell'=true
 | [],u,h=>by simp [fmV] at h
 | p :: L,u,h=>by
  rw [fmV,List.mem_append] at h;rcases h with h | h
  ·simp [fmC] at h;rcases h with rfl | rfl <;> rfl
  ·exact nO L u h
theorem DJ:∀(L:List Fm) (j:Nat) (u:Value),(fmV L)[j]?=some u->∃i p c,L[i]?=some p/\j=i*2+c/\c<2/\(fmC p)[c]?=some u
 | [],j,u,h=>by simp [fmV] at h
 | p :: L,j,u,h=>by
  rw [fmV] at h;by_cases hj:j<2
  ·rw [List.getElem?_append_left (by simp [fmC];omega)] at h;exact ⟨0,p,j,rfl,by omega,hj,h⟩
  ·rw [List.getElem?_append_right (by simp [fmC];omega)] at h;obtain ⟨i,q,c,h1,h2,h3,h4⟩:=DJ L _ u h;simp only [fmC,List.length_cons,List.length_nil] at h2
   exact t144
theorem I5 {w:World} {a:Option Addr} {L:List Fm} (h:Fms w a L):L.length=0\/∃ad,a=some ad/\∀j u,(fmV L)[j]?=some u->w.cell? (ad.add j)=some u:=by
 rcases h with h | ⟨b,off,ha,hlt,hc⟩
 ·exact .inl (by rw [h];rfl)
 ·refine .inr ⟨_,ha,fun j u hj=> ?_⟩;obtain ⟨i,p,c,h1,rfl,h3,h4⟩:=DJ L j u hj;obtain ⟨c0,c1⟩:=hc i p h1;rw [Addr.add_lit];match c,h3,h4 with
  | 0,_,h4=>rw [show (some u)=some (.int .i64 p.id) from h4.symm.trans rfl];exact c0
  | 1,_,h4=>rw [show (some u)=some (.slice p.f p.fL.length p.fCap) from h4.symm.trans rfl,<-Nat.add_assoc];exact c1
theorem Eh (W:World) (a:Option Addr) (n c:Nat):(binOp .eql 22 (.slice a n c) (.slice none 0 0)).run prog W=.ok (.bool a.isNone) W:=by
 have h:=run_equal_slice_nil (P:=prog) W 22 57 a n c underlying22;simp [binOp,h,Result.andThen]
def jk (L:List field.Fd) (w:World) (e:Ending) (w':World):Prop:=∃v,e=.returned v/\w'.ownsRow w.heap.size 26 5 v L.length (fdV L)/\Below w.heap.size w w'
theorem og (a:Option Addr) (cap:Nat) (L:List field.Fd) (w:World) (h:field.Fds w a L) (hL:L.length<=1000000):
  Calls prog 59 #[.slice a L.length cap] w (jk L w):=by
 obtain ⟨i0,hi,hz0,hz1,hz2⟩:=dP;cases a with
 | none=>
  have en:=Ea w none L.length cap;simp only [Option.isNone_none] at en;have hl:L=[]:=by
   exact t141
  have HR:Hid (jk L w (.returned (.slice none 0 0)) w):=hid ⟨_,rfl,by rw [hl];exact World.ownsRow_nil _ _ _ _,Below.refl _ _⟩;clear h hl hL;generalize jk L w=R at *;generalize L.length=n at *;go_enter func59,ntmps59;go_wp2;exact HR.o
 | some ad=>
  have en:=Ea w (some ad) L.length cap;simp only [Option.isNone_some] at en;have hb:Below w.heap.size w (w.alloc (.cells #[] 26)):=(Below.refl _ _).alloc (Nat.le_refl _) _;have HB:=hid hb;have HN:=hid (rY (h.below hb));have HU:=hid (dZ L);have HN2:Hid (0+L.length<=maxLen):=by show _<=_;unfold maxLen;omega
  have HN3:Hid ((0+L.length)*40<=140737488355328):=by show _<=_;omega
  have HO:=hid (World.ownsRow_made (base:=w.heap.size) (e:=26) (size:=5) w #[] 0 (Nat.le_refl _) (Nat.zero_le _) rfl);have H1:=hid (jh L);clear h hb hL;unfold jk;generalize hX:fdV L=X at *;clear hX;generalize hn:L.length=n at *;clear hn;go_enter func59,ntmps59;go_wp2_with (at_builtin;refine aN rfl _ _ 30 rfl w.heap.size 26 i0 _ 5 40 underlying30 hi hz0 hz1 hz2 (by simp [Value.cells]) om_ (.slice (some ⟨w.heap.size,0,none⟩) 0 0) 0 [] rfl HO.o (some ad) n cap X rfl HU.o HN.o H1.o HN2.o HN3.o HB.o.size ?_);intro v' w1 ho hg;have hbl:Below w.heap.size w w1:=HB.o.grown hg HB.o.size (fun k hk=>by cases hk;exact Nat.le_refl _);have ho':w1.ownsRow w.heap.size 26 5 v' n X:=by simpa using ho
  exact t109
def DZ (L:List Fm) (w:World) (e:Ending) (w':World):Prop:=∃v,e=.returned v/\w'.ownsRow w.heap.size 57 2 v L.length (fmV L)/\Below w.heap.size w w'
theorem CX (a:Option Addr) (cap:Nat) (L:List Fm) (w:World) (h:Fms w a L) (hL:L.length<=1000000):
  Calls prog 119 #[.slice a L.length cap] w (DZ L w):=by
 obtain ⟨i0,hi,hz0,hz1,hz2⟩:=jw;cases a with
 | none=>
  have en:=Eh w none L.length cap;simp only [Option.isNone_none] at en;have hl:L=[]:=by
   exact t141
  have HR:Hid (DZ L w (.returned (.slice none 0 0)) w):=hid ⟨_,rfl,by rw [hl];exact World.ownsRow_nil _ _ _ _,Below.refl _ _⟩;clear h hl hL;generalize DZ L w=R at *;generalize L.length=n at *;go_enter func119,ntmps119;go_wp2;exact HR.o
 | some ad=>
  have en:=Eh w (some ad) L.length cap;simp only [Option.isNone_some] at en;have hb:Below w.heap.size w (w.alloc (.cells #[] 57)):=(Below.refl _ _).alloc (Nat.le_refl _) _;have HB:=hid hb;have HN:=hid (I5 (h.below hb));have HU:=hid (iV L);have HN2:Hid (0+L.length<=maxLen):=by show _<=_;unfold maxLen;omega
  have HN3:Hid ((0+L.length)*32<=140737488355328):=by show _<=_;omega
  have HO:=hid (World.ownsRow_made (base:=w.heap.size) (e:=57) (size:=2) w #[] 0 (Nat.le_refl _) (Nat.zero_le _) rfl);have H1:=hid (nO L);clear h hb hL;unfold DZ;generalize hX:fmV L=X at *;clear hX;generalize hn:L.length=n at *;clear hn;go_enter func119,ntmps119;go_wp2_with (at_builtin;refine aN rfl _ _ 22 rfl w.heap.size 57 i0 _ 2 32 underlying22 hi hz0 hz1 hz2 (by simp [Value.cells]) om_ (.slice (some ⟨w.heap.size,0,none⟩) 0 0) 0 [] rfl HO.o (some ad) n cap X rfl HU.o HN.o H1.o HN2.o HN3.o HB.o.size ?_);intro v' w1 ho hg;have hbl:Below w.heap.size w w1:=HB.o.grown hg HB.o.size (fun k hk=>by cases hk;exact Nat.le_refl _);have ho':w1.ownsRow w.heap.size 57 2 v' n X:=by simpa using ho
  exact t109
end schema
theorem t120{P:Prop}(h:P:=by
 cases hv
 exact lN 26 (g:=g) (t:=57) (cs:=cur.toList) (by show _=_;simpa using hh) H9 _ _):P:=h
namespace typing
open Go.RowKit schema
open field (Gives aC aj)
theorem zi:∀(L:List Fm) (k:Nat) (p q:Fm) (v:Value),L[k]?=some p->q.id=p.id->v=.slice q.f q.fL.length q.fCap->(fmV L).set (k*2+1) v=fmV (L.set k q)
 | [],k,p,q,v,h,_,_=>by simp at h
 | r :: L,0,p,q,v,h,hi,hv=>by
  simp at h;subst h;subst hv;simp [fmV,fmC,hi]
 | r :: L,k+1,p,q,v,h,hi,hv=>by
  have:=zi L k p q v (by simpa using h) hi hv;rw [List.set_cons_succ];unfold fmV;rw [<-this,show (k+1)*2+1=(fmC r).length+(k*2+1) by simp [fmC];omega,List.set_append_right _ _ om_];simp
def Small (w:World) (F:List Fm):Prop:=F.length<=40/\∀p∈F,field.Fds w p.f p.fL/\p.fL.length<=40
theorem Small.below {w w':World} {F:List Fm} (h:Small w F) (hb:Below w.heap.size w w'):Small w' F:=⟨h.1,fun p hp=>⟨(h.2 p hp).1.below hb,(h.2 p hp).2⟩⟩
structure Cl (B:Nat) (v:Int) (P:List schema.Form) (n:Nat) (u:Value) (k:Nat) (G:List Fm) (w0 wr:World):Prop where
 box:Block wr B 24 [.int .i64 v,u]
 res:Block wr (B+1) 24 [.int .i64 0,.slice none 0 0]
 row:wr.ownsRow (B+2) 57 2 u n (fmV G)
 each:∀i p,i<k->G[i]?=some p->qK B wr p
 rest:∀i p,k<=i->G[i]?=some p->field.Fds w0 p.f p.fL/\p.fL.length<=40
 eq:forms G=P
 below:Below B w0 wr
theorem EU {G:List Fm} {k:Nat} {p q:Fm} (h:G[k]?=some p) (hq:q.p=p.p):forms (G.set k q)=forms G:=by
 unfold forms;rw [List.map_set,hq];apply List.ext_getElem?;intro i;rw [List.getElem?_set];split
 ·rename_i e;subst e;have hk:=(List.getElem?_eq_some_iff.1 h).1;simp [hk];exact ((List.getElem?_eq_some_iff.1 h).2 ▸ rfl)
 ·rfl
theorem Cl.step {B:Nat} {v:Int} {P:List schema.Form} {n cap g k:Nat} {G:List Fm} {w0 wr w1 w3:World} {p q:Fm} (h:Cl B v P n (.slice (some ⟨g,0,none⟩) n cap) k G w0 wr) (hw0:B<=w0.heap.size)
  (h1:Below wr.heap.size wr w1) (h3:Below w1.heap.size w1 w3) (hp:G[k]?=some p) (hq:q.p=p.p) (ho:w3.ownsRow w1.heap.size 26 5 (.slice q.f q.fL.length q.fCap) q.fL.length (fdV q.fL)):
  Cl B v P n (.slice (some ⟨g,0,none⟩) n cap) (k+1) (G.set k q) w0 (w3.setCell ⟨g,k*2+1,none⟩ (.slice q.f q.fL.length q.fCap)):=by
 have hb13:=h1.trans (h3.mono h1.size);have hg:=World.ownsRow.lt h.row g rfl;have hrow:=aK h.row hb13;have hst:=hrow.stored (k*2+1) (.slice q.f q.fL.length q.fCap);have hid:q.id=p.id:=by have:=congrArg Prod.fst hq;exact this
 rw [zi G k p q _ hp hid rfl] at hst;have hsy:jR 26 w3 (w3.setCell ⟨g,k*2+1,none⟩ (.slice q.f q.fL.length q.fCap)):=by
  rcases hrow.2 with ⟨hv,_⟩ | ⟨g',cap',cur,hv,_,hh,_⟩
  ·cases hv
  ·exact t120
 refine ⟨?_, ?_,hst.1, ?_, ?_, ?_, ?_⟩
 ·exact (h.box.later hb13).apart _ _ _ om_
 ·exact (h.res.later hb13).apart _ _ _ om_
 ·intro i r hi hr;rw [List.getElem?_set] at hr;split at hr
  ·rename_i e;split at hr
   ·cases hr
    have:=h1.size;have hlt:=h.box.lt;exact hsy.row (dV ho om_)
   ·cases hr
  ·exact hsy.row (aK (h.each i r om_ hr) hb13)
 ·intro i r hi hr;rw [List.getElem?_set,if_neg om_] at hr;exact h.rest i r om_ hr
 ·rw [EU hp hq,h.eq]
 ·exact below_setCells (h.below.trans (hb13.mono (by have:=h.box.lt;omega))) om_ _ [_]
theorem bT (x y:Value):(prog.info? 24).map (·.size)=some [x,y].length:=by kernel_rfl
theorem Jw:(24:TypeId)≠26:=by decide
theorem aZ {w:World} {B e sz n S o:Nat} {u v:Value} {xs:List Value} (h:w.ownsRow B e sz u n xs) (hS:S<B):(w.setCell ⟨S,o,none⟩ v).ownsRow B e sz u n xs:=
 fK h (fun g hg=>by have:=World.ownsRow.lt h g hg;exact Below.heap_setCell w ⟨S,o,none⟩ v g (by show g≠S;omega))
def iP (v:Int) (P:List schema.Form) (w:World) (e:Ending) (w':World):Prop:=
 ∃u G,e=.returned (.agg #[.int .i64 v,u])/\w'.ownsRow w.heap.size 57 2 u G.length (fmV G)/\(∀p∈G,qK w.heap.size w' p)/\forms G=P/\Below w.heap.size w w'
set_option maxRecDepth 20000 in
set_option maxHeartbeats 1600000 in
theorem iT (v:Int) (a:Option Addr) (c:Nat) (F:List Fm) (w:World) (h:Fms w a F) (hF:Small w F):
  Calls prog 83 #[zS v a F.length c] w (iP v (forms F) w):=by
 have h40:=hF.1;have hml:(F.length:Int)<=40:=by omega
 obtain ⟨W2,hW2⟩:∃W2,W2=((w.alloc (.cells (zS v a F.length c) 24))).alloc (.cells #[.int .i64 0,.slice none 0 0] 24):=⟨_,rfl⟩;have hb2:Below w.heap.size w W2:=by rw [hW2];exact (((Below.refl _ _).alloc (Nat.le_refl _) _).alloc si_ _)
 have hs2:W2.heap.size=w.heap.size+2:=by rw [hW2];simp
 have hB1:Block W2 w.heap.size 24 (zS v a F.length c):=by rw [hW2];exact (Block.new w _ _).alloc _
 have hB2:Block W2 (w.heap.size+1) 24 [.int .i64 0,.slice none 0 0]:=by rw [hW2];have:=Block.new ((w.alloc (.cells (zS v a F.length c) 24))) 24 [.int .i64 0,.slice none 0 0];simpa using this
 have cM:=CX a c F W2 (h.below hb2) om_;have r0:=hB1.cell 0;have r1:=hB1.cell 1;have HB1:=hid hB1;have HB2:=hid hB2;have HW:=hid hb2;have HF:=hid hF;have HS2:=hid hs2;have hne:w.heap.size≠w.heap.size+1:=by omega
 have HK:Hid (∀(W:World) (u:Value) (G:List Fm),Below W2.heap.size W2 W->W.ownsRow W2.heap.size 57 2 u F.length (fmV F)->Cl w.heap.size v (forms F) F.length u 0 F w (W.setCell ⟨w.heap.size,1,none⟩ u)):=hid (fun W u G hb ho=>by
  refine ⟨?_, ?_, ?_,fun i p hi=>absurd hi om_,fun i p _ hp=>hF.2 p (List.mem_of_getElem? hp),rfl, ?_⟩
  ·have:=(hB1.later hb).setCell 1 u;simpa using this
  ·exact (hB2.later hb).apart _ _ _ om_
  ·rw [<-hs2];exact fK ho (fun g hg=>by have:=World.ownsRow.lt ho g hg;exact Below.heap_setCell W ⟨w.heap.size,1,none⟩ u g (by show g≠w.heap.size;omega))
  ·exact below_setCells (hb2.trans (hb.mono om_)) (Nat.le_refl _) 1 [u])
 have HR:Hid (∀W,Below W2.heap.size W2 W->W.cell? ⟨w.heap.size,1,none⟩=some (.slice a F.length c)/\W.frozen? ⟨w.heap.size,1,none⟩=false):=hid (fun W hb=>⟨(hB1.later hb).cell 1,(hB1.later hb).frozen 1⟩);clear h hF hB1 hB2 hb2 h40 hs2;subst hW2;go_enter func83,ntmps83;go_wp2_with (go_at_call 119;((with_reducible refine cM.mono ?_);rintro e w1 ⟨u,rfl,ho,hb1⟩;obtain ⟨x,xc,rfl,hxc⟩:=aB ho;obtain ⟨k1,k2⟩:=HR.o _ hb1;have HCL:=hid (HK.o _ _ F hb1 ho);clear ho hb1));clear cM r0 r1 HB1 HB2 HW HS2 HK HR;obtain ⟨B,hB⟩:∃B,Hid (w.heap.size=B):=⟨_,rfl⟩;rw [hB.o] at HCL k1 k2 hne ⊢;generalize w1.setCell ⟨B,1,none⟩ (.slice x F.length xc)=w2 at *;clear k1 k2;go_loopw [12] (fun n wr=>∃k G,k<=F.length/\n=.int .i64 (k:Int)/\Hid (Cl B v (forms F) F.length (.slice x F.length xc) k G w wr)) (fun n _=>F.length - (intOf n).toNat);case atStart=>exact ⟨0,F,Nat.zero_le _,rfl,HCL⟩
 case round=>
  obtain ⟨k,G,hk,rfl,HC⟩:=hrel;have z1:=HC.o.box.cell 1;have z0:=HC.o.box.cell 0;have y0:=HC.o.res.cell 0;have y1:=HC.o.res.cell 1;have f0:=HC.o.res.frozen 0;have f1:=HC.o.res.frozen 1;by_cases hlt:k<F.length
  ·have hGl:G.length=F.length:=by have:=congrArg List.length HC.o.eq;rwa [aF,aF] at this
   obtain ⟨g,rfl⟩:∃g,x=some ⟨g,0,none⟩:=by
    rcases HC.o.row.2 with ⟨hv,h0⟩ | ⟨g,_,_,hv,_⟩
    ·omega
    ·cases hv;exact ⟨g,rfl⟩
   obtain ⟨p,hp⟩:∃p,G[k]?=some p:=⟨_,List.getElem?_eq_getElem om_⟩;have i1:(k:Int)<F.length:=by omega
   have c0:wr.cell? ⟨g,k*2,none⟩=some (.int .i64 p.id):=by
    have:=HC.o.row.cells (g:=g) rfl (k*2) _ (xH G k p 0 hp om_);rwa [Addr.add_lit,Nat.zero_add] at this
   have c1:wr.cell? ⟨g,k*2+1,none⟩=some (.slice p.f p.fL.length p.fCap):=by
    have:=HC.o.row.cells (g:=g) rfl (k*2+1) _ (xH G k p 1 hp om_);rwa [Addr.add_lit,Nat.zero_add] at this
   have HP:=hid hp;have hrp:=HC.o.rest k p (Nat.le_refl _) hp;clear hp;obtain ⟨pi,pf,pc,pL⟩:=p;simp only at c0 c1 hrp;have HW1:Hid (Below wr.heap.size wr ((wr.alloc (.cells (zS pi pf pL.length pc) 57)))):=hid (aC _ _);have HV:Hid (Block ((wr.alloc (.cells (zS pi pf pL.length pc) 57))) wr.heap.size 57 (zS pi pf pL.length pc)):=hid (Block.new _ _ _);have hgw:=World.ownsRow.lt HC.o.row g rfl;have hBw:=HC.o.box.lt;have hg1:g≠wr.heap.size:=by omega
   have hg2:wr.heap.size≠g:=by omega
   have hg3:B≠wr.heap.size:=by omega
   have hg4:wr.heap.size≠B:=by omega
   have hg5:B≠g:=by omega
   have hg6:g≠B:=by omega
   have HW0:Hid (Below w.heap.size w ((wr.alloc (.cells (zS pi pf pL.length pc) 57)))):=hid (by have h1:=HC.o.below;rw [<-hB.o] at h1 hBw;exact h1.trans (HW1.o.mono (Nat.le_of_lt hBw)));have cC:=fun (W:World) (hb:Below ((wr.alloc (.cells (zS pi pf pL.length pc) 57))).heap.size ((wr.alloc (.cells (zS pi pf pL.length pc) 57))) W)=>og pf pc pL W (hrp.1.below (HW0.o.trans (hb.mono HW0.o.size))) om_
   have HST:Hid (∀(W:World) (y:Option Addr) (yc:Nat),Below ((wr.alloc (.cells (zS pi pf pL.length pc) 57))).heap.size ((wr.alloc (.cells (zS pi pf pL.length pc) 57))) W->W.ownsRow ((wr.alloc (.cells (zS pi pf pL.length pc) 57))).heap.size 26 5 (.slice y pL.length yc) pL.length (fdV pL)->
     Cl B v (forms F) F.length (.slice (some ⟨g,0,none⟩) F.length xc) (k+1) (G.set k ⟨pi,y,yc,pL⟩) w (W.setCell ⟨g,k*2+1,none⟩ (.slice y pL.length yc))):=hid (fun W y yc hb ho=>HC.o.step (Nat.le_of_eq hB.o.symm) HW1.o hb HP.o rfl ho)
   have HFC:Hid (∀(W:World),Below ((wr.alloc (.cells (zS pi pf pL.length pc) 57))).heap.size ((wr.alloc (.cells (zS pi pf pL.length pc) 57))) W->W.cell? ⟨B,1,none⟩=some (.slice (some ⟨g,0,none⟩) F.length xc)/\W.cell? ⟨wr.heap.size,1,none⟩=some (.slice pf pL.length pc)/\W.cell? ⟨g,k*2+1,none⟩=some (.slice pf pL.length pc)/\W.frozen? ⟨g,k*2+1,none⟩=false):=hid (fun W hb=>by
    have hbw:=HW1.o.trans (hb.mono HW1.o.size);refine ⟨(HC.o.box.later hbw).cell 1,(HV.o.later hb).cell 1, ?_, ?_⟩
    ·rw [hbw.cell (p:=⟨g,k*2+1,none⟩) hgw.2];exact c1
    ·exact (aK HC.o.row hbw).frozenAt _)
   clear hrp;go_wp2;have hbd:Below ((wr.alloc (.cells (zS pi pf pL.length pc) 57))).heap.size ((wr.alloc (.cells (zS pi pf pL.length pc) 57))) ((wr.alloc (.cells (zS pi pf pL.length pc) 57))).drew:=aI (Below.refl _ _);obtain ⟨q1,q2,q3,q4⟩:=HFC.o _ hbd;go_region_held3 (fun w'=>w'.cell? ⟨B,1,none⟩=some (.slice (some ⟨g,0,none⟩) F.length xc)/\w'.cell? ⟨wr.heap.size,1,none⟩=some (.slice pf pL.length pc)) (first | assumption | go_keep) (first
    | (go_at_call 59;(with_reducible refine (cC _ hbd).mono ?_);rintro e w3 ⟨y,rfl,ho3,hb3⟩;obtain ⟨ya,yc,rfl,_⟩:=aB ho3;have hb13:=hbd.trans (hb3.mono hbd.size);obtain ⟨q1,q2,q3,q4⟩:=HFC.o w3 hb13;have HO3:=hid ho3;clear ho3))
   go_wp2;exact ⟨⟨k+1,_,by omega,by go_num,hid (HST.o w3 ya yc hb13 HO3.o)⟩,by simp [intOf];omega⟩
  ·obtain rfl:k=F.length:=by omega
   have hGl:G.length=F.length:=by have:=congrArg List.length HC.o.eq;rwa [aF,aF] at this
   go_wp2;have hR:=(HC.o.res.setCell 0 (.int .i64 v)).setCell 1 (.slice x F.length xc);have hBw:=HC.o.box.lt;refine bodyPost_ret (aO (b:=B+1) (o:=0) rfl rfl hR.whole underlying24 rfl (bT _ _)) rfl ?_;refine ⟨_,G,rfl, ?_,fun p hp=> ?_,HC.o.eq, ?_⟩
   ·rw [hB.o,hGl];exact dV (aZ (aZ HC.o.row om_) om_) om_
   ·obtain ⟨i,hi⟩:=List.mem_iff_getElem?.1 hp;have:=HC.o.each i p (by have:=(List.getElem?_eq_some_iff.1 hi).1;omega) hi;rw [hB.o];have hsy:=(lN 26 HC.o.res Jw 0 (.int .i64 v)).trans (lN 26 (HC.o.res.setCell 0 (.int .i64 v)) Jw 1 (.slice x F.length xc));exact hsy.row this
   ·have h1:=HC.o.below;rw [<-hB.o] at h1 ⊢;exact below_setCells (below_setCells h1 om_ 0 [_]) om_ 1 [_]
end typing
theorem t110{P:Prop}(h:P:=by
 constructor
 ·rintro ⟨a,b,c⟩;exact ⟨⟨a,c⟩,b⟩
 ·rintro ⟨⟨a,c⟩,b⟩;exact ⟨a,b,c⟩):P:=h
namespace turn
open Go.RowKit schema step typing
open field (Va bytesOf jK jJ)
open record (cu Has eY sJ qp nS)
def fieldsOf (F:List schema.Form) (x:Int):List field.Fd:=match named F x with
 | some p=>p.2
 | none=>[]
def iG (F:List schema.Form) (j:Int) (V:List Va):Prop:=∃L,named F j=some (j,L)/\Has j L j V
def atI (F:List schema.Form) (s:Sp):Int:=ai (ids (fieldsOf F s.fm)) s.fd
def kU (F:List schema.Form) (s:Sp):field.Fd:=bG (fieldsOf F s.fm) (atI F s)
def iO (V:List Va) (k:Nat) (v:Va):List Va:=V.take k++([v]++V.drop k)
def cutV (V:List Va) (k:Nat):List Va:=V.take k++V.drop (k+1)
def vn (n:Int):Va:=⟨n,⟨#[]⟩⟩
def dw (s:Sp) (y:Va):List Va:=
 if s.op=2 then [] else if s.op=4 then [vn (s.a*y.n+s.b)] else if s.op=5 then [vn (s.t.getD y.n.toNat 0)] else if s.op=6 then [vn (y.n.tdiv s.a),vn (y.n.tmod s.a)] else [y]
def fwd (s:Sp) (k:Nat) (V:List Va):List Va:=
 if s.op=1 then iO V s.pl.toNat s.v else if s.op=7 then iO (cutV V k) s.pl.toNat (V.getD k va0) else V.take k++(dw s (V.getD k va0)++V.drop (k+1))
structure Dn where
 (j:Int) (V:List Va) (gone has:Bool) (lost:ByteArray) (e:Int)
open Classical in
noncomputable def onR (v:Int) (F:List schema.Form) (s:Sp) (j:Int) (V:List Va):Dn:=
 if (on v F s).2.2≠0 then ⟨0,[],false,false,⟨#[]⟩,(on v F s).2.2⟩ else if ¬iG F j V then ⟨0,[],false,false,⟨#[]⟩,16⟩ else if j≠s.fm then ⟨j,V,false,false,⟨#[]⟩,0⟩
 else if s.op=10 then ⟨0,[],true,true,strOf (eY (fieldsOf F j) V),0⟩
 else ⟨j,fwd s (atI F s).toNat V,false,decide (s.op=2),if s.op=2 then strOf ((kU F s).dA (V.getD (atI F s).toNat va0)) else ⟨#[]⟩,0⟩
def chk (x:field.Fd) (y:Va):Va×Int:=if x.Has y then (y,0) else (va0,20)
def ig (s:Sp) (x:field.Fd) (G:List Va) (lost:ByteArray) (has:Bool):Va×Int:=
 if s.op=2 then (if has=true then (if (x.take (bytesOf lost)).e=0/\(x.take (bytesOf lost)).c=(bytesOf lost).length then (⟨(x.take (bytesOf lost)).n,strOf (x.take (bytesOf lost)).s⟩,0) else (va0,12)) else (s.v,0))
 else if s.op=8 then (G.getD 0 va0,0)
 else if s.op=4 then (if ((G.getD 0 va0).n - s.b).tmod s.a≠0 then (va0,20) else chk x (vn (((G.getD 0 va0).n - s.b).tdiv s.a)))
 else if s.op=5 then (if (G.getD 0 va0).n∈s.t then chk x (vn (s.t.idxOf (G.getD 0 va0).n)) else (va0,20))
 else if s.op=6 then chk x (vn ((G.getD 0 va0).n*s.a+(G.getD 1 va0).n)) else chk x (G.getD 0 va0)
def many (s:Sp):Nat:=if s.op=2 then 0 else if s.op=6 then 2 else 1
def bwd (v:Int) (F:List schema.Form) (s:Sp) (V:List Va) (lost:ByteArray) (has:Bool):List Va×Int:=
 if s.op=9 then ([],20) else if s.op=1 then (cutV V (ai (ids (fieldsOf (on v F s).2.1 s.fm)) s.f.id).toNat,0)
 else if s.op=7 then (iO (cutV V (ai (ids (fieldsOf (on v F s).2.1 s.fm)) s.fd).toNat) (atI F s).toNat (V.getD (ai (ids (fieldsOf (on v F s).2.1 s.fm)) s.fd).toNat va0),0)
 else if (ig s (kU F s) ((V.drop (atI F s).toNat).take (many s)) lost has).2≠0 then ([],(ig s (kU F s) ((V.drop (atI F s).toNat).take (many s)) lost has).2)
 else (V.take (atI F s).toNat++([(ig s (kU F s) ((V.drop (atI F s).toNat).take (many s)) lost has).1]++V.drop ((atI F s).toNat+many s)),0)
open Classical in
noncomputable def backR (v:Int) (F:List schema.Form) (s:Sp) (j:Int) (V:List Va) (lost:ByteArray) (has:Bool):Int×List Va×Int:=
 if (on v F s).2.2≠0 then (0,[],(on v F s).2.2) else if ¬iG (on v F s).2.1 j V then (0,[],16) else if j≠s.fm then (j,V,0)
 else if (bwd v F s V lost has).2≠0 then (0,[],(bwd v F s V lost has).2) else (j,(bwd v F s V lost has).1,0)
def oM (v:Int) (F:List schema.Form) (s:Sp) (lost:ByteArray):Int×List Va×Int:=
 if (on v F s).2.2≠0 then (0,[],(on v F s).2.2) else if s.op≠10 then (0,[],2) else if (qp s.fm (fieldsOf F s.fm) (bytesOf lost)).2.2≠0 then (0,[],12) else qp s.fm (fieldsOf F s.fm) (bytesOf lost)
theorem kQ:∀ {A B:List field.Fd} {C D:List Va},A.length=C.length->(cu (A++B) (C++D)↔cu A C/\cu B D)
 | [],B,[],D,_=>by simp [cu]
 | a :: A,B,c :: C,D,h=>by
  simp only [List.cons_append,cu];rw [kQ (by simpa using h)];exact and_assoc.symm
 | [],B,c :: C,D,h=>by simp at h
 | a :: A,B,[],D,h=>by simp at h
theorem sQ {A H B:List field.Fd} {C G D:List Va} (h1:A.length=C.length) (h2:H.length=G.length):cu (A++(H++B)) (C++(G++D))↔cu A C/\cu H G/\cu B D:=by
 rw [kQ h1,kQ h2]
theorem ni {x:field.Fd} {y:Va}:cu [x] [y]↔x.Has y:=by simp [cu]
theorem lG {α:Type} {L:List α} {k:Nat} {x:α} (h:L[k]?=some x):L=L.take k++([x]++L.drop (k+1)):=by
 obtain ⟨hk,rfl⟩:=List.getElem?_eq_some_iff.1 h;conv=>lhs;rw [<-List.take_append_drop k L,List.drop_eq_getElem_cons hk]
 rfl
theorem jD {V:List Va} {k:Nat} (h:k<V.length):V[k]?=some (V.getD k va0):=by
 rw [List.getD_eq_getElem?_getD,List.getElem?_eq_getElem h];rfl
theorem nY {L:List field.Fd} {V:List Va} {k:Nat} {x:field.Fd} {y:Va} (hx:L[k]?=some x) (hy:V[k]?=some y):cu L V↔cu (L.take k) (V.take k)/\x.Has y/\cu (L.drop (k+1)) (V.drop (k+1)):=by
 have h1:=(List.getElem?_eq_some_iff.1 hx).1;have h2:=(List.getElem?_eq_some_iff.1 hy).1;conv=>lhs;rw [lG hx,lG hy]
 rw [sQ (by simp;omega) rfl,ni]
theorem Ep (V:List Va) (k m:Nat):V=V.take k++((V.drop k).take m++V.drop (k+m)):=by
 conv=>lhs;rw [<-List.take_append_drop k V,<-List.take_append_drop m (V.drop k),List.drop_drop]
theorem pV {α:Type} {A B:List α} {k:Nat} (h:A.length=k):(A++B).take k=A:=List.take_left' h
theorem wz {α:Type} {A B:List α} {k:Nat} (h:A.length=k):(A++B).drop k=B:=List.drop_left' h
theorem tC {α:Type} {A H B:List α} {k m:Nat} (h:A.length=k) (h2:H.length=m):(A++(H++B)).drop (k+m)=B:=by
 rw [<-List.append_assoc];exact List.drop_left' (by simp [h,h2])
theorem A8 {A B:List Va} {y:Va} {k:Nat} (h:A.length=k):(A++([y]++B)).getD k va0=y:=by
 subst h;simp [List.getD_eq_getElem?_getD]
theorem rQ {L:List field.Fd} {V:List Va} {i:Nat} {f:field.Fd} {y:Va} (h:L.length=V.length):cu (dK L i f) (iO V i y)↔cu L V/\f.Has y:=by
 unfold dK iO;rw [sQ (by simp [h]) rfl,ni];conv=>rhs;rw [<-List.take_append_drop i L,<-List.take_append_drop i V,kQ (by simp [h])]
 exact t110
theorem AX {L:List field.Fd} {V:List Va} {k:Nat} {x:field.Fd} {y:Va} (hx:L[k]?=some x) (hy:V[k]?=some y):cu L V↔cu (fD L k) (cutV V k)/\x.Has y:=by
 have h1:=(List.getElem?_eq_some_iff.1 hx).1;have h2:=(List.getElem?_eq_some_iff.1 hy).1;rw [nY hx hy];unfold fD cutV;rw [kQ (by simp;omega)]
 exact t110
theorem ve {V:List Va} {k:Nat} {y:Va} (h:k<=V.length):cutV (iO V k y) k=V:=by
 unfold cutV iO;have hl:(V.take k).length=k:=by simp;omega
 rw [pV hl,tC hl (by rfl),List.take_append_drop]
theorem vJ {V:List Va} {k:Nat} {y:Va} (h:V[k]?=some y):iO (cutV V k) k y=V:=by
 have hk:=(List.getElem?_eq_some_iff.1 h).1;unfold cutV iO;have hl:(V.take k).length=k:=by simp;omega
 rw [pV hl,wz hl];exact (lG h).symm
theorem wK {V:List Va} {k:Nat} {y:Va} (h:k<=V.length):(iO V k y).getD k va0=y:=A8 (by simp;omega)
theorem jL {V:List Va} {k:Nat} (h:k<V.length):(cutV V k).length=V.length - 1:=by unfold cutV;simp;omega
theorem kN {V:List field.Fd} {k:Nat} (h:k<V.length):(fD V k).length=V.length - 1:=by unfold fD;simp;omega
theorem uK (V:List Va) (k:Nat) (y:Va):(iO V k y).length=V.length+1:=by unfold iO;simp;omega
theorem qM {l:List Int} {i:Nat} {x:Int} (h:l.Nodup) (hi:l[i]?=some x):ai l x=i:=by
 obtain ⟨hk,rfl⟩:=List.getElem?_eq_some_iff.1 hi;unfold ai;rw [if_pos (List.getElem_mem hk),List.Nodup.idxOf_getElem h]
theorem qO {f:field.Fd} {v:Va} (h:f.Has v) (hk:f.kind≠4):v=vn v.n:=by
 obtain ⟨_,_,h3⟩:=h;unfold field.Fd.long at h3;rw [if_neg hk] at h3;obtain ⟨n,⟨⟨s⟩⟩⟩:=v;unfold vn;congr 1;have:s.length=0:=by
  have h4:((⟨⟨s⟩⟩:ByteArray).size:Int)<=0:=h3;have h5:(⟨⟨s⟩⟩:ByteArray).size=s.length:=rfl;omega
 rw [List.eq_nil_of_length_eq_zero this]
theorem zC {x:field.Fd} {y:Va} (h:x.Has y):chk x y=(y,0):=if_pos h
theorem vk {x:field.Fd} {y z:Va} (h:chk x y=(z,0)):x.Has z/\y=z:=by
 unfold chk at h;by_cases hx:x.Has y
 ·rw [if_pos hx] at h;cases h;exact ⟨hx,rfl⟩
 ·rw [if_neg hx] at h;have:=(Prod.mk.inj h).2;simp at this
end turn
namespace step
open Go.RowKit
abbrev Z16:List Value:=zZ
end step
namespace step
open Go.RowKit
open schema (fdV dV gQ jS jR rq)
def qJ (l:List Int):List Value:=l.map fun n=>Value.int .i64 n
theorem Gw {w:World} {base n:Nat} {a:Option Addr} {cap:Nat} {L:List Int} {e:TypeId} (h:w.ownsRow base e 1 (.slice a n cap) n (qJ L)):Ins w a L/\n=L.length:=by
 obtain ⟨hl,hr⟩:=h;have hn:n=L.length:=by have:(qJ L).length=L.length:=List.length_map _;omega
 rcases hr with ⟨hv,h0⟩ | ⟨b,cap',cur,hv,_,hg,hcp,_,_,htake⟩
 ·cases hv
  exact ⟨.inl (List.eq_nil_of_length_eq_zero om_),hn⟩
 ·cases hv
  refine ⟨.inr ⟨b,0,rfl,(Array.getElem?_eq_some_iff.1 hg).1,fun i p hp=> ?_⟩,hn⟩;have hi:i<L.length:=(List.getElem?_eq_some_iff.1 hp).1;have h1:(qJ L)[i]?=some (.int .i64 p):=by simp [qJ,hp]
  rw [<-htake,List.getElem?_take,if_pos om_] at h1
  exact t88
theorem H6:(prog.info? 3).map (fun i=>(i.zero,i.size,i.bytes))=some (some (.int .i64 0),1,8):=by kernel_rfl
theorem wM:∃i,prog.info? 3=some i/\i.zero=some (.int .i64 0)/\i.size=1/\i.bytes=8:=by
 obtain ⟨i,hi,he⟩:=Option.map_eq_some_iff.1 H6
 exact t91
def jm (B:Nat) (w:World) (p:St):Prop:=w.ownsRow B 3 1 (.slice p.ta p.s.t.length p.tc) p.s.t.length (qJ p.s.t)/\w.ownsRow B 26 5 (.slice p.la p.s.l.length p.lc) p.s.l.length (fdV p.s.l)
theorem jm.lists {B:Nat} {w:World} {p:St} (h:jm B w p):Lists w p.s p.ta p.la:=
 ⟨(Gw h.1).1,(gQ h.2).1,Nat.le_trans (jS h.1).1 (jS h.1).2,Nat.le_trans (jS h.2).1 (jS h.2).2⟩
theorem jm.low {B B':Nat} {w:World} {p:St} (h:jm B w p) (hB:B'<=B):jm B' w p:=⟨dV h.1 hB,dV h.2 hB⟩
theorem jm.later {B:Nat} {w w':World} {p:St} (h:jm B w p) (hb:Below w.heap.size w w'):jm B w' p:=⟨aK h.1 hb,aK h.2 hb⟩
theorem qw:(32:TypeId)≠3:=by decide
theorem wV:(32:TypeId)≠26:=by decide
theorem jm.nil (B:Nat) (w:World) (s:Sp) (ht:s.t=[]) (hl:s.l=[]):jm B w ⟨s,none,0,none,0⟩:=by
 refine ⟨?_, ?_⟩
 ·show w.ownsRow B _ 1 (.slice none s.t.length 0) s.t.length (qJ s.t)
  rw [ht];exact World.ownsRow_nil _ _ _ _
 ·show w.ownsRow B _ 5 (.slice none s.l.length 0) s.l.length (fdV s.l)
  rw [hl];exact World.ownsRow_nil _ _ _ _
theorem jm.stay {w w':World} {B:Nat} {p:St} (h:jm B w p) (h1:jR 3 w w') (h2:jR 26 w w'):jm B w' p:=⟨h1.row h.1,h2.row h.2⟩
theorem Fq {w:World} {a:Option Addr} {L:List Int} (h:Ins w a L):L.length=0\/∃ad,a=some ad/\∀j u,(qJ L)[j]?=some u->w.cell? (ad.add j)=some u:=by
 rcases h with h | ⟨b,off,ha,hlt,hc⟩
 ·exact .inl (by rw [h];rfl)
 ·refine .inr ⟨_,ha,fun j u hj=> ?_⟩;unfold qJ at hj;rw [List.getElem?_map,Option.map_eq_some_iff] at hj;obtain ⟨n,hn,rfl⟩:=hj;rw [Addr.add_lit];exact hc j n hn
theorem Ah (L:List Int):(qJ L).length=L.length:=List.length_map _
theorem GZ (L:List Int):∀v∈qJ L,v.oneCell'=true:=by intro v hv;obtain ⟨x,_,rfl⟩:=List.mem_map.1 hv;rfl
theorem AY (W:World) (a:Option Addr) (n c:Nat):(binOp .eql 29 (.slice a n c) (.slice none 0 0)).run prog W=.ok (.bool a.isNone) W:=by
 have h:=run_equal_slice_nil (P:=prog) W 29 3 a n c underlying29;simp [binOp,h,Result.andThen]
def DN (L:List Int) (w:World) (e:Ending) (w':World):Prop:=∃v,e=.returned v/\w'.ownsRow w.heap.size 3 1 v L.length (qJ L)/\Below w.heap.size w w'
set_option maxRecDepth 20000 in
theorem CS (a:Option Addr) (cap:Nat) (L:List Int) (w:World) (h:Ins w a L) (hL:L.length<=1000000):
  Calls prog 106 #[.slice a L.length cap] w (DN L w):=by
 obtain ⟨i0,hi,hz0,hz1,hz2⟩:=wM;cases a with
 | none=>
  have en:=AY w none L.length cap;simp only [Option.isNone_none] at en;have hl:L=[]:=by
   rcases h with h | ⟨b,off,h,_⟩
   ·exact h
   ·cases h
  have HR:Hid (DN L w (.returned (.slice none 0 0)) w):=hid ⟨_,rfl,by rw [hl];exact World.ownsRow_nil _ _ _ _,Below.refl _ _⟩;clear h hl hL;generalize DN L w=R at *;generalize L.length=n at *;go_enter func106,ntmps106;go_wp2;exact HR.o
 | some ad=>
  have en:=AY w (some ad) L.length cap;simp only [Option.isNone_some] at en;have hb:Below w.heap.size w (w.alloc (.cells #[] 3)):=(Below.refl _ _).alloc (Nat.le_refl _) _;have HB:=hid hb;have HN:=hid (Fq (h.below hb));have HU:=hid (Ah L);have HN2:Hid (0+L.length<=maxLen):=by show _<=_;unfold maxLen;omega
  have HN3:Hid ((0+L.length)*8<=140737488355328):=by show _<=_;omega
  have HO:=hid (World.ownsRow_made (base:=w.heap.size) (e:=3) (size:=1) w #[] 0 (Nat.le_refl _) (Nat.zero_le _) rfl);have H1:=hid (GZ L);clear h hb hL;unfold DN;generalize hX:qJ L=X at *;clear hX;generalize hn:L.length=n at *;clear hn;go_enter func106,ntmps106;go_wp2_with (at_builtin;refine fV rfl _ _ 29 rfl w.heap.size 3 i0 (.int .i64 0) 8 underlying29 hi hz0 hz1 hz2 rfl (.slice (some ⟨w.heap.size,0,none⟩) 0 0) 0 [] rfl HO.o (some ad) n cap X rfl HU.o HN.o H1.o HN2.o HN3.o HB.o.size ?_);intro v' w1 ho hg;have hbl:Below w.heap.size w w1:=HB.o.grown hg HB.o.size (fun k hk=>by cases hk;exact Nat.le_refl _);have ho':w1.ownsRow w.heap.size 3 1 v' n X:=by simpa using ho
  have HO2:=hid ho';have HB2:=hid hbl;clear ho ho' hbl hg;go_wp2;go_ret;exact ⟨_,rfl,HO2.o,HB2.o⟩
end step
end Go.Proofs.YtdnegbkhndekpaaGreat
