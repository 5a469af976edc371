/- Contracts and lemmas that claims of this seat share: StepTable, FieldSmall, FieldStore. Each says its own conditions. -/
import Derived.Test.YtogfefdlffmioaaGreatCmWord
import Derived.IntWalk
import Derived.Handy
import Derived.Test.YtogfefdlffmioaaGreatCmE
import Derived.Test.YtogfefdlffmioaaGreatCmF
import Derived.Test.YtogfefdlffmioaaGreatCmG
import Derived.Test.YtogfefdlffmioaaGreatCmR
set_option linter.unusedVariables false
namespace Go.Proofs.YtogfefdlffmioaaGreat
open Go.Proofs.Tryz
theorem t88{P:Prop}(h:P:=by
 go_ret;exact⟨rfl,HB1.o.trans ((HB.o.trans (aK.mono HB.o.size)).mono HB1.o.size)⟩):P:=h
namespace step
open Go.RowKit
open field (Gives newB gives_from)
open schema (take_succ_at below_out)
def seenT(l:List Int):List Value:=(List.range 1000).map fun j:Nat=>Value.bool (decide ((j:Int)∈l))
theorem seenT_at(l:List Int)(n:Nat)(h:n<1000):(seenT l)[n]?=some (.bool (decide ((n:Int)∈l))):=by simp[seenT,h]
theorem seenT_set(l:List Int)(n:Nat)(h:n<1000):(seenT l).set n (.bool true)=seenT (l++[(n:Int)]):=by
 apply List.ext_getElem?;intro i;rw[List.getElem?_set];by_cases hi:i<1000
 ·rw[seenT_at _ i hi,seenT_at _ i hi];by_cases hn:n=i
  ·subst hn;simp[seenT,h]
  ·rw[if_neg hn];simp;omega
 ·simp[seenT];simp[hi];omega
theorem seenT_zero:Tryz.zeroCells146=(seenT []).toArray:=by kernel_rfl
def TabOk(lim:Int)(l:List Int):Prop:=(∀n∈l,0<=n/\n<=lim - 1)/\l.Nodup
theorem tab_succ{lim:Int}{L:List Int}{k:Nat}{x:Int}(h:L[k]?=some x):TabOk lim (L.take (k+1))↔TabOk lim (L.take k)/\(0<=x/\x<=lim - 1)/\x∉L.take k:=by
 rw[take_succ_at h];unfold TabOk;simp only[List.nodup_append,List.mem_append,List.mem_singleton];constructor
 ·rintro⟨h1,h2,h3,h4⟩;exact⟨⟨fun n hn=>h1 n (.inl hn),h2⟩,h1 x (.inr rfl),fun hm=>h4 _ hm _ rfl rfl⟩
 ·rintro⟨⟨h1,h2⟩,h3,h4⟩;exact⟨fun n hn=>hn.elim (h1 n) (fun e=>e ▸ h3),h2,by simp,fun a ha b hb e=>h4 (by rw[<-hb,<-e];exact ha)⟩
theorem tab_take{lim:Int}{L:List Int}(h:TabOk lim L)(k:Nat):TabOk lim (L.take k):=
 ⟨fun n hn=>h.1 n (List.mem_of_mem_take hn),h.2.sublist (List.take_sublist _ _)⟩
theorem tab_no{lim:Int}{L:List Int}{k:Nat}{x:Int}(h:L[k]?=some x)(hn:¬((0<=x/\x<=lim - 1)/\x∉L.take k)):¬TabOk lim L:=fun hf=>hn ((tab_succ h).1 (tab_take hf _)).2
theorem int_at{w w':World}{a:Option Addr}{L:List Int}(h:Ins w a L)(hb:Below w.heap.size w w'){k:Nat}(hk:k<L.length):
  ∃b off p,a=some ⟨b,off,none⟩/\b<w'.heap.size/\L[k]?=some p/\w'.cell? ⟨b,off+k,none⟩=some (.int .i64 p):=(h.below hb).at hk
set_option maxRecDepth 20000 in
theorem fineTable_any(a:Option Addr)(cap:Nat)(L:List Int)(lim:Int)(h1:1<=lim)(h2:lim<=1000)(w:World)(h:Ins w a L)(hL:L.length<=maxLen):
  Calls prog 105 #[.slice a L.length cap,.int .i64 lim] w (Gives (.bool (decide (Table L lim))) w):=by
 have hml:(L.length:Int)<=9223372036854775807:=by unfold maxLen at hL;omega
 obtain⟨v,hv⟩:∃v:Bool,Hid (decide (Table L lim)=v):=⟨_,rfl⟩;rw[hv.o];have cW:=within_any (L.length:Int) 1 64;unfold Gives at cW ⊢;have HF:=hid h;clear h hL;by_cases h3:1<=L.length/\L.length<=64
 ·rw[show decide ((1:Int)<=(L.length:Int)/\(L.length:Int)<=64)=true from decide_eq_true om_] at cW;have HTI:Hid (Table L lim↔TabOk lim L):=hid ⟨fun h=>h.2,fun h=>⟨h3,h⟩⟩;have cV:=fun n (w':World)=>within_any n 0 (lim - 1) w'
  clear h3;go_enter func105,ntmps105;go_wp2_with (go_at_call 104;((with_reducible refine(cW _).mono ?_);rintro e w1 ⟨rfl,ak⟩;have HB1:=hid ak;have HZ:Hid (Block (w1.alloc (.cells Tryz.zeroCells146 146)) w1.heap.size 146 (seenT [])):=(by rw[seenT_zero];exact hid (Block.new w1 146 (seenT [])));have HN:=hid (newB w1 (.cells Tryz.zeroCells146 146));have HLE:=hid ak.size;clear ak));have HF1:=hid (HF.o.below HB1.o);clear cW;generalize w1.alloc (.cells Tryz.zeroCells146 146)=w2 at *;obtain⟨B,hB⟩:∃B:Nat,Hid (w1.heap.size=B):=⟨_,rfl⟩;rw[hB.o] at HZ HLE ⊢;go_loopw [14] (fun n wr=>∃k:Nat,k<=L.length/\n=.int .i64 (k:Int)/\Hid (TabOk lim (L.take k))/\Hid (Block wr B 146 (seenT (L.take k)))/\Hid (Below w1.heap.size w1 wr)) (fun n _=>L.length - (intOf n).toNat);case atStart=>exact⟨0,Nat.zero_le _,rfl,hid ⟨by simp,by simp⟩,HZ,HN⟩
  case round=>
   obtain⟨k,hk,rfl,HOK,HBl,HB⟩:=hrel;by_cases au:k<L.length
   ·obtain⟨b,off,p,rfl,bQ,hp,c0⟩:=int_at HF1.o HB.o au;have i1:(k:Int)<L.length:=by omega
    have HP:=hid hp;have HNO:=hid (tab_no (lim:=lim) hp);have HSUC:=hid (tab_succ (lim:=lim) hp);have HTK:=hid (take_succ_at hp);have cs:=fun w'=>cV p w'
    clear hp;generalize hI:L.take k=I at *;clear hI;by_cases hr:0<=p/\p<=lim - 1
    ·obtain⟨n,rfl⟩:=Int.eq_ofNat_of_zero_le hr.1;have mW:n<1000:=by omega
     have pK:(n:Int)<1000:=by omega
     rw[decide_eq_true hr] at cs;have HR:=hid hr;clear hr;have hsd:=seenT_at I n mW;by_cases hm:(n:Int)∈I
     ·rw[decide_eq_true hm] at hsd;obtain rfl:false=v:=by rw[<-hv.o];exact(decide_eq_false (fun h=>HNO.o (fun h=>h.2 hm) (HTI.o.1 h))).symm
      clear hm;go_wp2_with (go_at_call 104;((with_reducible refine(cs _).mono ?_);rintro e w3 ⟨rfl,aK⟩;have hc:=(HBl.o.later aK).cell n;rw[hsd] at hc))
      exact t88
     ·rw[decide_eq_false hm] at hsd;have HM:=hid hm;clear hm;go_wp2_with (go_at_call 104;((with_reducible refine(cs _).mono ?_);rintro e w3 ⟨rfl,aK⟩;have aT:=HBl.o.later aK;have hc:=aT.cell n;rw[hsd] at hc;have qy:=aT.frozen n;have HBK:=hid aT;clear aT));refine⟨⟨k+1,by omega,by go_num,hid (HSUC.o.2 ⟨HOK.o,HR.o,HM.o⟩),hid ?_,hid ?_⟩,by simp[intOf];omega⟩
      ·have:=HBK.o.setCell n (.bool true);rw[seenT_set _ _ om_] at this;rw[HTK.o];exact this
      ·exact below_setCells (HB.o.trans (aK.mono HB.o.size)) (by rw[hB.o];exact Nat.le_refl _) n [.bool true]
    ·obtain rfl:false=v:=by rw[<-hv.o];exact(decide_eq_false (fun h=>HNO.o (fun h=>hr h.1) (HTI.o.1 h))).symm
     rw[decide_eq_false hr] at cs;clear hr;go_wp2_with (go_at_call 104;((with_reducible refine(cs _).mono ?_);rintro e w3 ⟨rfl,aK⟩))
     exact t88
   ·obtain rfl:k=L.length:=by omega
    obtain rfl:true=v:=by rw[<-hv.o];have:=HOK.o;rw[List.take_of_length_le (Nat.le_refl _)] at this;exact(decide_eq_true (HTI.o.2 this)).symm
    go_wp2;go_ret;exact⟨rfl,HB1.o.trans (HB.o.mono HB1.o.size)⟩
 ·rw[show decide ((1:Int)<=(L.length:Int)/\(L.length:Int)<=64)=false from decide_eq_false om_] at cW;obtain rfl:false=v:=by rw[<-hv.o];exact(decide_eq_false (fun h=>h3 h.1)).symm
  clear h3;go_enter func105,ntmps105;go_wp2_with (go_at_call 104;((with_reducible refine(cW _).mono ?_);rintro e w1 ⟨rfl,ak⟩));go_ret;exact⟨rfl,ak⟩
end step
namespace field
open Go.RowKit
theorem longest_any(f:Fd)(w:World):Calls prog 118 #[zF f] w (Gives (.int .i64 f.long) w):=by
 obtain⟨i,k,lo,hi,m⟩:=f;simp only;unfold Gives;by_cases hk:k=4
 ·subst hk;rw[show Fd.long ⟨i,4,lo,hi,m⟩=m from rfl];go_enter func118,ntmps118
  exact t39
 ·rw[show Fd.long ⟨i,k,lo,hi,m⟩=0 from if_neg hk];have e4:(k == 4)=false:=by rw[beq_eq_false_iff_ne];exact hk
  clear hk;go_enter func118,ntmps118
  exact t39
end field
namespace field
open Go.RowKit
theorem two(v:Va)(w w':World)(hb:Below (w.alloc (.cells (zV v) 81)).heap.size (w.alloc (.cells (zV v) 81)) w'):(w'.cell? ⟨w.heap.size,0,none⟩=some (.int .i64 v.n)/\w'.cell? ⟨w.heap.size,1,none⟩=some (.string v.s)):=by
 have hB:=(Block.new w 81 (zV v)).later hb;exact⟨hB.cell 0,hB.cell 1⟩
def W2(f:Fd)(w:World):World:=(w.alloc (.cells (zF f) 79)).alloc (.cells #[.int .i64 0,.string ⟨#[]⟩] 81)
theorem W2.all(f:Fd)(w w':World)(hb:Below (W2 f w).heap.size (W2 f w) w'):(w'.cell? ⟨w.heap.size,0,none⟩=some (.int .i64 f.id)/\w'.cell? ⟨w.heap.size,1,none⟩=some (.int .i64 f.kind)/\w'.cell? ⟨w.heap.size,2,none⟩=some (.int .i64 f.lo)/\w'.cell? ⟨w.heap.size,3,none⟩=some (.int .i64 f.hi)/\w'.cell? ⟨w.heap.size,4,none⟩=some (.int .i64 f.most))/\Block w' (w.heap.size+1) 81 [.int .i64 0,.string ⟨#[]⟩]/\Below w.heap.size w w':=by
 have h1:Below (w.alloc (.cells (zF f) 79)).heap.size (w.alloc (.cells (zF f) 79)) w':=(newB _ _).trans (hb.mono (by unfold W2;simp));refine⟨five f w w' h1, ?_,belowF f w w' h1⟩;have h2:=(Block.new (w.alloc (.cells (zF f) 79)) 81 [.int .i64 0,.string ⟨#[]⟩]).later hb;simpa using h2
end field
end Go.Proofs.YtogfefdlffmioaaGreat
