/- Contracts and lemmas that claims of this seat share: SchemaFields. Each says its own conditions. -/
import Derived.Test.YtogfefdlffmioaaGreatCmWord
import Derived.Test.YtogfefdlffmioaaGreatCmD
import Derived.Test.YtogfefdlffmioaaGreatCmO
set_option linter.unusedVariables false
namespace Go.Proofs.YtogfefdlffmioaaGreat
open Go.Proofs.Tryz
theorem t105{P:Prop}(h:P:=by
 go_ret;exact⟨rfl,HB.o.trans ((below_out aj).mono HB.o.size)⟩):P:=h
theorem t13{P:Prop}(h:P:=by
 go_wp2;go_ret;exact⟨rfl,Below.refl _ _⟩):P:=h
namespace schema
open Go.RowKit
open field (Gives newB gives_from right_any)
theorem within_any(n lo hi:Int)(w:World):Calls prog 61 #[.int .i64 n,.int .i64 lo,.int .i64 hi] w (Gives (.bool (decide (lo<=n/\n<=hi))) w):=by
 obtain⟨v,hv⟩:∃v:Bool,Hid (decide (lo<=n/\n<=hi)=v):=⟨_,rfl⟩;rw[hv.o];unfold Gives;by_cases h1:lo<=n
 ·by_cases h2:n<=hi
  ·obtain rfl:true=v:=by rw[<-hv.o];simp[h1,h2]
   go_enter func61,ntmps61
   exact t13
  ·obtain rfl:false=v:=by rw[<-hv.o];simp[h1,h2]
   have hd:decide (n<=hi)=false:=decide_eq_false h2;go_enter func61,ntmps61
   exact t13
 ·obtain rfl:false=v:=by rw[<-hv.o];simp[h1]
  have hd:decide (lo<=n)=false:=decide_eq_false h1;go_enter func61,ntmps61
  exact t13
def seenV(l:List Int):List Value:=(List.range 256).map fun j:Nat=>Value.bool (decide ((j:Int)∈l))
theorem seenV_at(l:List Int)(n:Nat)(h:n<256):(seenV l)[n]?=some (.bool (decide ((n:Int)∈l))):=by simp[seenV,h]
theorem seenV_set(l:List Int)(n:Nat)(h:n<256):(seenV l).set n (.bool true)=seenV (l++[(n:Int)]):=by
 apply List.ext_getElem?;intro i;rw[List.getElem?_set];by_cases hi:i<256
 ·rw[seenV_at _ i hi,seenV_at _ i hi];by_cases hn:n=i
  ·subst hn;simp[seenV,h]
  ·rw[if_neg hn];simp;omega
 ·simp[seenV];simp[hi];omega
theorem seenV_zero:Tryz.zeroCells138=(seenV []).toArray:=by kernel_rfl
theorem fineFields_any(a:Option Addr)(cap:Nat)(L:List field.Fd)(w:World)(h:field.Fds w a L)(hL:L.length<=maxLen):
  Calls prog 88 #[.slice a L.length cap] w (Gives (.bool (decide (FineF L))) w):=by
 have hml:(L.length:Int)<=9223372036854775807:=by unfold maxLen at hL;omega
 obtain⟨v,hv⟩:∃v:Bool,Hid (decide (FineF L)=v):=⟨_,rfl⟩;rw[hv.o];unfold Gives;have HF:=hid h;have HZ:Hid (Block (w.alloc (.cells Tryz.zeroCells138 138)) w.heap.size 138 (seenV [])):=by rw[seenV_zero];exact hid (Block.new w 138 (seenV []))
 have HN:=hid (newB w (.cells Tryz.zeroCells138 138));clear h hL;go_enter func88,ntmps88;go_wp2;generalize w.alloc (.cells Tryz.zeroCells138 138)=w1 at *;obtain⟨B,hB⟩:∃B:Nat,Hid (w.heap.size=B):=⟨_,rfl⟩;rw[hB.o] at HZ ⊢;go_loopw [8] (fun n wr=>∃k:Nat,k<=L.length/\n=.int .i64 (k:Int)/\Hid (FineF (L.take k))/\Hid (Block wr B 138 (seenV (ids (L.take k))))/\Hid (Below w.heap.size w wr)) (fun n _=>L.length - (intOf n).toNat);case atStart=>exact⟨0,Nat.zero_le _,rfl,hid FineF.nil,HZ,HN⟩
 case round=>
  obtain⟨k,hk,rfl,HOK,HBl,HB⟩:=hrel;by_cases au:k<L.length
  ·obtain⟨b,off,p,rfl,bQ,hp,c0,c1,c2,c3,c4⟩:=field_at HF.o HB.o au;have i1:(k:Int)<L.length:=by omega
   have HP:=hid hp;have HNO:=hid (fineF_no hp);have HSUC:=hid (fineF_succ hp);have HIDS:Hid (ids (L.take (k+1))=ids (L.take k)++[p.id]):=hid (by rw[take_succ_at hp];simp[ids]);have cs:=fun w'=>right_any p w'
   clear hp;generalize hI:ids (L.take k)=I at *;clear hI;by_cases hr:p.Right
   ·obtain⟨n,hn⟩:=Int.eq_ofNat_of_zero_le hr.1.1;have mW:n<=255:=by have:=hr.1.2;omega
    rw[decide_eq_true hr] at cs;have HR:=hid hr;clear hr;obtain⟨q,qk,ql,qh,qm⟩:=p;simp only at hn HNO HSUC HIDS HR c0 c1 c2 c3 c4 cs;subst hn;have hsd:=seenV_at I n om_;by_cases hm:(n:Int)∈I
    ·rw[decide_eq_true hm] at hsd;obtain rfl:false=v:=by rw[<-hv.o];exact(decide_eq_false (HNO.o (fun h=>h.2 hm))).symm
     clear hm;have H5:=hid (field.five ⟨n,qk,ql,qh,qm⟩ wr);go_wp2_with (go_at_call 102;((with_reducible refine(cs _).mono ?_);rintro e w2 ⟨rfl,aj⟩;have hc:=((HBl.o.alloc _).later aj).cell n;rw[hsd] at hc;have z0:=(H5.o w2 aj).1))
     exact t105
    ·rw[decide_eq_false hm] at hsd;have HM:=hid hm;clear hm;have H5:=hid (field.five ⟨n,qk,ql,qh,qm⟩ wr);have HLT:=hid (show w.heap.size<=B by rw[hB.o];exact Nat.le_refl _);go_wp2_with (go_at_call 102;((with_reducible refine(cs _).mono ?_);rintro e w2 ⟨rfl,aj⟩;have aT:=(HBl.o.alloc _).later aj;have hc:=aT.cell n;rw[hsd] at hc;have z0:=(H5.o w2 aj).1;have qy:=aT.frozen n;have HBK:=hid aT;clear aT));refine⟨⟨k+1,by omega,by go_num,hid (HSUC.o.2 ⟨HOK.o,HR.o,HM.o⟩),hid ?_,hid ?_⟩,by simp[intOf];omega⟩
     ·have:=HBK.o.setCell n (.bool true);rw[seenV_set _ _ om_] at this;rw[HIDS.o];exact this
     ·exact below_setCells (HB.o.trans ((below_out aj).mono HB.o.size)) HLT.o n [.bool true]
   ·obtain rfl:false=v:=by rw[<-hv.o];exact(decide_eq_false (HNO.o (fun h=>hr h.1))).symm
    rw[decide_eq_false hr] at cs;clear hr;go_wp2_with (go_at_call 102;((with_reducible refine(cs _).mono ?_);rintro e w2 ⟨rfl,aj⟩))
    exact t105
  ·obtain rfl:k=L.length:=by omega
   obtain rfl:true=v:=by rw[<-hv.o];have:=HOK.o;rw[List.take_of_length_le (Nat.le_refl _)] at this;exact(decide_eq_true this).symm
   go_wp2;go_ret;exact⟨rfl,HB.o⟩
end schema
end Go.Proofs.YtogfefdlffmioaaGreat
