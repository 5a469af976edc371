/- Contracts and lemmas that claims of this seat share: SchemaFields. Each says its own conditions. -/
import Derived.Test.YtogfefdlffmioaaCmWord
import Derived.Test.YtogfefdlffmioaaCmO
import Derived.Test.YtogfefdlffmioaaCmF
set_option linter.unusedVariables false
namespace Go.Proofs.Ytogfefdlffmioaa
open Go.Proofs.Try
theorem t100{P:Prop}(h:P:=by
 go_ret;exact⟨rfl,HB.o.trans ((aX aQ).mono HB.o.size)⟩):P:=h
theorem t12{P:Prop}(h:P:=by
 go_wp2;go_ret;exact⟨rfl,Below.refl _ _⟩):P:=h
namespace ak
open Go.RowKit
open field (Gives aI ay dB)
theorem dY(n lo hi:Int)(w:World):Calls prog 32 #[.int .i64 n,.int .i64 lo,.int .i64 hi] w (Gives (.bool (decide (lo<=n/\n<=hi))) w):=by
 obtain⟨v,hv⟩:∃v:Bool,Hid (decide (lo<=n/\n<=hi)=v):=⟨_,rfl⟩;rw[hv.o];unfold Gives;by_cases h1:lo<=n
 ·by_cases h2:n<=hi
  ·obtain rfl:true=v:=by rw[<-hv.o];simp[h1,h2]
   go_enter func32,ntmps32
   exact t12
  ·obtain rfl:false=v:=by rw[<-hv.o];simp[h1,h2]
   have hd:decide (n<=hi)=false:=decide_eq_false h2;go_enter func32,ntmps32
   exact t12
 ·obtain rfl:false=v:=by rw[<-hv.o];simp[h1]
  have hd:decide (lo<=n)=false:=decide_eq_false h1;go_enter func32,ntmps32
  exact t12
def pG(l:List Int):List Value:=(List.range 256).map fun j:Nat=>Value.bool (decide ((j:Int)∈l))
theorem uV(l:List Int)(n:Nat)(h:n<256):(pG l)[n]?=some (.bool (decide ((n:Int)∈l))):=by simp[pG,h]
theorem Dw(l:List Int)(n:Nat)(h:n<256):(pG l).set n (.bool true)=pG (l++[(n:Int)]):=by
 apply List.ext_getElem?;intro i;rw[List.getElem?_set];by_cases hi:i<256
 ·rw[uV _ i hi,uV _ i hi];by_cases hn:n=i
  ·subst hn;simp[pG,h]
  ·rw[if_neg hn];simp;omega
 ·simp[pG];simp[hi];omega
theorem Bj:Try.zeroCells118=(pG []).toArray:=by kernel_rfl
theorem uj(a:Option Addr)(cap:Nat)(L:List field.Fd)(w:World)(h:field.Fds w a L)(hL:L.length<=maxLen):
  Calls prog 58 #[.slice a L.length cap] w (Gives (.bool (decide (iV L))) w):=by
 have hml:(L.length:Int)<=9223372036854775807:=by unfold maxLen at hL;omega
 obtain⟨v,hv⟩:∃v:Bool,Hid (decide (iV L)=v):=⟨_,rfl⟩;rw[hv.o];unfold Gives;have HF:=hid h;have HZ:Hid (Block (w.alloc (.cells Try.zeroCells118 118)) w.heap.size 118 (pG [])):=by rw[Bj];exact hid (Block.new w 118 (pG []))
 have HN:=hid (aI w (.cells Try.zeroCells118 118));clear h hL;go_enter func58,ntmps58;go_wp2;generalize w.alloc (.cells Try.zeroCells118 118)=w1 at *;obtain⟨B,hB⟩:∃B:Nat,Hid (w.heap.size=B):=⟨_,rfl⟩;rw[hB.o] at HZ ⊢;go_loopw [8] (fun n wr=>∃k:Nat,k<=L.length/\n=.int .i64 (k:Int)/\Hid (iV (L.take k))/\Hid (Block wr B 118 (pG (ids (L.take k))))/\Hid (Below w.heap.size w wr)) (fun n _=>L.length - (intOf n).toNat);case atStart=>exact⟨0,Nat.zero_le _,rfl,hid iV.nil,HZ,HN⟩
 case round=>
  obtain⟨k,hk,rfl,nK,Lh,HB⟩:=hrel;by_cases bI:k<L.length
  ·obtain⟨b,off,p,rfl,jV,hp,c0,c1,c2,c3,c4⟩:=eX HF.o HB.o bI;have i1:(k:Int)<L.length:=by omega
   have HP:=hid hp;have oP:=hid (yL hp);have iM:=hid (pO hp);have Lj:Hid (ids (L.take (k+1))=ids (L.take k)++[p.id]):=hid (by rw[aH hp];simp[ids]);have cs:=fun w'=>dB p w'
   clear hp;generalize hI:ids (L.take k)=I at *;clear hI;by_cases hr:p.Right
   ·obtain⟨n,hn⟩:=Int.eq_ofNat_of_zero_le hr.1.1;have KZ:n<=255:=by have:=hr.1.2;omega
    rw[decide_eq_true hr] at cs;have HR:=hid hr;clear hr;obtain⟨q,qk,ql,qh,qm⟩:=p;simp only at hn oP iM Lj HR c0 c1 c2 c3 c4 cs;subst hn;have hsd:=uV I n om_;by_cases hm:(n:Int)∈I
    ·rw[decide_eq_true hm] at hsd;obtain rfl:false=v:=by rw[<-hv.o];exact(decide_eq_false (oP.o (fun h=>h.2 hm))).symm
     clear hm;have H5:=hid (field.five ⟨n,qk,ql,qh,qm⟩ wr);go_wp2_with (go_at_call 81;((with_reducible refine(cs _).mono ?_);rintro e w2 ⟨rfl,aQ⟩;have hc:=((Lh.o.alloc _).later aQ).cell n;rw[hsd] at hc;have z0:=(H5.o w2 aQ).1))
     exact t100
    ·rw[decide_eq_false hm] at hsd;have HM:=hid hm;clear hm;have H5:=hid (field.five ⟨n,qk,ql,qh,qm⟩ wr);have Ls:=hid (show w.heap.size<=B by rw[hB.o];exact Nat.le_refl _);go_wp2_with (go_at_call 81;((with_reducible refine(cs _).mono ?_);rintro e w2 ⟨rfl,aQ⟩;have iI:=(Lh.o.alloc _).later aQ;have hc:=iI.cell n;rw[hsd] at hc;have z0:=(H5.o w2 aQ).1;have Ql:=iI.frozen n;have Iu:=hid iI;clear iI));refine⟨⟨k+1,by omega,by go_num,hid (iM.o.2 ⟨nK.o,HR.o,HM.o⟩),hid ?_,hid ?_⟩,by simp[intOf];omega⟩
     ·have:=Iu.o.setCell n (.bool true);rw[Dw _ _ om_] at this;rw[Lj.o];exact this
     ·exact below_setCells (HB.o.trans ((aX aQ).mono HB.o.size)) Ls.o n [.bool true]
   ·obtain rfl:false=v:=by rw[<-hv.o];exact(decide_eq_false (oP.o (fun h=>hr h.1))).symm
    rw[decide_eq_false hr] at cs;clear hr;go_wp2_with (go_at_call 81;((with_reducible refine(cs _).mono ?_);rintro e w2 ⟨rfl,aQ⟩))
    exact t100
  ·obtain rfl:k=L.length:=by omega
   obtain rfl:true=v:=by rw[<-hv.o];have:=nK.o;rw[List.take_of_length_le (Nat.le_refl _)] at this;exact(decide_eq_true this).symm
   go_wp2;go_ret;exact⟨rfl,HB.o⟩
end ak
end Go.Proofs.Ytogfefdlffmioaa
