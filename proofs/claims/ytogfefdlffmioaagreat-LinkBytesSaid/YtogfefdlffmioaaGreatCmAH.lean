/- Contracts and lemmas that claims of this seat share: FieldsSame. Each says its own conditions. -/
import Derived.Test.YtogfefdlffmioaaGreatCmWord
import Derived.Laws.StructEq
import Derived.Test.YtogfefdlffmioaaGreatCmV
import Derived.Test.YtogfefdlffmioaaGreatCmO
set_option linter.unusedVariables false
namespace Go.Proofs.YtogfefdlffmioaaGreat
open Go.Proofs.Tryz
theorem t145{P:Prop}(h:P:=by
 rw[decide_eq_true aS] at aH;have HPQ:=hid aS
 exact t16):P:=h
theorem t94{P:Prop}(h:P:=by
 intro h;have:=List.append_inj' h rfl;exact⟨this.1,by simpa using this.2⟩):P:=h
theorem t90{P:Prop}(h:P:=by
 clear aS;go_wp2;go_quiet (fail);go_wp2;go_ret;exact⟨rfl,below_drewN HB.o _⟩):P:=h
theorem t35{P:Prop}(h:P:=by
 obtain rfl:k=L.length:=by omega
 obtain rfl:true=r:=by
  rw[<-hr.o];have:=HEQ.o;rw[List.take_of_length_le (Nat.le_refl _),List.take_of_length_le (by rw[HLEN.o];exact Nat.le_refl _)] at this;exact(decide_eq_true this).symm
 go_wp2;go_ret;exact⟨rfl,HB.o⟩):P:=h
theorem t31{P:Prop}(h:P:=by
 go_simp;obtain⟨i,k,lo,hi,m⟩:=p;obtain⟨i',k',lo',hi',m'⟩:=q;simp only[field.Fd.mk.injEq];by_cases h1:i=i'
 ·by_cases h2:k=k'
  ·by_cases h3:lo=lo'
   ·by_cases h4:hi=hi'
    ·by_cases h5:m=m' <;> simp[h1,h2,h3,h4,h5]
    ·simp[h1,h2,h3,h4]
   ·simp[h1,h2,h3]
  ·simp[h1,h2]
 ·simp[h1]):P:=h
theorem t16{P:Prop}(h:P:=by
 clear aS;go_wp2;go_quiet (fail);go_wp2;exact⟨⟨k+1,by omega,by go_num,hid (HS.o.2 ⟨HEQ.o,HPQ.o⟩),hid (below_drewN HB.o _)⟩,by simp[intOf];omega⟩):P:=h
namespace schema
open Go.RowKit
open field (Gives newB gives_from)
theorem neq_fd(p q:field.Fd)(w:World):(binOp .neq 79 (zF p) (zF q)).run prog w=.ok (.bool (!decide (p=q))) w:=by
 rw[run_neq_struct,show(10000:Nat)=9999+1 from rfl,run_equalIn_struct w 9999 79 _ _ kr_ Tryz.stoodInHeld79]
 exact t31
theorem eq_take_succ{α:Type}{L M:List α}{k:Nat}{p q:α}(hp:L[k]?=some p)(hq:M[k]?=some q):L.take (k+1)=M.take (k+1)↔L.take k=M.take k/\p=q:=by
 rw[take_succ_at hp,take_succ_at hq];have h1:=(List.getElem?_eq_some_iff.1 hp).1;have h2:=(List.getElem?_eq_some_iff.1 hq).1;constructor
 ·exact t94
 ·rintro⟨h,rfl⟩;rw[h]
theorem equalF_any(a:Option Addr)(ca:Nat)(L:List field.Fd)(b:Option Addr)(cb:Nat)(M:List field.Fd)(w:World)(h:field.Fds w a L)(h':field.Fds w b M)(hL:L.length<=maxLen)(hM:M.length<=maxLen):
  Calls prog 109 #[.slice a L.length ca,.slice b M.length cb] w (Gives (.bool (decide (L=M))) w):=by
 have hml:(L.length:Int)<=9223372036854775807:=by unfold maxLen at hL;omega
 have hmm:(M.length:Int)<=9223372036854775807:=by unfold maxLen at hM;omega
 have HF:=hid h;have HG:=hid h';obtain⟨r,hr⟩:∃r:Bool,Hid (decide (L=M)=r):=⟨_,rfl⟩;rw[hr.o];unfold Gives;clear h h' hL hM;by_cases hlen:L.length=M.length
 ·have HLEN:=hid hlen;rw[<-hlen];clear hlen hmm;go_enter func109,ntmps109;go_wp2;go_loopw [13] (fun n wr=>∃k:Nat,k<=L.length/\n=.int .i64 (k:Int)/\Hid (L.take k=M.take k)/\Hid (Below w.heap.size w wr)) (fun n _=>L.length - (intOf n).toNat);case atStart=>exact⟨0,Nat.zero_le _,rfl,hid rfl,hid (Below.refl _ _)⟩
  case round=>
   obtain⟨k,hk,rfl,HEQ,HB⟩:=hrel;by_cases au:k<L.length
   ·obtain⟨g,off,p,rfl,bQ,hp,c0,c1,c2,c3,c4⟩:=field_at HF.o HB.o au;obtain⟨g',off',q,rfl,fC,hq,d0,d1,d2,d3,d4⟩:=field_at HG.o HB.o (k:=k) (by rw[<-HLEN.o];exact au);have i1:(k:Int)<L.length:=by omega
    have HS:=hid (eq_take_succ hp hq);have aH:=fun W=>neq_fd p q W
    have HNE:=hid (fun(aS:¬p=q)=>show ¬L=M from fun e=>by rw[e] at hp;exact aS (Option.some.inj (hp.symm.trans hq)));clear hp hq;by_cases aS:p=q
    ·exact t145
    ·rw[decide_eq_false aS] at aH;obtain rfl:false=r:=by rw[<-hr.o];exact(decide_eq_false (HNE.o aS)).symm
     exact t90
   ·exact t35
 ·obtain rfl:false=r:=by rw[<-hr.o];exact(decide_eq_false (fun e=>hlen (by rw[e]))).symm
  have hd:((L.length:Int) == (M.length:Int))=false:=by rw[beq_eq_false_iff_ne];omega
  clear hlen;go_enter func109,ntmps109;go_wp2;go_ret;exact⟨rfl,Below.refl _ _⟩
end schema
end Go.Proofs.YtogfefdlffmioaaGreat
