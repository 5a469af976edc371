/- Contracts and lemmas that claims of this seat share: FieldSize. Each says its own conditions. -/
import Derived.Test.YtogfefdlffmioaaCmWord
import Derived.Test.YtogfefdlffmioaaCmI
set_option linter.unusedVariables false
namespace Go.Proofs.Ytogfefdlffmioaa
open Go.Proofs.Try
theorem t45{P:Prop}(h:P:=by
 go_enter func82,ntmps82;go_wp2_with (go_at_call 81;(with_reducible refine cr.mono ?_);rintro e w1 ⟨rfl,bQ⟩;have kz:=HS.o _ bQ);go_ret;exact⟨rfl,HB.o _ bQ⟩):P:=h
theorem t17{P:Prop}(h:P:=by
 clear h4 h2;rw[if_neg de_];clear O7;have hu:IntKind.u64.wrap (T:Int)=(T:Int):=by have:=HT.o;rw[IntWalk.u64_in _ om_]
 go_enter func82,ntmps82;go_wp2_with (first
  | (go_at_call 81;(with_reducible refine cr.mono ?_);rintro e w1 ⟨rfl,bQ⟩;have kz:=HS.o _ bQ)
  | (go_at_call 97;(with_reducible refine(ct _ bQ).mono ?_);rintro e w2 ⟨rfl,aQ⟩)
  | (go_at_call 96;(with_reducible refine(cl _).mono ?_);rintro e w3 ⟨L,rfl,Ud,MG,nd,rfl⟩;have HL:=hid MG;clear MG))
 go_ret;exact⟨iK (by have:=HL.o;omega),HB.o _ (below_drewN aQ _)⟩):P:=h
namespace field
open Go.RowKit
theorem size_any(f:Fd)(w:World):Calls prog 82 #[zF f] w (Gives (.int .i64 (f.size:Int)) w):=by
 have HB:=hid (lq f w);have HS:=hid (five f w);have hsz:f.size=if f.Right then(if f.kind=4 then 1+f.most.toNat else wide (f.great - f.lo).toNat) else 0:=rfl
 rw[hsz];have cr:=ay (dB f (w.alloc (.cells (zF f) 47))) (w0:=(w.alloc (.cells (zF f) 47))) (Below.refl _ _);by_cases hr:f.Right
 ·rw[if_pos hr];rw[decide_eq_true hr] at cr;have hk:=kinds hr;have hsp:=hr.span;obtain⟨T,hT⟩:∃T:Nat,f.great - f.lo=(T:Int):=⟨(f.great - f.lo).toNat,by omega⟩;have O7:T<=2199023255552:=by omega
  have ct:=fun(w1:World) (hb:Below (w.alloc (.cells (zF f) 47)).heap.size (w.alloc (.cells (zF f) 47)) w1)=>ay (Ho f hr w1) hb
  rw[hT] at ct;have cl:=len_any T om_;rw[hT];have h4:f.kind=4->0<=f.most/\f.most<=32:=by intro h4;unfold Fd.Right at hr;omega
  have h2:f.kind=2->f.great - f.lo=1:=by intro h2;unfold Fd.Right at hr;unfold Fd.great;rw[h2];simp;omega
  rw[hT] at h2;clear hr hsp hsz hT;obtain⟨i,k,lo,hi,m⟩:=f;simp only at hk h4 h2 HB HS cr ct ⊢;rw[show((T:Int)).toNat=T from rfl];unfold Gives;have HT:=hid O7;rcases hk with rfl | rfl | rfl | rfl
  ·exact t17
  ·have hT1:T=1:=by have:=h2 rfl;omega
   subst hT1;clear h4 h2;rw[if_neg de_,show wide 1=1 from rfl]
   exact t45
  ·exact t17
  ·obtain⟨m1,m2⟩:=h4 rfl;clear h4 h2;rw[if_pos rfl];obtain⟨M,rfl⟩:=Int.eq_ofNat_of_zero_le m1;rw[show((M:Int)).toNat=M from rfl];go_enter func82,ntmps82;go_wp2_with (go_at_call 81;(with_reducible refine cr.mono ?_);rintro e w1 ⟨rfl,bQ⟩;have kz:=HS.o _ bQ);go_ret;exact⟨iK om_,HB.o _ bQ⟩
 ·rw[if_neg hr];rw[decide_eq_false hr] at cr;clear hr hsz;unfold Gives
  exact t45
end field
end Go.Proofs.Ytogfefdlffmioaa
