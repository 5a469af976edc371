/- Contracts and lemmas that claims of this seat share: FieldSize. Each says its own conditions. -/
import Derived.Test.YtogfefdlffmioaaGreatCmWord
import Derived.Test.YtogfefdlffmioaaGreatCmG
set_option linter.unusedVariables false
namespace Go.Proofs.YtogfefdlffmioaaGreat
open Go.Proofs.Tryz
theorem t54{P:Prop}(h:P:=by
 go_enter func103,ntmps103;go_wp2_with (go_at_call 102;(with_reducible refine cr.mono ?_);rintro e w1 ⟨rfl,ak⟩;have bU:=HS.o _ ak);go_ret;exact⟨rfl,HB.o _ ak⟩):P:=h
theorem t18{P:Prop}(h:P:=by
 clear h4 h2;rw[if_neg de_];clear hTb;have hu:IntKind.u64.wrap (T:Int)=(T:Int):=by have:=HT.o;rw[IntWalk.u64_in _ om_]
 go_enter func103,ntmps103;go_wp2_with (first
  | (go_at_call 102;(with_reducible refine cr.mono ?_);rintro e w1 ⟨rfl,ak⟩;have bU:=HS.o _ ak)
  | (go_at_call 116;(with_reducible refine(ct _ ak).mono ?_);rintro e w2 ⟨rfl,aj⟩)
  | (go_at_call 115;(with_reducible refine(cl _).mono ?_);rintro e w3 ⟨L,rfl,qR,ny,nd,rfl⟩;have HL:=hid ny;clear ny))
 go_ret;exact⟨ret_int (by have:=HL.o;omega),HB.o _ (below_drewN aj _)⟩):P:=h
namespace field
open Go.RowKit
theorem size_any(f:Fd)(w:World):Calls prog 103 #[zF f] w (Gives (.int .i64 (f.size:Int)) w):=by
 have HB:=hid (belowF f w);have HS:=hid (five f w);have hsz:f.size=if f.Right then(if f.kind=4 then 1+f.most.toNat else wide (f.great - f.lo).toNat) else 0:=rfl
 rw[hsz];have cr:=gives_from (right_any f (w.alloc (.cells (zF f) 79))) (w0:=(w.alloc (.cells (zF f) 79))) (Below.refl _ _);by_cases hr:f.Right
 ·rw[if_pos hr];rw[decide_eq_true hr] at cr;have hk:=kinds hr;have hsp:=hr.span;obtain⟨T,hT⟩:∃T:Nat,f.great - f.lo=(T:Int):=⟨(f.great - f.lo).toNat,by omega⟩;have hTb:T<=2199023255552:=by omega
  have ct:=fun(w1:World) (hb:Below (w.alloc (.cells (zF f) 79)).heap.size (w.alloc (.cells (zF f) 79)) w1)=>gives_from (top_any f hr w1) hb
  rw[hT] at ct;have cl:=len_any T om_;rw[hT];have h4:f.kind=4->0<=f.most/\f.most<=32:=by intro h4;unfold Fd.Right at hr;omega
  have h2:f.kind=2->f.great - f.lo=1:=by intro h2;unfold Fd.Right at hr;unfold Fd.great;rw[h2];simp;omega
  rw[hT] at h2;clear hr hsp hsz hT;obtain⟨i,k,lo,hi,m⟩:=f;simp only at hk h4 h2 HB HS cr ct ⊢;rw[show((T:Int)).toNat=T from rfl];unfold Gives;have HT:=hid hTb;rcases hk with rfl | rfl | rfl | rfl
  ·exact t18
  ·have hT1:T=1:=by have:=h2 rfl;omega
   subst hT1;clear h4 h2;rw[if_neg de_,show wide 1=1 from rfl]
   exact t54
  ·exact t18
  ·obtain⟨m1,m2⟩:=h4 rfl;clear h4 h2;rw[if_pos rfl];obtain⟨M,rfl⟩:=Int.eq_ofNat_of_zero_le m1;rw[show((M:Int)).toNat=M from rfl];go_enter func103,ntmps103;go_wp2_with (go_at_call 102;(with_reducible refine cr.mono ?_);rintro e w1 ⟨rfl,ak⟩;have bU:=HS.o _ ak);go_ret;exact⟨ret_int om_,HB.o _ ak⟩
 ·rw[if_neg hr];rw[decide_eq_false hr] at cr;clear hr hsz;unfold Gives
  exact t54
end field
end Go.Proofs.YtogfefdlffmioaaGreat
