/- Contracts and lemmas that claims of this seat share: FieldSpanFrom, FieldRefRight. Each says its own conditions. -/
import Derived.Test.YtogfefdlffmioaaGreatCmWord
import Derived.Test.YtogfefdlffmioaaGreatCmG
import Derived.Test.YtogfefdlffmioaaGreatCmU
set_option linter.unusedVariables false
namespace Go.Proofs.YtogfefdlffmioaaGreat
open Go.Proofs.Tryz
namespace field
open Go.RowKit
theorem span_from(f:Fd)(h:f.Right){w0 w:World}(hb:Below w0.heap.size w0 w):Calls prog 96 #[zF f] w fun e w'=>e=.returned (.tuple #[.int .i64 f.lo,.int .i64 f.great,.int .i64 f.long,.bool true])/\Below w0.heap.size w0 w':=
 (span_yes f h w).mono fun _ _ ⟨he,hw⟩=>⟨he,hb.trans (hw.mono hb.size)⟩
theorem span_from_no(f:Fd)(h:¬f.Right){w0 w:World}(hb:Below w0.heap.size w0 w):Calls prog 96 #[zF f] w fun e w'=>(∃a b c:Int,e=.returned (.tuple #[.int .i64 a,.int .i64 b,.int .i64 c,.bool false]))/\Below w0.heap.size w0 w':=
 (span_no f h w).mono fun _ _ ⟨he,hw⟩=>⟨he,hb.trans (hw.mono hb.size)⟩
end field
namespace field
open Go.RowKit
theorem refRight_any(f:Fd)(w:World):Calls prog 69 #[zF f] w (Gives (.bool (decide f.Right)) w):=by
 have HB:=hid (belowF f w);unfold Gives;by_cases h:f.Right
 ·rw[decide_eq_true h];have cs:=span_from f h (w0:=(w.alloc (.cells (zF f) 79))) (Below.refl _ _);clear h;generalize f.great=G at *;generalize f.long=L at *;go_enter func69,ntmps69;go_wp2_with (go_at_call 96;(with_reducible refine cs.mono ?_);rintro e w1 ⟨rfl,ak⟩);go_ret;exact⟨rfl,HB.o _ ak⟩
 ·rw[decide_eq_false h];have cs:=span_from_no f h (w0:=(w.alloc (.cells (zF f) 79))) (Below.refl _ _);clear h;go_enter func69,ntmps69;go_wp2_with (go_at_call 96;(with_reducible refine cs.mono ?_);rintro e w1 ⟨⟨a,b,c,rfl⟩,ak⟩);go_ret;exact⟨rfl,HB.o _ ak⟩
theorem refWide_any(n:Nat)(hn:n<281474976710656)(w:World):Calls prog 111 #[.int .i64 (n:Int)] w (Quiet (.int .i64 (wide n:Int)) w):=by
 go_enter func111,ntmps111;go_wp2;go_loopw [0,3] (fun m k wr=>∃(q j:Nat),m=.int .i64 (q:Int)/\k=.int .i64 (j:Int)/\q<=n/\j<=100/\Hid (j+wide q=wide n)/\w=wr) (fun m k wr=>(intOf m).toNat);case atStart=>exact⟨n,0,rfl,rfl,Nat.le_refl _,by omega,hid om_,rfl⟩
 case round=>
  obtain⟨q,j,rfl,rfl,hq,hj,hw,rfl⟩:=hrel;by_cases au:0<q
  ·have hd:=wide_div au om_;have hw6:=wide_le n;have:=hw.o;have hj6:j<7:=by omega
   have HN:Hid (j+1+wide (q / 256)=wide n):=hid om_;clear hw hd this;go_wp2;go_round
   ·exact⟨q / 256,j+1,by simp,by simp,by omega,by omega,HN,trivial⟩
   ·simp[intOf];omega
  ·obtain rfl:q=0:=by omega
   have hj2:=hw.o;rw[show wide 0=0 from rfl] at hj2;obtain rfl:j=wide n:=by omega
   clear hw hj2 au;generalize wide n=W at *;go_wp2;go_ret;exact⟨rfl,0,rfl⟩
theorem refSize_any(f:Fd)(w:World):Calls prog 97 #[zF f] w (Gives (.int .i64 (f.size:Int)) w):=by
 have HB:=hid (belowF f w);have HS:=hid (five f w);have hsz:f.size=if f.Right then(if f.kind=4 then 1+f.most.toNat else wide (f.great - f.lo).toNat) else 0:=rfl
 rw[hsz];unfold Gives;by_cases hr:f.Right
 ·rw[if_pos hr];have cs:=span_from f hr (w0:=(w.alloc (.cells (zF f) 79))) (Below.refl _ _);have hsp:=hr.span;by_cases h4:f.kind=4
  ·rw[if_pos h4];have hl:f.long=f.most:=by unfold Fd.long;rw[if_pos h4]
   rw[hl] at cs;have hm:0<=f.most/\f.most<=32:=by unfold Fd.Right at hr;omega
   obtain⟨M,hM⟩:=Int.eq_ofNat_of_zero_le hm.1;rw[hM] at cs HB HS ⊢;rw[show((M:Int)).toNat=M from rfl];have m2:M<=32:=by omega
   have e4:(f.kind == 4)=true:=by rw[beq_iff_eq];exact h4
   clear hl hm hsp hr hsz h4;generalize f.great=G at *;go_enter func97,ntmps97;go_wp2_with (go_at_call 96;go_loud ((with_reducible refine cs.mono ?_);rintro e w1 ⟨rfl,ak⟩;have bU:=HS.o _ ak));go_ret;exact⟨ret_int om_,HB.o _ ak⟩
  ·rw[if_neg h4];obtain⟨T,hT⟩:∃T:Nat,f.great - f.lo=(T:Int):=⟨(f.great - f.lo).toNat,by omega⟩;have hTb:T<=2199023255552:=by omega
   rw[hT];rw[show((T:Int)).toNat=T from rfl];have cw:=refWide_any T om_;have e4:(f.kind == 4)=false:=by rw[beq_eq_false_iff_ne];exact h4
   have s1:=hsp.2.2.1;have s2:=hsp.2.2.2.1;clear hsp hr hsz h4;generalize f.great=G at *;generalize f.long=L at *;obtain rfl:G=f.lo+(T:Int):=by omega
   clear hT;have hsub:f.lo+(T:Int) - f.lo=(T:Int):=by omega
   go_enter func97,ntmps97;go_wp2_with (first
    | (go_at_call 96;(with_reducible refine cs.mono ?_);rintro e w1 ⟨rfl,ak⟩;have bU:=HS.o _ ak)
    | (go_at_call 111;(try rw[hsub]);(with_reducible refine(cw _).mono ?_);rintro e w2 ⟨rfl,nd,rfl⟩))
   go_ret;exact⟨rfl,HB.o _ (below_drewN ak _)⟩
 ·rw[if_neg hr];have cs:=span_from_no f hr (w0:=(w.alloc (.cells (zF f) 79))) (Below.refl _ _);clear hr hsz;go_enter func97,ntmps97;go_wp2_with (go_at_call 96;(with_reducible refine cs.mono ?_);rintro e w1 ⟨⟨a,b,c,rfl⟩,ak⟩;have bU:=HS.o _ ak);go_ret;exact⟨rfl,HB.o _ ak⟩
end field
end Go.Proofs.YtogfefdlffmioaaGreat
