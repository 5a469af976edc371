/- Contracts and lemmas that claims of this seat share: BitsLen. Each says its own conditions. -/
import Derived.Test.YtogfefdlffmioaaGreatCmWord
import Derived.IntWalk
import Derived.Test.YtogfefdlffmioaaGreatCmC
import Derived.Test.YtogfefdlffmioaaGreatCmD
set_option linter.unusedVariables false
namespace Go.Proofs.YtogfefdlffmioaaGreat
open Go.Proofs.Tryz
theorem t113{P:Prop}(h:P:=by
 rw[IntWalk.wrap64_in (q:Int) om_,IntWalk.wrap64_in _ om_]):P:=h
namespace field
open Go.RowKit
theorem dec_no{p:Prop}[Decidable p](h:¬p):decide p=false:=decide_eq_false h
theorem wrap_u8{x:Int}{n:Nat}(h:x=(n:Int))(hn:n<256):IntKind.u8.wrap x=(n:Int):=by subst h;simp[IntKind.wrap,IntKind.bits,IntKind.signed];omega
theorem len_sum{q:Nat}(a:Int)(h0:0<=a)(ha:a<=40)(hq:q<=8):wrap64 (a+wrap64 (q:Int))=a+(q:Int):=by
 exact t113
theorem len_one{q:Nat}(hq:q<=8):wrap64 (wrap64 (q:Int))=(q:Int):=by
 exact t113
set_option maxRecDepth 1000000 in
set_option maxHeartbeats 4000000 in
theorem len64_any(x:Nat)(hx:x<281474976710656)(w:World):
  Calls prog 120 #[.int .u64 (x:Int)] w fun e w'=>∃L:Nat,e=.returned (.int .i64 (L:Int))/\L<=64/\(L+7) / 8=wide x/\∃n,w'=w.drewN n:=by
 go_enter func120,ntmps120;generalize hT:ByteArray.mk _=T;have hs:T.size=256:=by rw[<-hT];decide+kernel
 have nP:∀i:Fin 256,(T.data.getD i.val 0).toNat<=8/\((T.data.getD i.val 0).toNat=0↔i.val=0):=by rw[<-hT];decide+kernel
 have ht:∀(i:Nat) (h:i<T.size),i<256->(T[i]'h).toNat<=8/\((T[i]'h).toNat=0↔i=0):=fun i h hi=>by
  have:=nP ⟨i,hi⟩;have h':i<T.data.size:=h;simp only[Array.getD,h',dif_pos] at this;exact this
 have HT:=hid ht;have HS:=hid hs;have hT1:∀i:Nat,i<256->(i:Int)<T.size:=fun i hi=>by rw[hs];omega
 have HT1:=hid hT1;have HX:=hid hx;clear hT hs ht nP hT1 hx;by_cases c0:x<256
 ·have hw:wide x=if x=0 then 0 else 1:=by unfold wide;rw[if_pos c0]
  have HW:=hid hw;obtain⟨y,hy⟩:∃y,Hid (x / 1=y):=⟨_,rfl⟩;have hy256:y<256:=by have:=hy.o;have:=HX.o;omega
  have j0:(0:Int)<=(y:Int):=by omega
  have j1:=HT1.o y hy256;have t4294967296:¬(x:Int)≥4294967296:=by have:=HX.o;omega
  have u4294967296:=dec_no t4294967296;have t65536:¬(x:Int)≥65536:=by have:=HX.o;omega
  have u65536:=dec_no t65536;have t256:¬(x:Int)≥256:=by have:=HX.o;omega
  have u256:=dec_no t256;have hwr:IntKind.u8.wrap ((x:Int))=(y:Int):=wrap_u8 (by have:=hy.o;omega) hy256;clear hw;clear c0;go_wp2;go_ret;have b:=HT.o y (by have:=HS.o;omega) hy256;refine⟨0+(T[y]'(by have:=HS.o;omega)).toNat,ret_int ((len_one b.1).trans om_),by omega, ?_,0,rfl⟩;rw[HW.o];have:=hy.o;split <;> omega
 by_cases c1:x<65536
 ·have hw:wide x=2:=by have:=HX.o;unfold wide;rw[if_neg om_];rw[if_neg om_];rw[if_pos om_]
  have HW:=hid hw;obtain⟨y,hy⟩:∃y,Hid (x / 256=y):=⟨_,rfl⟩;have hy256:y<256:=by have:=hy.o;have:=HX.o;omega
  have j0:(0:Int)<=(y:Int):=by omega
  have j1:=HT1.o y hy256;have t4294967296:¬(x:Int)≥4294967296:=by have:=HX.o;omega
  have u4294967296:=dec_no t4294967296;have t65536:¬(x:Int)≥65536:=by have:=HX.o;omega
  have u65536:=dec_no t65536;have t256:(x:Int)≥256:=by have:=HX.o;omega
  have hwr:IntKind.u8.wrap ((x:Int) / 256)=(y:Int):=wrap_u8 (by have:=hy.o;omega) hy256;clear hw;clear c0 c1;go_wp2;go_ret;have b:=HT.o y (by have:=HS.o;omega) hy256;refine⟨8+(T[y]'(by have:=HS.o;omega)).toNat,ret_int ((len_sum 8 om_ om_ b.1).trans om_),by omega, ?_,0,rfl⟩;rw[HW.o];have:=hy.o;omega
 by_cases c2:x<16777216
 ·have hw:wide x=3:=by have:=HX.o;unfold wide;rw[if_neg om_];rw[if_neg om_];rw[if_neg om_];rw[if_pos om_]
  have HW:=hid hw;obtain⟨y,hy⟩:∃y,Hid (x / 65536=y):=⟨_,rfl⟩;have hy256:y<256:=by have:=hy.o;have:=HX.o;omega
  have j0:(0:Int)<=(y:Int):=by omega
  have j1:=HT1.o y hy256;have t4294967296:¬(x:Int)≥4294967296:=by have:=HX.o;omega
  have u4294967296:=dec_no t4294967296;have t65536:(x:Int)≥65536:=by have:=HX.o;omega
  have t256:¬(x:Int) / 65536≥256:=by have:=HX.o;omega
  have u256:=dec_no t256;have hwr:IntKind.u8.wrap ((x:Int) / 65536)=(y:Int):=wrap_u8 (by have:=hy.o;omega) hy256;clear hw;clear c0 c1 c2;go_wp2;go_ret;have b:=HT.o y (by have:=HS.o;omega) hy256;refine⟨16+(T[y]'(by have:=HS.o;omega)).toNat,ret_int ((len_sum 16 om_ om_ b.1).trans om_),by omega, ?_,0,rfl⟩;rw[HW.o];have:=hy.o;omega
 by_cases c3:x<4294967296
 ·have hw:wide x=4:=by have:=HX.o;unfold wide;rw[if_neg om_];rw[if_neg om_];rw[if_neg om_];rw[if_neg om_];rw[if_pos om_]
  have HW:=hid hw;obtain⟨y,hy⟩:∃y,Hid (x / 16777216=y):=⟨_,rfl⟩;have hy256:y<256:=by have:=hy.o;have:=HX.o;omega
  have j0:(0:Int)<=(y:Int):=by omega
  have j1:=HT1.o y hy256;have t4294967296:¬(x:Int)≥4294967296:=by have:=HX.o;omega
  have u4294967296:=dec_no t4294967296;have t65536:(x:Int)≥65536:=by have:=HX.o;omega
  have t256:(x:Int) / 65536≥256:=by have:=HX.o;omega
  have hwr:IntKind.u8.wrap ((x:Int) / 65536 / 256)=(y:Int):=wrap_u8 (by have:=hy.o;omega) hy256;clear hw;clear c0 c1 c2 c3;go_wp2;go_ret;have b:=HT.o y (by have:=HS.o;omega) hy256;refine⟨24+(T[y]'(by have:=HS.o;omega)).toNat,ret_int ((len_sum 24 om_ om_ b.1).trans om_),by omega, ?_,0,rfl⟩;rw[HW.o];have:=hy.o;omega
 by_cases c4:x<1099511627776
 ·have hw:wide x=5:=by have:=HX.o;unfold wide;rw[if_neg om_];rw[if_neg om_];rw[if_neg om_];rw[if_neg om_];rw[if_neg om_];rw[if_pos om_]
  have HW:=hid hw;obtain⟨y,hy⟩:∃y,Hid (x / 4294967296=y):=⟨_,rfl⟩;have hy256:y<256:=by have:=hy.o;have:=HX.o;omega
  have j0:(0:Int)<=(y:Int):=by omega
  have j1:=HT1.o y hy256;have t4294967296:(x:Int)≥4294967296:=by have:=HX.o;omega
  have t65536:¬(x:Int) / 4294967296≥65536:=by have:=HX.o;omega
  have u65536:=dec_no t65536;have t256:¬(x:Int) / 4294967296≥256:=by have:=HX.o;omega
  have u256:=dec_no t256;have hwr:IntKind.u8.wrap ((x:Int) / 4294967296)=(y:Int):=wrap_u8 (by have:=hy.o;omega) hy256;clear hw;clear c0 c1 c2 c3 c4;go_wp2;go_ret;have b:=HT.o y (by have:=HS.o;omega) hy256;refine⟨32+(T[y]'(by have:=HS.o;omega)).toNat,ret_int ((len_sum 32 om_ om_ b.1).trans om_),by omega, ?_,0,rfl⟩;rw[HW.o];have:=hy.o;omega
 have hw:wide x=6:=by have:=HX.o;unfold wide;rw[if_neg om_];rw[if_neg om_];rw[if_neg om_];rw[if_neg om_];rw[if_neg om_];rw[if_neg om_]
 have HW:=hid hw;obtain⟨y,hy⟩:∃y,Hid (x / 1099511627776=y):=⟨_,rfl⟩;have hy256:y<256:=by have:=hy.o;have:=HX.o;omega
 have j0:(0:Int)<=(y:Int):=by omega
 have j1:=HT1.o y hy256;have t4294967296:(x:Int)≥4294967296:=by have:=HX.o;omega
 have t65536:¬(x:Int) / 4294967296≥65536:=by have:=HX.o;omega
 have u65536:=dec_no t65536;have t256:(x:Int) / 4294967296≥256:=by have:=HX.o;omega
 have hwr:IntKind.u8.wrap ((x:Int) / 4294967296 / 256)=(y:Int):=wrap_u8 (by have:=hy.o;omega) hy256;clear hw;clear c0 c1 c2 c3 c4;go_wp2;go_ret;have b:=HT.o y (by have:=HS.o;omega) hy256;refine⟨40+(T[y]'(by have:=HS.o;omega)).toNat,ret_int ((len_sum 40 om_ om_ b.1).trans om_),by omega, ?_,0,rfl⟩;rw[HW.o];have:=hy.o;omega
theorem len_any(x:Nat)(hx:x<281474976710656)(w:World):
  Calls prog 115 #[.int .u64 (x:Int)] w fun e w'=>∃L:Nat,e=.returned (.int .i64 (L:Int))/\L<=64/\(L+7) / 8=wide x/\∃n,w'=w.drewN n:=by
 have cl:=len64_any x hx;have HX:=hid hx;clear hx;go_enter func115,ntmps115;go_wp2_with (go_at_call 120;(with_reducible refine(cl _).mono ?_);rintro e w' ⟨L,rfl,h1,h2,m,rfl⟩);go_ret;exact⟨L,rfl,h1,h2,m,rfl⟩
end field
end Go.Proofs.YtogfefdlffmioaaGreat
