/- Contracts and lemmas that claims of this seat share: StepSame. Each says its own conditions. -/
import Derived.Test.YtogfefdlffmioaaGreatCmWord
import Derived.Handy
import Derived.Conc.WalkWords
import Derived.Test.YtogfefdlffmioaaGreatCmS
import Derived.Test.YtogfefdlffmioaaGreatCmAH
import Derived.Test.YtogfefdlffmioaaGreatCmAI
import Derived.Test.YtogfefdlffmioaaGreatCmAE
set_option linter.unusedVariables false
namespace Go.Proofs.YtogfefdlffmioaaGreat
open Go.Proofs.Tryz
theorem t132{P:Prop}(h:P:=by
 have HPQ:=hid aS;have hd:(p == q)=true:=by rw[beq_iff_eq];exact aS
 have hd2:(p != q)=false:=by simp[aS]
 exact t16):P:=h
theorem t41{P:Prop}(h:P:=by
 go_simp;obtain⟨n,s⟩:=p;obtain⟨m,t⟩:=q;rw[show decide ((⟨n,s⟩:field.Va)=⟨m,t⟩)=decide (n=m/\s.toList=t.toList) from decide_eq_decide.2 record.va_eq];by_cases h1:n=m
 ·by_cases h2:s.toList=t.toList <;> simp[h1,h2]
 ·simp[h1]):P:=h
namespace step
open Go.RowKit
open field (Gives newB gives_from)
open schema (below_out take_succ_at eq_take_succ neq_fd equalF_any exec_two exec_load_at exec_cell_slice info_fd)
theorem eq_seven(a b c d e f g a' b' c' d' e' f' g':Int)(w:World):(binOp .eql 139 (.agg #[.int .i64 a,.int .i64 b,.int .i64 c,.int .i64 d,.int .i64 e,.int .i64 f,.int .i64 g]) (.agg #[.int .i64 a',.int .i64 b',.int .i64 c',.int .i64 d',.int .i64 e',.int .i64 f',.int .i64 g'])).run prog w=.ok (.bool (decide (a=a'/\b=b'/\c=c'/\d=d'/\e=e'/\f=f'/\g=g'))) w:=by
 have u3:=underlying3;have a3:=isAgg3;have z3:=Tryz.sizeOf3;rw[run_eql_struct,show(10000:Nat)=9999+1 from rfl,Op.equalIn];simp only[Sem.run_bind,run_underlying underlying139,Result.andThen_ok];simp only[Std.Legacy.Range.forIn_eq_forIn_range',Std.Legacy.Range.size,Nat.sub_zero,Nat.add_sub_cancel,Nat.div_one,List.range'_succ,List.range'_zero,List.forIn_cons,List.forIn_nil];go_simp;by_cases h1:a=a'
 ·by_cases h2:b=b'
  ·by_cases h3:c=c'
   ·by_cases h4:d=d'
    ·by_cases h5:e=e'
     ·by_cases h6:f=f'
      ·by_cases h7:g=g' <;> simp[h1,h2,h3,h4,h5,h6,h7]
      ·simp[h1,h2,h3,h4,h5,h6]
     ·simp[h1,h2,h3,h4,h5]
    ·simp[h1,h2,h3,h4]
   ·simp[h1,h2,h3]
  ·simp[h1,h2]
 ·simp[h1]
theorem eqg_seven(x y:Operand)(u v:Array Value)(w:World):(eqGuard .eql 139 x y (.agg u) (.agg v)).run prog w=.ok () w:=
 run_eqGuard_agg w .eql 139 x y _ _ kr_
theorem eq_fd(p q:field.Fd)(w:World):(binOp .eql 79 (zF p) (zF q)).run prog w=.ok (.bool (decide (p=q))) w:=by
 rw[run_eql_struct,show(10000:Nat)=9999+1 from rfl,run_equalIn_struct w 9999 79 _ _ kr_ Tryz.stoodInHeld79]
 exact t31
theorem eqg_fd(op:BinOp)(x y:Operand)(u v:Array Value)(w:World):(eqGuard op 79 x y (.agg u) (.agg v)).run prog w=.ok () w:=
 run_eqGuard_agg w op 79 x y _ _ kr_
theorem eq_va(p q:field.Va)(w:World):(binOp .eql 81 (zV p) (zV q)).run prog w=.ok (.bool (decide (p=q))) w:=by
 rw[run_eql_struct,show(10000:Nat)=9999+1 from rfl,run_equalIn_struct w 9999 81 _ _ kr_ Tryz.stoodInHeld81]
 exact t41
theorem neq_va(p q:field.Va)(w:World):(binOp .neq 81 (zV p) (zV q)).run prog w=.ok (.bool (!decide (p=q))) w:=by
 rw[run_neq_struct,show(10000:Nat)=9999+1 from rfl,run_equalIn_struct w 9999 81 _ _ kr_ Tryz.stoodInHeld81]
 exact t41
theorem eqg_va(op:BinOp)(x y:Operand)(u v:Array Value)(w:World):(eqGuard op 81 x y (.agg u) (.agg v)).run prog w=.ok () w:=
 run_eqGuard_agg w op 81 x y _ _ kr_
theorem equalI_any(a:Option Addr)(ca:Nat)(L:List Int)(b:Option Addr)(cb:Nat)(M:List Int)(w:World)(h:Ins w a L)(h':Ins w b M)(hL:L.length<=maxLen)(hM:M.length<=maxLen):
  Calls prog 108 #[.slice a L.length ca,.slice b M.length cb] w (Gives (.bool (decide (L=M))) w):=by
 have hml:(L.length:Int)<=9223372036854775807:=by unfold maxLen at hL;omega
 have hmm:(M.length:Int)<=9223372036854775807:=by unfold maxLen at hM;omega
 have HF:=hid h;have HG:=hid h';obtain⟨r,hr⟩:∃r:Bool,Hid (decide (L=M)=r):=⟨_,rfl⟩;rw[hr.o];unfold Gives;clear h h' hL hM;by_cases hlen:L.length=M.length
 ·have HLEN:=hid hlen;rw[<-hlen];clear hlen hmm;go_enter func108,ntmps108;go_wp2;go_loopw [13] (fun n wr=>∃k:Nat,k<=L.length/\n=.int .i64 (k:Int)/\Hid (L.take k=M.take k)/\Hid (Below w.heap.size w wr)) (fun n _=>L.length - (intOf n).toNat);case atStart=>exact⟨0,Nat.zero_le _,rfl,hid rfl,hid (Below.refl _ _)⟩
  case round=>
   obtain⟨k,hk,rfl,HEQ,HB⟩:=hrel;by_cases au:k<L.length
   ·obtain⟨g,off,p,rfl,bQ,hp,c0⟩:=int_at HF.o HB.o au;obtain⟨g',off',q,rfl,fC,hq,d0⟩:=int_at HG.o HB.o (k:=k) (by rw[<-HLEN.o];exact au);have i1:(k:Int)<L.length:=by omega
    have HS:=hid (eq_take_succ hp hq);have HNE:=hid (fun(aS:¬p=q)=>show ¬L=M from fun e=>by rw[e] at hp;exact aS (Option.some.inj (hp.symm.trans hq)));clear hp hq;by_cases aS:p=q
    ·exact t132
    ·obtain rfl:false=r:=by rw[<-hr.o];exact(decide_eq_false (HNE.o aS)).symm
     have hd:(p == q)=false:=by rw[beq_eq_false_iff_ne];exact aS
     have hd2:(p != q)=true:=by simp[aS]
     exact t90
   ·exact t35
 ·obtain rfl:false=r:=by rw[<-hr.o];exact(decide_eq_false (fun e=>hlen (by rw[e]))).symm
  have hd:((L.length:Int) == (M.length:Int))=false:=by rw[beq_eq_false_iff_ne];omega
  clear hlen;go_enter func108,ntmps108
  exact t13
theorem numbers_any(s:Sp)(ta:Option Addr)(tc:Nat)(la:Option Addr)(lc:Nat)(w:World):Calls prog 107 #[zP s ta tc la lc] w (Gives (.agg #[.int .i64 s.op,.int .i64 s.fm,.int .i64 s.fd,.int .i64 s.pl,.int .i64 s.tt,.int .i64 s.a,.int .i64 s.b]) w):=by
 have HW:=hid (newB w (.cells (zP s ta tc la lc) 84));unfold Gives;go_enter func107,ntmps107;go_wp2;go_returns;exact⟨rfl,HW.o.trans ((newB _ _).mono si_)⟩
end step
end Go.Proofs.YtogfefdlffmioaaGreat
