/- Contracts and lemmas that claims of this seat share: StepSame, StepSames. Each says its own conditions. -/
import Derived.Test.YtogkgbnpodojjaaGreatCmWord
import Derived.Handy
import Derived.Conc.WalkWords
import Derived.Test.YtogkgbnpodojjaaGreatCmF
import Derived.Test.YtogkgbnpodojjaaGreatCmC
import Derived.Test.YtogkgbnpodojjaaGreatCmR
import Derived.Test.YtogkgbnpodojjaaGreatCmS
set_option linter.unusedVariables false
namespace Go.Proofs.YtogkgbnpodojjaaGreat
open Go.Proofs.Tryz
namespace step
open Go.RowKit
open field (Gives ak aj)
open schema (aP aH jE BZ oQ dM ax bI dI)
theorem zy (a b c d e f g a' b' c' d' e' f' g':Int) (w:World):(binOp .eql 248 (.agg #[.int .i64 a,.int .i64 b,.int .i64 c,.int .i64 d,.int .i64 e,.int .i64 f,.int .i64 g]) (.agg #[.int .i64 a',.int .i64 b',.int .i64 c',.int .i64 d',.int .i64 e',.int .i64 f',.int .i64 g'])).run prog w=.ok (.bool (decide (a=a'/\b=b'/\c=c'/\d=d'/\e=e'/\f=f'/\g=g'))) w:=by
 have u3:=underlying3;have a3:=isAgg3;have z3:=Tryz.sizeOf3;rw [run_eql_struct,show (10000:Nat)=9999+1 from rfl,Op.equalIn];simp only [Sem.run_bind,run_underlying underlying248,Result.andThen_ok];simp only [Std.Legacy.Range.forIn_eq_forIn_range',Std.Legacy.Range.size,Nat.sub_zero,Nat.add_sub_cancel,Nat.div_one,List.range'_succ,List.range'_zero,List.forIn_cons,List.forIn_nil];go_simp;by_cases h1:a=a'
 ·by_cases h2:b=b'
  ·by_cases h3:c=c'
   ·by_cases h4:d=d'
    ·by_cases h5:e=e'
     ·by_cases h6:f=f'
      ·by_cases h7:g=g' <;> simp [h1,h2,h3,h4,h5,h6,h7]
      ·simp [h1,h2,h3,h4,h5,h6]
     ·simp [h1,h2,h3,h4,h5]
    ·simp [h1,h2,h3,h4]
   ·simp [h1,h2,h3]
  ·simp [h1,h2]
 ·simp [h1]
theorem l9 (x y:Operand) (u v:Array Value) (w:World):(eqGuard .eql 248 x y (.agg u) (.agg v)).run prog w=.ok () w:=
 run_eqGuard_agg w .eql 248 x y _ _ kr_
theorem Jp (p q:field.Fd) (w:World):(binOp .eql 52 (zF p) (zF q)).run prog w=.ok (.bool (decide (p=q))) w:=by
 rw [run_eql_struct,show (10000:Nat)=9999+1 from rfl,run_equalIn_struct w 9999 52 _ _ kr_ Tryz.stoodInHeld52]
 exact t40
theorem yA (op:BinOp) (x y:Operand) (u v:Array Value) (w:World):(eqGuard op 52 x y (.agg u) (.agg v)).run prog w=.ok () w:=
 run_eqGuard_agg w op 52 x y _ _ kr_
theorem Jq (p q:field.Va) (w:World):(binOp .eql 54 (zV p) (zV q)).run prog w=.ok (.bool (decide (p=q))) w:=by
 rw [run_eql_struct,show (10000:Nat)=9999+1 from rfl,run_equalIn_struct w 9999 54 _ _ kr_ Tryz.stoodInHeld54];go_simp;obtain ⟨n,s⟩:=p;obtain ⟨m,t⟩:=q;rw [show decide ((⟨n,s⟩:field.Va)=⟨m,t⟩)=decide (n=m/\s.toList=t.toList) from decide_eq_decide.2 record.Ll];by_cases h1:n=m
 ·by_cases h2:s.toList=t.toList <;> simp [h1,h2]
 ·simp [h1]
theorem BD (op:BinOp) (x y:Operand) (u v:Array Value) (w:World):(eqGuard op 54 x y (.agg u) (.agg v)).run prog w=.ok () w:=
 run_eqGuard_agg w op 54 x y _ _ kr_
theorem BF (a:Option Addr) (ca:Nat) (L:List Int) (b:Option Addr) (cb:Nat) (M:List Int) (w:World) (h:Ins w a L) (h':Ins w b M) (hL:L.length<=maxLen) (hM:M.length<=maxLen):
  Calls prog 218 #[.slice a L.length ca,.slice b M.length cb] w (Gives (.bool (decide (L=M))) w):=by
 have hml:(L.length:Int)<=9223372036854775807:=by unfold maxLen at hL;omega
 have hmm:(M.length:Int)<=9223372036854775807:=by unfold maxLen at hM;omega
 have HF:=hid h;have HG:=hid h';obtain ⟨r,hr⟩:∃r:Bool,Hid (decide (L=M)=r):=⟨_,rfl⟩;rw [hr.o];unfold Gives;clear h h' hL hM;by_cases hlen:L.length=M.length
 ·have HLEN:=hid hlen;rw [<-hlen];clear hlen hmm;go_enter func218,ntmps218;go_wp2;go_loopw [13] (fun n wr=>∃k:Nat,k<=L.length/\n=.int .i64 (k:Int)/\Hid (L.take k=M.take k)/\Hid (Below w.heap.size w wr)) (fun n _=>L.length - (intOf n).toNat);case atStart=>exact ⟨0,Nat.zero_le _,rfl,hid rfl,hid (Below.refl _ _)⟩
  case round=>
   obtain ⟨k,hk,rfl,HEQ,HB⟩:=hrel;by_cases hlt:k<L.length
   ·obtain ⟨g,off,p,rfl,hbl,hp,c0⟩:=yK HF.o HB.o hlt;obtain ⟨g',off',q,rfl,hbl',hq,d0⟩:=yK HG.o HB.o (k:=k) (by rw [<-HLEN.o];exact hlt);have i1:(k:Int)<L.length:=by omega
    have HS:=hid (jE hp hq);have HNE:=hid (fun (hpq:¬p=q)=>show ¬L=M from fun e=>by rw [e] at hp;exact hpq (Option.some.inj (hp.symm.trans hq)));clear hp hq;by_cases hpq:p=q
    ·have HPQ:=hid hpq;have hd:(p == q)=true:=by rw [beq_iff_eq];exact hpq
     have hd2:(p != q)=false:=by simp [hpq]
     exact t70
    ·obtain rfl:false=r:=by rw [<-hr.o];exact (decide_eq_false (HNE.o hpq)).symm
     have hd:(p == q)=false:=by rw [beq_eq_false_iff_ne];exact hpq
     have hd2:(p != q)=true:=by simp [hpq]
     exact t104
   ·exact t46
 ·obtain rfl:false=r:=by rw [<-hr.o];exact (decide_eq_false (fun e=>hlen (by rw [e]))).symm
  have hd:((L.length:Int) == (M.length:Int))=false:=by rw [beq_eq_false_iff_ne];omega
  clear hlen;go_enter func218,ntmps218
  exact t28
theorem rX (s:Sp) (ta:Option Addr) (tc:Nat) (la:Option Addr) (lc:Nat) (w:World):Calls prog 217 #[zP s ta tc la lc] w (Gives (.agg #[.int .i64 s.op,.int .i64 s.fm,.int .i64 s.fd,.int .i64 s.pl,.int .i64 s.tt,.int .i64 s.a,.int .i64 s.b]) w):=by
 have HW:=hid (ak w (.cells (zP s ta tc la lc) 57));unfold Gives;go_enter func217,ntmps217;go_wp2;go_returns;exact ⟨rfl,HW.o.trans ((ak _ _).mono si_)⟩
end step
theorem t141{P:Prop}(h:P:=by
 refine plan.Rest.done ?_;walk_nrm;go_wp2;go_ret;exact ⟨rfl,HB0.o.trans (hb.mono HB0.o.size)⟩):P:=h
theorem t123{P:Prop}(h:P:=by
 refine plan.Rest.first 11 _ (.bool false) rfl (fun w' hb'=>kr_) ?_;refine plan.Rest.first 12 _ (.bool false) rfl (fun w' hb'=>kr_) ?_;refine plan.Rest.skip 13 _ rfl ?_;refine plan.Rest.skip 14 _ rfl ?_;refine plan.Rest.skip 15 _ rfl ?_;refine plan.Rest.skip 16 _ rfl ?_;refine plan.Rest.skip 17 _ rfl ?_
 exact t9):P:=h
theorem t120{P:Prop}(h:P:=by
 refine plan.Rest.first 25 _ (.bool false) rfl (fun w' hb'=>kr_) ?_;refine plan.Rest.first 26 _ (.bool false) rfl (fun w' hb'=>kr_) ?_;refine plan.Rest.skip 27 _ rfl ?_;refine plan.Rest.skip 28 _ rfl ?_;refine plan.Rest.skip 29 _ rfl ?_;refine plan.Rest.skip 30 _ rfl ?_;refine plan.Rest.skip 31 _ rfl ?_;refine plan.Rest.first 32 _ (.bool false) rfl (fun w' hb'=>kr_) ?_;refine plan.Rest.value 33 _ (.bool false) rfl ?_
 exact t141):P:=h
theorem t9{P:Prop}(h:P:=by
 refine plan.Rest.first 18 _ (.bool false) rfl (fun w' hb'=>kr_) ?_;refine plan.Rest.first 19 _ (.bool false) rfl (fun w' hb'=>kr_) ?_;refine plan.Rest.skip 20 _ rfl ?_;refine plan.Rest.skip 21 _ rfl ?_;refine plan.Rest.skip 22 _ rfl ?_;refine plan.Rest.skip 23 _ rfl ?_;refine plan.Rest.skip 24 _ rfl ?_
 exact t120):P:=h
namespace step
open Go.RowKit
open field (Gives ak aj)
open schema (aP aH jE BZ oQ dM ax bI dI eP)
theorem aN:Hid ((prog.info? 57).map (·.size)=some 16):=by show _=_;kernel_rfl
theorem iE:Hid ((prog.info? 54).map (·.size)=some 2):=by show _=_;kernel_rfl
theorem kR {W:World} {B:Nat} {s:Sp} {ta:Option Addr} {tc:Nat} {la:Option Addr} {lc:Nat} (h:Block W B 57 (zP s ta tc la lc)):W.rangeAt B 7 (zF s.f):=
 h.range 7 _ (fun j v hj=>by
  match j,hj with
  | 0,hj=>exact hj
  | 1,hj=>exact hj
  | 2,hj=>exact hj
  | 3,hj=>exact hj
  | 4,hj=>exact hj
  | n+5,hj=>simp at hj)
theorem og {W:World} {B:Nat} {s:Sp} {ta:Option Addr} {tc:Nat} {la:Option Addr} {lc:Nat} (h:Block W B 57 (zP s ta tc la lc)):W.rangeAt B 12 (zV s.v):=
 h.range 12 _ (fun j v hj=>by
  match j,hj with
  | 0,hj=>exact hj
  | 1,hj=>exact hj
  | n+2,hj=>simp at hj)
def WP2 (s:Sp) (ta:Option Addr) (tc:Nat) (la:Option Addr) (lc:Nat) (u:Sp) (ua:Option Addr) (uc:Nat) (va:Option Addr) (vc:Nat) (w:World):World:=(w.alloc (.cells (zP s ta tc la lc) 57)).alloc (.cells (zP u ua uc va vc) 57)
theorem WP2.all (s:Sp) (ta:Option Addr) (tc:Nat) (la:Option Addr) (lc:Nat) (u:Sp) (ua:Option Addr) (uc:Nat) (va:Option Addr) (vc:Nat) (w:World):Block (WP2 s ta tc la lc u ua uc va vc w) w.heap.size 57 (zP s ta tc la lc)/\Block (WP2 s ta tc la lc u ua uc va vc w) (w.heap.size+1) 57 (zP u ua uc va vc)/\Below w.heap.size w (WP2 s ta tc la lc u ua uc va vc w):=by
 refine ⟨(Block.new w 57 (zP s ta tc la lc)).alloc _, ?_,(ak w _).trans ((ak _ _).mono si_)⟩;have h:=Block.new (w.alloc (.cells (zP s ta tc la lc) 57)) 57 (zP u ua uc va vc);rw [show ((w.alloc (.cells (zP s ta tc la lc) 57))).heap.size=w.heap.size+1 by simp] at h;exact h
theorem xP {s u:Sp}:s=u↔(s.op=u.op/\s.fm=u.fm/\s.fd=u.fd/\s.pl=u.pl/\s.tt=u.tt/\s.a=u.a/\s.b=u.b)/\s.f=u.f/\s.v=u.v/\s.t=u.t/\s.l=u.l:=by
 constructor
 ·rintro rfl;simp
 ·rintro ⟨⟨h1,h2,h3,h4,h5,h6,h7⟩,h8,h9,h10,h11⟩;cases s;cases u;simp only at *
  subst h1 h2 h3 h4 h5 h6 h7 h8 h9 h10 h11;rfl
set_option maxRecDepth 20000 in
set_option maxHeartbeats 3200000 in
theorem Hq (s:Sp) (ta:Option Addr) (tc:Nat) (la:Option Addr) (lc:Nat) (u:Sp) (ua:Option Addr) (uc:Nat) (va:Option Addr) (vc:Nat) (w:World) (h:Lists w s ta la) (h':Lists w u ua va):
  Calls prog 188 #[zP s ta tc la lc,zP u ua uc va vc] w (Gives (.bool (decide (s=u))) w):=by
 obtain ⟨hA,hU,hw⟩:=WP2.all s ta tc la lc u ua uc va vc w;have hl1:=h.below hw;have hl2:=h'.below hw;unfold WP2 at hA hU hw hl1 hl2;obtain ⟨W0,hW0⟩:∃x,(w.alloc (.cells (zP s ta tc la lc) 57)).alloc (.cells (zP u ua uc va vc) 57)=x:=⟨_,rfl⟩;have HW0:=hid hW0;rw [hW0] at hA hU hw hl1 hl2;have HZ:Hid (∀w',Below W0.heap.size W0 w'->Block w' w.heap.size 57 (zP s ta tc la lc)/\Block w' (w.heap.size+1) 57 (zP u ua uc va vc)):=hid (fun w' hb=>⟨hA.later hb,hU.later hb⟩);have HL1:=hid hl1;have HL2:=hid hl2;have HB0:=hid hw;have cN1:=fun w'=>rX s ta tc la lc w'
 have cN2:=fun w'=>rX u ua uc va vc w'
 have cT0:=fun w' (hb:Below W0.heap.size W0 w')=>BF ta tc s.t ua uc u.t w' (HL1.o.below hb).t (HL2.o.below hb).t HL1.o.mt HL2.o.mt
 have cL0:=fun w' (hb:Below W0.heap.size W0 w')=>oQ la lc s.l va vc u.l w' (HL1.o.below hb).l (HL2.o.below hb).l HL1.o.ml HL2.o.ml
 obtain ⟨r,hr⟩:∃r:Bool,Hid (decide (s=u)=r):=⟨_,rfl⟩;rw [hr.o];unfold Gives at cN1 cN2 cT0 cL0 ⊢;clear h h' hA hU hw hl1 hl2 hW0;by_cases h0:s.op=u.op/\s.fm=u.fm/\s.fd=u.fd/\s.pl=u.pl/\s.tt=u.tt/\s.a=u.a/\s.b=u.b
 ·have HE0:=hid (fun W=>zy s.op s.fm s.fd s.pl s.tt s.a s.b u.op u.fm u.fd u.pl u.tt u.a u.b W);rw [decide_eq_true h0] at HE0;by_cases h1:s.f=u.f
  ·have HE1:=hid (fun W=>Jp s.f u.f W);rw [decide_eq_true h1] at HE1;by_cases h2:s.v=u.v
   ·have HE2:=hid (fun W=>Jq s.v u.v W);rw [decide_eq_true h2] at HE2;by_cases h3:s.t=u.t
    ·have cT:=cT0;rw [decide_eq_true h3] at cT;have cL:=cL0;rw [show decide (s.l=u.l)=r by rw [<-hr.o];exact decide_eq_decide.2 ⟨fun e=>xP.2 ⟨h0,h1,h2,h3,e⟩,fun e=>(xP.1 e).2.2.2.2⟩] at cL;clear h0 h1 h2 h3 cT0 cL0;go_enter func188,ntmps188;go_wp2;rw [HW0.o];have hb:Below W0.heap.size W0 W0.drew:=below_drewN (Below.refl _ _) 1;refine plan.region kr_ ?_;refine plan.Rest.first 0 _ (zP s ta tc la lc) rfl (fun w' hb'=>ax (b:=w.heap.size) (off:=0) rfl ((HZ.o _ (hb.trans (hb'.mono hb.size))).1).whole underlying57 rfl aN.o) ?_;refine plan.Rest.first 2 _ (zP u ua uc va vc) rfl (fun w' hb'=>ax (b:=w.heap.size+1) (off:=0) rfl ((HZ.o _ (hb.trans (hb'.mono hb.size))).2).whole underlying57 rfl aN.o) ?_;refine plan.Rest.call 1 _ 217 #[zP s ta tc la lc] rfl ((cN1 W0.drew).mono ?_);rintro e W1 ⟨rfl,hn⟩;have hb:=hb.trans (hn.mono hb.size);refine ⟨_,rfl,hn, ?_⟩;refine plan.Rest.call 3 _ 217 #[zP u ua uc va vc] rfl ((cN2 W1).mono ?_);rintro e W2 ⟨rfl,hn⟩;have hb:=hb.trans (hn.mono hb.size);refine ⟨_,rfl,hn, ?_⟩;refine plan.Rest.first 4 _ (.bool true) rfl (fun w' hb'=>(dM rfl (l9 _ _ _ _ _) (HE0.o _))) ?_;refine plan.Rest.first 5 _ (.bool true) rfl (fun w' hb'=>kr_) ?_;refine plan.Rest.first 6 _ (.pointer (some ⟨w.heap.size,7,none⟩)) rfl (fun w' hb'=>kr_) ?_;refine plan.Rest.first 7 _ (zF s.f) rfl (fun w' hb'=>ax (b:=w.heap.size) (off:=7) rfl (kR ((HZ.o _ (hb.trans (hb'.mono hb.size))).1)) underlying52 rfl dI.o) ?_;refine plan.Rest.first 8 _ (.pointer (some ⟨w.heap.size+1,7,none⟩)) rfl (fun w' hb'=>kr_) ?_;refine plan.Rest.first 9 _ (zF u.f) rfl (fun w' hb'=>ax (b:=w.heap.size+1) (off:=7) rfl (kR ((HZ.o _ (hb.trans (hb'.mono hb.size))).2)) underlying52 rfl dI.o) ?_;refine plan.Rest.first 10 _ (.bool true) rfl (fun w' hb'=>(dM rfl (yA _ _ _ _ _ _) (HE1.o _))) ?_;refine plan.Rest.first 11 _ (.bool true) rfl (fun w' hb'=>kr_) ?_;refine plan.Rest.first 12 _ (.bool true) rfl (fun w' hb'=>kr_) ?_;refine plan.Rest.first 13 _ (.pointer (some ⟨w.heap.size,12,none⟩)) rfl (fun w' hb'=>kr_) ?_;refine plan.Rest.first 14 _ (zV s.v) rfl (fun w' hb'=>ax (b:=w.heap.size) (off:=12) rfl (og ((HZ.o _ (hb.trans (hb'.mono hb.size))).1)) underlying54 rfl iE.o) ?_;refine plan.Rest.first 15 _ (.pointer (some ⟨w.heap.size+1,12,none⟩)) rfl (fun w' hb'=>kr_) ?_;refine plan.Rest.first 16 _ (zV u.v) rfl (fun w' hb'=>ax (b:=w.heap.size+1) (off:=12) rfl (og ((HZ.o _ (hb.trans (hb'.mono hb.size))).2)) underlying54 rfl iE.o) ?_;refine plan.Rest.first 17 _ (.bool true) rfl (fun w' hb'=>(dM rfl (BD _ _ _ _ _ _) (HE2.o _))) ?_;refine plan.Rest.first 18 _ (.bool true) rfl (fun w' hb'=>kr_) ?_;refine plan.Rest.first 19 _ (.bool true) rfl (fun w' hb'=>kr_) ?_;refine plan.Rest.first 20 _ (.pointer (some ⟨w.heap.size,14,none⟩)) rfl (fun w' hb'=>kr_) ?_;refine plan.Rest.first 21 _ (.slice ta s.t.length tc) rfl (fun w' hb'=>bI (ad:=⟨w.heap.size,14,none⟩) rfl (((HZ.o _ (hb.trans (hb'.mono hb.size))).1).cell 14) isAgg55) ?_;refine plan.Rest.first 22 _ (.pointer (some ⟨w.heap.size+1,14,none⟩)) rfl (fun w' hb'=>kr_) ?_;refine plan.Rest.first 23 _ (.slice ua u.t.length uc) rfl (fun w' hb'=>bI (ad:=⟨w.heap.size+1,14,none⟩) rfl (((HZ.o _ (hb.trans (hb'.mono hb.size))).2).cell 14) isAgg55) ?_;refine plan.Rest.call 24 _ 218 #[.slice ta s.t.length tc,.slice ua u.t.length uc] rfl ((cT W2 hb).mono ?_);rintro e W3 ⟨rfl,hn⟩;have hb:=hb.trans (hn.mono hb.size);refine ⟨_,rfl,hn, ?_⟩;refine plan.Rest.first 25 _ (.bool true) rfl (fun w' hb'=>kr_) ?_;refine plan.Rest.first 26 _ (.bool true) rfl (fun w' hb'=>kr_) ?_;refine plan.Rest.first 27 _ (.pointer (some ⟨w.heap.size,15,none⟩)) rfl (fun w' hb'=>kr_) ?_;refine plan.Rest.first 28 _ (.slice la s.l.length lc) rfl (fun w' hb'=>bI (ad:=⟨w.heap.size,15,none⟩) rfl (((HZ.o _ (hb.trans (hb'.mono hb.size))).1).cell 15) isAgg47) ?_;refine plan.Rest.first 29 _ (.pointer (some ⟨w.heap.size+1,15,none⟩)) rfl (fun w' hb'=>kr_) ?_;refine plan.Rest.first 30 _ (.slice va u.l.length vc) rfl (fun w' hb'=>bI (ad:=⟨w.heap.size+1,15,none⟩) rfl (((HZ.o _ (hb.trans (hb'.mono hb.size))).2).cell 15) isAgg47) ?_;refine plan.Rest.call 31 _ 219 #[.slice la s.l.length lc,.slice va u.l.length vc] rfl ((cL W3 hb).mono ?_);rintro e W4 ⟨rfl,hn⟩;have hb:=hb.trans (hn.mono hb.size);refine ⟨_,rfl,hn, ?_⟩;refine plan.Rest.first 32 _ (.bool r) rfl (fun w' hb'=>kr_) ?_;refine plan.Rest.value 33 _ (.bool r) rfl ?_
     exact t141
    ·have cT:=cT0;rw [decide_eq_false h3] at cT;obtain rfl:false=r:=by rw [<-hr.o];exact (decide_eq_false (fun e=>h3 (xP.1 e).2.2.2.1)).symm
     clear h0 h1 h2 h3 cT0 cL0;go_enter func188,ntmps188;go_wp2;rw [HW0.o];have hb:Below W0.heap.size W0 W0.drew:=below_drewN (Below.refl _ _) 1;refine plan.region kr_ ?_;refine plan.Rest.first 0 _ (zP s ta tc la lc) rfl (fun w' hb'=>ax (b:=w.heap.size) (off:=0) rfl ((HZ.o _ (hb.trans (hb'.mono hb.size))).1).whole underlying57 rfl aN.o) ?_;refine plan.Rest.first 2 _ (zP u ua uc va vc) rfl (fun w' hb'=>ax (b:=w.heap.size+1) (off:=0) rfl ((HZ.o _ (hb.trans (hb'.mono hb.size))).2).whole underlying57 rfl aN.o) ?_;refine plan.Rest.call 1 _ 217 #[zP s ta tc la lc] rfl ((cN1 W0.drew).mono ?_);rintro e W1 ⟨rfl,hn⟩;have hb:=hb.trans (hn.mono hb.size);refine ⟨_,rfl,hn, ?_⟩;refine plan.Rest.call 3 _ 217 #[zP u ua uc va vc] rfl ((cN2 W1).mono ?_);rintro e W2 ⟨rfl,hn⟩;have hb:=hb.trans (hn.mono hb.size);refine ⟨_,rfl,hn, ?_⟩;refine plan.Rest.first 4 _ (.bool true) rfl (fun w' hb'=>(dM rfl (l9 _ _ _ _ _) (HE0.o _))) ?_;refine plan.Rest.first 5 _ (.bool true) rfl (fun w' hb'=>kr_) ?_;refine plan.Rest.first 6 _ (.pointer (some ⟨w.heap.size,7,none⟩)) rfl (fun w' hb'=>kr_) ?_;refine plan.Rest.first 7 _ (zF s.f) rfl (fun w' hb'=>ax (b:=w.heap.size) (off:=7) rfl (kR ((HZ.o _ (hb.trans (hb'.mono hb.size))).1)) underlying52 rfl dI.o) ?_;refine plan.Rest.first 8 _ (.pointer (some ⟨w.heap.size+1,7,none⟩)) rfl (fun w' hb'=>kr_) ?_;refine plan.Rest.first 9 _ (zF u.f) rfl (fun w' hb'=>ax (b:=w.heap.size+1) (off:=7) rfl (kR ((HZ.o _ (hb.trans (hb'.mono hb.size))).2)) underlying52 rfl dI.o) ?_;refine plan.Rest.first 10 _ (.bool true) rfl (fun w' hb'=>(dM rfl (yA _ _ _ _ _ _) (HE1.o _))) ?_;refine plan.Rest.first 11 _ (.bool true) rfl (fun w' hb'=>kr_) ?_;refine plan.Rest.first 12 _ (.bool true) rfl (fun w' hb'=>kr_) ?_;refine plan.Rest.first 13 _ (.pointer (some ⟨w.heap.size,12,none⟩)) rfl (fun w' hb'=>kr_) ?_;refine plan.Rest.first 14 _ (zV s.v) rfl (fun w' hb'=>ax (b:=w.heap.size) (off:=12) rfl (og ((HZ.o _ (hb.trans (hb'.mono hb.size))).1)) underlying54 rfl iE.o) ?_;refine plan.Rest.first 15 _ (.pointer (some ⟨w.heap.size+1,12,none⟩)) rfl (fun w' hb'=>kr_) ?_;refine plan.Rest.first 16 _ (zV u.v) rfl (fun w' hb'=>ax (b:=w.heap.size+1) (off:=12) rfl (og ((HZ.o _ (hb.trans (hb'.mono hb.size))).2)) underlying54 rfl iE.o) ?_;refine plan.Rest.first 17 _ (.bool true) rfl (fun w' hb'=>(dM rfl (BD _ _ _ _ _ _) (HE2.o _))) ?_;refine plan.Rest.first 18 _ (.bool true) rfl (fun w' hb'=>kr_) ?_;refine plan.Rest.first 19 _ (.bool true) rfl (fun w' hb'=>kr_) ?_;refine plan.Rest.first 20 _ (.pointer (some ⟨w.heap.size,14,none⟩)) rfl (fun w' hb'=>kr_) ?_;refine plan.Rest.first 21 _ (.slice ta s.t.length tc) rfl (fun w' hb'=>bI (ad:=⟨w.heap.size,14,none⟩) rfl (((HZ.o _ (hb.trans (hb'.mono hb.size))).1).cell 14) isAgg55) ?_;refine plan.Rest.first 22 _ (.pointer (some ⟨w.heap.size+1,14,none⟩)) rfl (fun w' hb'=>kr_) ?_;refine plan.Rest.first 23 _ (.slice ua u.t.length uc) rfl (fun w' hb'=>bI (ad:=⟨w.heap.size+1,14,none⟩) rfl (((HZ.o _ (hb.trans (hb'.mono hb.size))).2).cell 14) isAgg55) ?_;refine plan.Rest.call 24 _ 218 #[.slice ta s.t.length tc,.slice ua u.t.length uc] rfl ((cT W2 hb).mono ?_);rintro e W3 ⟨rfl,hn⟩;have hb:=hb.trans (hn.mono hb.size);refine ⟨_,rfl,hn, ?_⟩
     exact t120
   ·have HE2:=hid (fun W=>Jq s.v u.v W);rw [decide_eq_false h2] at HE2;obtain rfl:false=r:=by rw [<-hr.o];exact (decide_eq_false (fun e=>h2 (xP.1 e).2.2.1)).symm
    clear h0 h1 h2 cT0 cL0;go_enter func188,ntmps188;go_wp2;rw [HW0.o];have hb:Below W0.heap.size W0 W0.drew:=below_drewN (Below.refl _ _) 1;refine plan.region kr_ ?_;refine plan.Rest.first 0 _ (zP s ta tc la lc) rfl (fun w' hb'=>ax (b:=w.heap.size) (off:=0) rfl ((HZ.o _ (hb.trans (hb'.mono hb.size))).1).whole underlying57 rfl aN.o) ?_;refine plan.Rest.first 2 _ (zP u ua uc va vc) rfl (fun w' hb'=>ax (b:=w.heap.size+1) (off:=0) rfl ((HZ.o _ (hb.trans (hb'.mono hb.size))).2).whole underlying57 rfl aN.o) ?_;refine plan.Rest.call 1 _ 217 #[zP s ta tc la lc] rfl ((cN1 W0.drew).mono ?_);rintro e W1 ⟨rfl,hn⟩;have hb:=hb.trans (hn.mono hb.size);refine ⟨_,rfl,hn, ?_⟩;refine plan.Rest.call 3 _ 217 #[zP u ua uc va vc] rfl ((cN2 W1).mono ?_);rintro e W2 ⟨rfl,hn⟩;have hb:=hb.trans (hn.mono hb.size);refine ⟨_,rfl,hn, ?_⟩;refine plan.Rest.first 4 _ (.bool true) rfl (fun w' hb'=>(dM rfl (l9 _ _ _ _ _) (HE0.o _))) ?_;refine plan.Rest.first 5 _ (.bool true) rfl (fun w' hb'=>kr_) ?_;refine plan.Rest.first 6 _ (.pointer (some ⟨w.heap.size,7,none⟩)) rfl (fun w' hb'=>kr_) ?_;refine plan.Rest.first 7 _ (zF s.f) rfl (fun w' hb'=>ax (b:=w.heap.size) (off:=7) rfl (kR ((HZ.o _ (hb.trans (hb'.mono hb.size))).1)) underlying52 rfl dI.o) ?_;refine plan.Rest.first 8 _ (.pointer (some ⟨w.heap.size+1,7,none⟩)) rfl (fun w' hb'=>kr_) ?_;refine plan.Rest.first 9 _ (zF u.f) rfl (fun w' hb'=>ax (b:=w.heap.size+1) (off:=7) rfl (kR ((HZ.o _ (hb.trans (hb'.mono hb.size))).2)) underlying52 rfl dI.o) ?_;refine plan.Rest.first 10 _ (.bool true) rfl (fun w' hb'=>(dM rfl (yA _ _ _ _ _ _) (HE1.o _))) ?_;refine plan.Rest.first 11 _ (.bool true) rfl (fun w' hb'=>kr_) ?_;refine plan.Rest.first 12 _ (.bool true) rfl (fun w' hb'=>kr_) ?_;refine plan.Rest.first 13 _ (.pointer (some ⟨w.heap.size,12,none⟩)) rfl (fun w' hb'=>kr_) ?_;refine plan.Rest.first 14 _ (zV s.v) rfl (fun w' hb'=>ax (b:=w.heap.size) (off:=12) rfl (og ((HZ.o _ (hb.trans (hb'.mono hb.size))).1)) underlying54 rfl iE.o) ?_;refine plan.Rest.first 15 _ (.pointer (some ⟨w.heap.size+1,12,none⟩)) rfl (fun w' hb'=>kr_) ?_;refine plan.Rest.first 16 _ (zV u.v) rfl (fun w' hb'=>ax (b:=w.heap.size+1) (off:=12) rfl (og ((HZ.o _ (hb.trans (hb'.mono hb.size))).2)) underlying54 rfl iE.o) ?_;refine plan.Rest.first 17 _ (.bool false) rfl (fun w' hb'=>(dM rfl (BD _ _ _ _ _ _) (HE2.o _))) ?_
    exact t9
  ·have HE1:=hid (fun W=>Jp s.f u.f W);rw [decide_eq_false h1] at HE1;obtain rfl:false=r:=by rw [<-hr.o];exact (decide_eq_false (fun e=>h1 (xP.1 e).2.1)).symm
   clear h0 h1 cT0 cL0;go_enter func188,ntmps188;go_wp2;rw [HW0.o];have hb:Below W0.heap.size W0 W0.drew:=below_drewN (Below.refl _ _) 1;refine plan.region kr_ ?_;refine plan.Rest.first 0 _ (zP s ta tc la lc) rfl (fun w' hb'=>ax (b:=w.heap.size) (off:=0) rfl ((HZ.o _ (hb.trans (hb'.mono hb.size))).1).whole underlying57 rfl aN.o) ?_;refine plan.Rest.first 2 _ (zP u ua uc va vc) rfl (fun w' hb'=>ax (b:=w.heap.size+1) (off:=0) rfl ((HZ.o _ (hb.trans (hb'.mono hb.size))).2).whole underlying57 rfl aN.o) ?_;refine plan.Rest.call 1 _ 217 #[zP s ta tc la lc] rfl ((cN1 W0.drew).mono ?_);rintro e W1 ⟨rfl,hn⟩;have hb:=hb.trans (hn.mono hb.size);refine ⟨_,rfl,hn, ?_⟩;refine plan.Rest.call 3 _ 217 #[zP u ua uc va vc] rfl ((cN2 W1).mono ?_);rintro e W2 ⟨rfl,hn⟩;have hb:=hb.trans (hn.mono hb.size);refine ⟨_,rfl,hn, ?_⟩;refine plan.Rest.first 4 _ (.bool true) rfl (fun w' hb'=>(dM rfl (l9 _ _ _ _ _) (HE0.o _))) ?_;refine plan.Rest.first 5 _ (.bool true) rfl (fun w' hb'=>kr_) ?_;refine plan.Rest.first 6 _ (.pointer (some ⟨w.heap.size,7,none⟩)) rfl (fun w' hb'=>kr_) ?_;refine plan.Rest.first 7 _ (zF s.f) rfl (fun w' hb'=>ax (b:=w.heap.size) (off:=7) rfl (kR ((HZ.o _ (hb.trans (hb'.mono hb.size))).1)) underlying52 rfl dI.o) ?_;refine plan.Rest.first 8 _ (.pointer (some ⟨w.heap.size+1,7,none⟩)) rfl (fun w' hb'=>kr_) ?_;refine plan.Rest.first 9 _ (zF u.f) rfl (fun w' hb'=>ax (b:=w.heap.size+1) (off:=7) rfl (kR ((HZ.o _ (hb.trans (hb'.mono hb.size))).2)) underlying52 rfl dI.o) ?_;refine plan.Rest.first 10 _ (.bool false) rfl (fun w' hb'=>(dM rfl (yA _ _ _ _ _ _) (HE1.o _))) ?_
   exact t123
 ·have HE0:=hid (fun W=>zy s.op s.fm s.fd s.pl s.tt s.a s.b u.op u.fm u.fd u.pl u.tt u.a u.b W);rw [decide_eq_false h0] at HE0;obtain rfl:false=r:=by rw [<-hr.o];exact (decide_eq_false (fun e=>h0 (xP.1 e).1)).symm
  clear h0 cT0 cL0;go_enter func188,ntmps188;go_wp2;rw [HW0.o];have hb:Below W0.heap.size W0 W0.drew:=below_drewN (Below.refl _ _) 1;refine plan.region kr_ ?_;refine plan.Rest.first 0 _ (zP s ta tc la lc) rfl (fun w' hb'=>ax (b:=w.heap.size) (off:=0) rfl ((HZ.o _ (hb.trans (hb'.mono hb.size))).1).whole underlying57 rfl aN.o) ?_;refine plan.Rest.first 2 _ (zP u ua uc va vc) rfl (fun w' hb'=>ax (b:=w.heap.size+1) (off:=0) rfl ((HZ.o _ (hb.trans (hb'.mono hb.size))).2).whole underlying57 rfl aN.o) ?_;refine plan.Rest.call 1 _ 217 #[zP s ta tc la lc] rfl ((cN1 W0.drew).mono ?_);rintro e W1 ⟨rfl,hn⟩;have hb:=hb.trans (hn.mono hb.size);refine ⟨_,rfl,hn, ?_⟩;refine plan.Rest.call 3 _ 217 #[zP u ua uc va vc] rfl ((cN2 W1).mono ?_);rintro e W2 ⟨rfl,hn⟩;have hb:=hb.trans (hn.mono hb.size);refine ⟨_,rfl,hn, ?_⟩;refine plan.Rest.first 4 _ (.bool false) rfl (fun w' hb'=>(dM rfl (l9 _ _ _ _ _) (HE0.o _))) ?_;refine plan.Rest.first 5 _ (.bool false) rfl (fun w' hb'=>kr_) ?_;refine plan.Rest.skip 6 _ rfl ?_;refine plan.Rest.skip 7 _ rfl ?_;refine plan.Rest.skip 8 _ rfl ?_;refine plan.Rest.skip 9 _ rfl ?_;refine plan.Rest.skip 10 _ rfl ?_
  exact t123
end step
end Go.Proofs.YtogkgbnpodojjaaGreat
