/- Contracts and lemmas that claims of this seat share: SchemaRefIx, SchemaExecF, StepHas. Each says its own conditions. -/
import Derived.Test.YtogfefdlffmioaaCmWord
import Derived.Laws.Strings
import Derived.Test.YtogfefdlffmioaaCmR
import Derived.Test.YtogfefdlffmioaaCmAB
import Derived.Test.YtogfefdlffmioaaCmE
import Derived.Test.YtogfefdlffmioaaCmY
set_option linter.unusedVariables false
namespace Go.Proofs.Ytogfefdlffmioaa
open Go.Proofs.Try
namespace ak
open Go.RowKit
open field (Gives aI ay rZ)
theorem Dp(i:Int)(a:Option Addr)(cap:Nat)(L:List field.Fd)(x:Int)(w:World)(h:field.Fds w a L)(hL:L.length<=maxLen):
  Calls prog 65 #[zS i a L.length cap,.int .i64 x] w (Gives (.int .i64 (kV (ids L) x)) w):=by
 have hml:(L.length:Int)<=9223372036854775807:=by unfold maxLen at hL;omega
 have HX:=hid (Ac i a L cap w);have HF:=hid (h.below (aI w (.cells (zS i a L.length cap) 40)));obtain⟨r,hr⟩:∃r:Int,Hid (kV (ids L) x=r):=⟨_,rfl⟩;rw[hr.o];unfold Gives;clear h hL;go_enter func65,ntmps65;go_wp2;go_loopw [5] (fun n wr=>∃k:Nat,k<=L.length/\n=.int .i64 (k:Int)/\Hid (x∉(ids L).take k)/\Hid (Below (w.alloc (.cells (zS i a L.length cap) 40)).heap.size (w.alloc (.cells (zS i a L.length cap) 40)) wr)) (fun n _=>L.length - (intOf n).toNat);case atStart=>exact⟨0,Nat.zero_le _,rfl,hid si_,hid (Below.refl _ _)⟩
 case round=>
  obtain⟨k,hk,rfl,oP,HB⟩:=hrel;obtain⟨z0,z1,dP⟩:=HX.o _ HB.o;by_cases bI:k<L.length
  ·obtain⟨b,off,p,rfl,jV,hp,c0,c1,c2,c3,c4⟩:=eX HF.o HB.o bI;have i1:(k:Int)<L.length:=by omega
   have Ot:=hid (fun e=>wM oP.o ((AA hp).trans (congrArg some e)));have TL:=hid (fun e=>vZ oP.o (AA hp) e);clear hp;by_cases hx:p.id=x
   ·have hd:(p.id == x)=true:=beq_iff_eq.2 hx;obtain rfl:(k:Int)=r:=by rw[<-hr.o];exact(Ot.o hx).symm
    clear hx;go_wp2;go_ret;exact⟨rfl,dP⟩
   ·have hd:(p.id == x)=false:=beq_eq_false_iff_ne.2 hx;have LM:=hid hx;clear hx;go_wp2;exact⟨⟨k+1,by omega,by go_num,hid (TL.o LM.o),HB⟩,by simp[intOf];omega⟩
  ·obtain rfl:k=L.length:=by omega
   obtain rfl: -1=r:=by rw[<-hr.o];have:=oP.o;rw[List.take_of_length_le (by rw[AB];exact Nat.le_refl _)] at this;exact(Ah this).symm
   go_wp2;go_ret;exact⟨rfl,dP⟩
theorem zk(i:Int)(a:Option Addr)(cap:Nat)(L:List field.Fd)(w:World)(h:field.Fds w a L)(hL:L.length<=40):
  Calls prog 66 #[zS i a L.length cap] w (Gives (.int .i64 (size L:Int)) w):=by
 have HX:=hid (Ac i a L cap w);have HF:=hid (h.below (aI w (.cells (zS i a L.length cap) 40)));obtain⟨S,hS⟩:∃S:Nat,Hid (size L=S):=⟨_,rfl⟩;rw[hS.o];unfold Gives;clear h;go_enter func66,ntmps66;go_wp2;go_loopw [3,4] (fun s n wr=>∃k:Nat,k<=L.length/\s=.int .i64 (size (L.take k):Int)/\n=.int .i64 (k:Int)/\Hid (Below (w.alloc (.cells (zS i a L.length cap) 40)).heap.size (w.alloc (.cells (zS i a L.length cap) 40)) wr)) (fun _ n _=>L.length - (intOf n).toNat);case atStart=>exact⟨0,Nat.zero_le _,rfl,rfl,hid (Below.refl _ _)⟩
 case round=>
  obtain⟨k,hk,rfl,rfl,HB⟩:=hrel;obtain⟨z0,z1,dP⟩:=HX.o _ HB.o;by_cases bI:k<L.length
  ·obtain⟨b,off,p,rfl,jV,hp,c0,c1,c2,c3,c4⟩:=eX HF.o HB.o bI;have i1:(k:Int)<L.length:=by omega
   have oD:=hid (wW hp);have hst:=size_take L k;have cs:=fun w'=>rZ p w'
   have Ob:=pK p;clear hp;generalize size (L.take k)=s at *;go_wp2_with (go_at_call 87;((with_reducible refine(cs _).mono ?_);rintro e w2 ⟨rfl,aQ⟩));exact⟨⟨k+1,by omega,by rw[oD.o];go_num,by go_num,hid (HB.o.trans (aQ.mono HB.o.size))⟩,by simp[intOf];omega⟩
  ·obtain rfl:k=L.length:=by omega
   go_wp2;go_ret;exact⟨iK (by rw[<-hS.o,List.take_of_length_le (Nat.le_refl _)]),dP⟩
end ak
theorem t75{P:Prop}(h:P:=by
 unfold execOp;rw[ho];simp only[hx,hy];go_simp):P:=h
namespace ak
open Go.RowKit
section
variable {o:Oper} {a:Act} {w:World}
theorem aY{op:BinOp}{t t':TypeId}{x y:Operand}{vx vy u:Value}(ho:o.op=.binOp op t x y t')
  (hg:(eqGuard op t x y vx vy).run prog w=.ok () w) (hr:(binOp op t vx vy).run prog w=.ok u w) (hx:a.eval x=vx:=by kernel_rfl) (hy:a.eval y=vy:=by kernel_rfl):(execOp a.eval o).run prog w=.ok (.value u) w:=by
 unfold execOp;simp[ho,hx,hy,Sem.run_bind,hg,hr]
theorem ax{x y:Operand}{t':TypeId}{n m:Int}{r:Bool}(ho:o.op=.binOp .neq 3 x y t')(h:Hid ((n != m)=r))(hx:a.eval x=.int .i64 n:=by kernel_rfl)(hy:a.eval y=.int .i64 m:=by kernel_rfl):(execOp a.eval o).run prog w=.ok (.value (.bool r)) w:=
 aY ho (hx:=hx) (hy:=hy) (by simp[go_sem]) (by rw[<-h.o];simp[go_sem])
theorem iH{x y:Operand}{t':TypeId}{n m:Int}{r:Bool}(ho:o.op=.binOp .gtr 3 x y t')(h:Hid (decide (n>m)=r))(hx:a.eval x=.int .i64 n:=by kernel_rfl)(hy:a.eval y=.int .i64 m:=by kernel_rfl):(execOp a.eval o).run prog w=.ok (.value (.bool r)) w:=
 aY ho (hx:=hx) (hy:=hy) (by simp[go_sem]) (by rw[<-h.o];simp[go_sem])
theorem qw{x y:Operand}{t':TypeId}{n m:Int}{r:Bool}(ho:o.op=.binOp .geq 3 x y t')(h:Hid (decide (n≥m)=r))(hx:a.eval x=.int .i64 n:=by kernel_rfl)(hy:a.eval y=.int .i64 m:=by kernel_rfl):(execOp a.eval o).run prog w=.ok (.value (.bool r)) w:=
 aY ho (hx:=hx) (hy:=hy) (by simp[go_sem]) (by rw[<-h.o];simp[go_sem])
theorem wK{x y:Operand}{t':TypeId}{k:Nat}(ho:o.op=.binOp .sub 3 x y t')(h:k<1000000)(hx:a.eval x=.int .i64 ((k+1:Nat):Int):=by kernel_rfl)(hy:a.eval y=.int .i64 1:=by kernel_rfl):(execOp a.eval o).run prog w=.ok (.value (.int .i64 (k:Int))) w:=
 aY ho (hx:=hx) (hy:=hy) (by simp[go_sem]) (by
  have:IntKind.i64.wrap (((k+1:Nat):Int) - 1)=(k:Int):=by rw[show((k+1:Nat):Int) - 1=(k:Int) by omega];exact IntWalk.i64_in _ om_
  simp only[go_sem];rw[this];simp[go_sem])
theorem jM{x y:Operand}{b off len cap i:Nat}(ho:o.op=.indexAddr 38 x y)(hi:i<len)(hx:a.eval x=.slice (some ⟨b,off,none⟩) len cap:=by kernel_rfl)(hy:a.eval y=.int .i64 (i:Int):=by kernel_rfl):
  (execOp a.eval o).run prog w=.ok (.value (.pointer (some ⟨b,off+i*5,none⟩))) w:=by
 exact t75
theorem ai{ty:TypeId}{x:Operand}{ad:Addr}{k:IntKind}{n:Int}(ho:o.op=.load ty x)(hx:a.eval x=.pointer (some ad))(hc:w.cell? ad=some (.int k n))(hu:∀w',(isAgg ty).run prog w'=.ok false w'):
  (execOp a.eval o).run prog w=.ok (.value (.int k n)) w:=by
 unfold execOp;rw[ho];simp only[hx];go_simp
theorem aC{ty:TypeId}{x:Operand}{ad:Addr}{q:Option Addr}{n c:Nat}(ho:o.op=.load ty x)(hc:w.cell? ad=some (.slice q n c))(hu:∀w',(isAgg ty).run prog w'=.ok false w')(hx:a.eval x=.pointer (some ad):=by kernel_rfl):
  (execOp a.eval o).run prog w=.ok (.value (.slice q n c)) w:=by
 unfold execOp;rw[ho];simp only[hx];go_simp
theorem aj{ty:TypeId}{x:Operand}{b off:Nat}{cs:List Value}{d:TypeDesc}(ho:o.op=.load ty x)(hc:w.rangeAt b off cs)
  (hu:prog.underlying ty=some d) (hd:d.isRow=true) (hi:(prog.info? ty).map (·.size)=some cs.length) (hx:a.eval x=.pointer (some ⟨b,off,none⟩):=by kernel_rfl):(execOp a.eval o).run prog w=.ok (.value (.agg cs.toArray)) w:=by
 unfold execOp;simp[ho,hx,run_loadAt_mid w b off ty cs d hc hu hd hi]
end
theorem dm:Hid ((prog.info? 47).map (·.size)=some 5):=by show _=_;kernel_rfl
theorem oI:Hid ((prog.info? 40).map (·.size)=some 2):=by show _=_;kernel_rfl
theorem fE{w w':World}{b o:Nat}{cs:List Value}(h:w.rangeAt b o cs)(hb:Below w.heap.size w w')(bI:b<w.heap.size):w'.rangeAt b o cs:=fun j v hj=>(hb.cell (p:=⟨b,o+j,none⟩) bI).trans (h j v hj)
theorem KA{w:World}{b o:Nat}{v0 v1 v2 v3 v4:Value}(h0:w.cell? ⟨b,o,none⟩=some v0)(h1:w.cell? ⟨b,o+1,none⟩=some v1)(h2:w.cell? ⟨b,o+2,none⟩=some v2)(h3:w.cell? ⟨b,o+3,none⟩=some v3)(h4:w.cell? ⟨b,o+4,none⟩=some v4):w.rangeAt b o [v0,v1,v2,v3,v4]
 | 0,v,hj=>by cases hj;exact h0
 | 1,v,hj=>by cases hj;exact h1
 | 2,v,hj=>by cases hj;exact h2
 | 3,v,hj=>by cases hj;exact h3
 | 4,v,hj=>by cases hj;exact h4
 | n+5,v,hj=>by simp at hj
theorem Kz{w:World}{b o:Nat}{v0 v1:Value}(h0:w.cell? ⟨b,o,none⟩=some v0)(h1:w.cell? ⟨b,o+1,none⟩=some v1):w.rangeAt b o [v0,v1]
 | 0,v,hj=>by cases hj;exact h0
 | 1,v,hj=>by cases hj;exact h1
 | n+2,v,hj=>by simp at hj
theorem lJ:∀(l:List Int) (k:Nat) (x:Int),x∈l.take k->l.idxOf x<k
 | l,0,x,h=>by simp at h
 | [],k+1,x,h=>by simp at h
 | y :: l,k+1,x,h=>by
  by_cases hy:y=x
  ·subst hy;simp
  ·have hb:(y == x)=false:=beq_eq_false_iff_ne.2 hy;rw[List.take_succ_cons,List.mem_cons] at h;have:=lJ l k x (h.resolve_left (Ne.symm hy));rw[List.idxOf_cons,hb];show l.idxOf x+1<k+1
   omega
theorem IQ{l:List Int}{k:Nat}{x:Int}(h:l[k]?=some x):kV l x=k↔x∉l.take k:=by
 constructor
 ·intro he hm;have:=lJ l k x hm;unfold kV at he;rw[if_pos (List.mem_of_getElem? h)] at he;omega
 ·intro hn;exact wM hn h
theorem yU(L:List field.Fd)(k:Nat):ids (L.take k)=(ids L).take k:=by unfold ids;rw[List.map_take]
end ak
namespace step
open Go.RowKit
open field (Gives aI ay)
open ak (aH)
def aG(op:Int)(c:UInt8):Bool:=decide (c∈uses op)
theorem vK(op:Int):(qP op).size=(uses op).length:=texts.kD _
theorem FT{op:Int}{k:Nat}{q:UInt8}(h:(uses op)[k]?=some q)(W:World):(Instr.index 9 (.string (qP op)) (.int .i64 (k:Int))).run prog W=.ok (.int .u8 (q.toNat:Int)) W:=by
 have hk:=(List.getElem?_eq_some_iff.1 h).1;have he:=(List.getElem?_eq_some_iff.1 h).2;rw[run_index_string W _ _ _ _ underlying9,dif_pos ⟨by omega,by rw[vK];omega⟩];congr 2;rw[<-he];simp only[Int.toNat_natCast];rfl
theorem Gi{p q:UInt8}(h:p≠q):((p.toNat:Int) == (q.toNat:Int))=false:=by
 rw[beq_eq_false_iff_ne];intro e;exact h (UInt8.toNat_inj.1 om_)
theorem fA(op:Int)(c:UInt8)(w:World):Calls prog 71 #[.int .i64 op,.int .u8 (c.toNat:Int)] w (Gives (.bool (aG op c)) w):=by
 obtain⟨v,hv⟩:∃v:Bool,Hid (aG op c=v):=⟨_,rfl⟩;rw[hv.o];have cU:=zQ op w;have hsz:=vK op;have hix:=fun(k:Nat) (q:UInt8) (h:(uses op)[k]?=some q) W=>FT h W
 have Uu:=vM op;obtain⟨S,hS⟩:∃S,Hid (qP op=S):=⟨_,rfl⟩;obtain⟨L,hL⟩:∃L,Hid (uses op=L):=⟨_,rfl⟩;have HV:Hid (decide (c∈L)=v):=hid (by rw[<-hL.o];exact hv.o);rw[hS.o] at cU hsz hix;rw[hL.o] at hsz hix Uu;have TF:=hid hix;unfold Gives at cU ⊢;clear hix hv;go_enter func71,ntmps71;go_wp2_with (go_at_call 67;((with_reducible refine cU.mono ?_);rintro e w1 ⟨rfl,bQ⟩;have HB1:=hid bQ));clear cU;go_loopw [6] (fun n wr=>∃k:Nat,k<=L.length/\n=.int .i64 (k:Int)/\Hid (c∉L.take k)/\Hid (Below w.heap.size w wr)) (fun n _=>L.length - (intOf n).toNat);case atStart=>exact⟨0,Nat.zero_le _,rfl,hid si_,HB1⟩
 case round=>
  obtain⟨k,hk,rfl,HN,HB⟩:=hrel;by_cases bI:k<L.length
  ·have hq:=List.getElem?_eq_getElem bI;generalize L[k]=q at *;have hx:=fun W=>TF.o k q hq W
   have i1:(k:Int)<S.size:=by rw[hsz];omega
   have i2:((k:Int)<(L.length:Int)):=by omega
   have sV:=hid (aH hq);have HM:=hid (List.mem_of_getElem? hq);clear hq;by_cases hc:q=c
   ·subst hc;obtain rfl:true=v:=by rw[<-HV.o];exact(decide_eq_true HM.o).symm
    go_wp2;go_ret;exact⟨rfl,HB.o⟩
   ·have hd:=Gi hc;have HC:=hid hc;clear hc;go_wp2;exact⟨⟨k+1,by omega,by go_num,hid (by rw[sV.o];intro hm;rcases List.mem_append.1 hm with h | h;exact HN.o h;exact HC.o (List.mem_singleton.1 h).symm),hid HB.o⟩,by simp[intOf];omega⟩
  ·obtain rfl:k=L.length:=by omega
   obtain rfl:false=v:=by rw[<-HV.o];have:=HN.o;rw[List.take_of_length_le (Nat.le_refl _)] at this;exact(decide_eq_false this).symm
   have i1:¬((L.length:Int)<S.size):=by omega
   go_wp2;go_ret;exact⟨rfl,HB.o⟩
end step
end Go.Proofs.Ytogfefdlffmioaa
