/- Contracts and lemmas that claims of this seat share: SchemaRefIx, SchemaExecF, StepHas. Each says its own conditions. -/
import Derived.Test.YtogfefdlffmioaaGreatCmWord
import Derived.Laws.Strings
import Derived.Test.YtogfefdlffmioaaGreatCmR
import Derived.Test.YtogfefdlffmioaaGreatCmV
import Derived.Test.YtogfefdlffmioaaGreatCmJ
import Derived.Test.YtogfefdlffmioaaGreatCmAE
set_option linter.unusedVariables false
namespace Go.Proofs.YtogfefdlffmioaaGreat
open Go.Proofs.Tryz
namespace schema
open Go.RowKit
open field (Gives newB gives_from refSize_any)
theorem refAt_any(i:Int)(a:Option Addr)(cap:Nat)(L:List field.Fd)(x:Int)(w:World)(h:field.Fds w a L)(hL:L.length<=maxLen):
  Calls prog 70 #[zS i a L.length cap,.int .i64 x] w (Gives (.int .i64 (firstAt (ids L) x)) w):=by
 have hml:(L.length:Int)<=9223372036854775807:=by unfold maxLen at hL;omega
 have HX:=hid (boxM i a L cap w);have HF:=hid (h.below (newB w (.cells (zS i a L.length cap) 43)));obtain⟨r,hr⟩:∃r:Int,Hid (firstAt (ids L) x=r):=⟨_,rfl⟩;rw[hr.o];unfold Gives;clear h hL;go_enter func70,ntmps70;go_wp2;go_loopw [5] (fun n wr=>∃k:Nat,k<=L.length/\n=.int .i64 (k:Int)/\Hid (x∉(ids L).take k)/\Hid (Below (w.alloc (.cells (zS i a L.length cap) 43)).heap.size (w.alloc (.cells (zS i a L.length cap) 43)) wr)) (fun n _=>L.length - (intOf n).toNat);case atStart=>exact⟨0,Nat.zero_le _,rfl,hid si_,hid (Below.refl _ _)⟩
 case round=>
  obtain⟨k,hk,rfl,HNO,HB⟩:=hrel;obtain⟨z0,z1,aN⟩:=HX.o _ HB.o;by_cases au:k<L.length
  ·obtain⟨b,off,p,rfl,bQ,hp,c0,c1,c2,c3,c4⟩:=field_at HF.o HB.o au;have i1:(k:Int)<L.length:=by omega
   have HHIT:=hid (fun e=>first_hit HNO.o ((ids_at hp).trans (congrArg some e)));have HNX:=hid (fun e=>not_take_succ HNO.o (ids_at hp) e);clear hp;by_cases hx:p.id=x
   ·have hd:(p.id == x)=true:=beq_iff_eq.2 hx;obtain rfl:(k:Int)=r:=by rw[<-hr.o];exact(HHIT.o hx).symm
    clear hx;go_wp2;go_ret;exact⟨rfl,aN⟩
   ·have hd:(p.id == x)=false:=beq_eq_false_iff_ne.2 hx;have HXX:=hid hx;clear hx;go_wp2;exact⟨⟨k+1,by omega,by go_num,hid (HNX.o HXX.o),HB⟩,by simp[intOf];omega⟩
  ·obtain rfl:k=L.length:=by omega
   obtain rfl: -1=r:=by rw[<-hr.o];have:=HNO.o;rw[List.take_of_length_le (by rw[ids_length];exact Nat.le_refl _)] at this;exact(first_none this).symm
   go_wp2;go_ret;exact⟨rfl,aN⟩
theorem refLong_any(i:Int)(a:Option Addr)(cap:Nat)(L:List field.Fd)(w:World)(h:field.Fds w a L)(hL:L.length<=40):
  Calls prog 71 #[zS i a L.length cap] w (Gives (.int .i64 (size L:Int)) w):=by
 have HX:=hid (boxM i a L cap w);have HF:=hid (h.below (newB w (.cells (zS i a L.length cap) 43)));obtain⟨S,hS⟩:∃S:Nat,Hid (size L=S):=⟨_,rfl⟩;rw[hS.o];unfold Gives;clear h;go_enter func71,ntmps71;go_wp2;go_loopw [3,4] (fun s n wr=>∃k:Nat,k<=L.length/\s=.int .i64 (size (L.take k):Int)/\n=.int .i64 (k:Int)/\Hid (Below (w.alloc (.cells (zS i a L.length cap) 43)).heap.size (w.alloc (.cells (zS i a L.length cap) 43)) wr)) (fun _ n _=>L.length - (intOf n).toNat);case atStart=>exact⟨0,Nat.zero_le _,rfl,rfl,hid (Below.refl _ _)⟩
 case round=>
  obtain⟨k,hk,rfl,rfl,HB⟩:=hrel;obtain⟨z0,z1,aN⟩:=HX.o _ HB.o;by_cases au:k<L.length
  ·obtain⟨b,off,p,rfl,bQ,hp,c0,c1,c2,c3,c4⟩:=field_at HF.o HB.o au;have i1:(k:Int)<L.length:=by omega
   have HSZ:=hid (size_succ hp);have hst:=size_take L k;have cs:=fun w'=>refSize_any p w'
   have mG:=fd_size_le p;clear hp;generalize size (L.take k)=s at *;go_wp2_with (go_at_call 97;((with_reducible refine(cs _).mono ?_);rintro e w2 ⟨rfl,aj⟩));exact⟨⟨k+1,by omega,by rw[HSZ.o];go_num,by go_num,hid (HB.o.trans (aj.mono HB.o.size))⟩,by simp[intOf];omega⟩
  ·obtain rfl:k=L.length:=by omega
   go_wp2;go_ret;exact⟨ret_int (by rw[<-hS.o,List.take_of_length_le (Nat.le_refl _)]),aN⟩
end schema
theorem t85{P:Prop}(h:P:=by
 unfold execOp;rw[ho];simp only[hx,hy];go_simp):P:=h
namespace schema
open Go.RowKit
section
variable {o:Oper} {a:Act} {w:World}
theorem exec_two{op:BinOp}{t t':TypeId}{x y:Operand}{vx vy u:Value}(ho:o.op=.binOp op t x y t')
  (hg:(eqGuard op t x y vx vy).run prog w=.ok () w) (hr:(binOp op t vx vy).run prog w=.ok u w) (hx:a.eval x=vx:=by kernel_rfl) (hy:a.eval y=vy:=by kernel_rfl):(execOp a.eval o).run prog w=.ok (.value u) w:=by
 unfold execOp;simp[ho,hx,hy,Sem.run_bind,hg,hr]
theorem exec_neq_int{x y:Operand}{t':TypeId}{n m:Int}{r:Bool}(ho:o.op=.binOp .neq 3 x y t')(h:Hid ((n != m)=r))(hx:a.eval x=.int .i64 n:=by kernel_rfl)(hy:a.eval y=.int .i64 m:=by kernel_rfl):(execOp a.eval o).run prog w=.ok (.value (.bool r)) w:=
 exec_two ho (hx:=hx) (hy:=hy) (by simp[go_sem]) (by rw[<-h.o];simp[go_sem])
theorem exec_gtr_int{x y:Operand}{t':TypeId}{n m:Int}{r:Bool}(ho:o.op=.binOp .gtr 3 x y t')(h:Hid (decide (n>m)=r))(hx:a.eval x=.int .i64 n:=by kernel_rfl)(hy:a.eval y=.int .i64 m:=by kernel_rfl):(execOp a.eval o).run prog w=.ok (.value (.bool r)) w:=
 exec_two ho (hx:=hx) (hy:=hy) (by simp[go_sem]) (by rw[<-h.o];simp[go_sem])
theorem exec_geq_int{x y:Operand}{t':TypeId}{n m:Int}{r:Bool}(ho:o.op=.binOp .geq 3 x y t')(h:Hid (decide (n≥m)=r))(hx:a.eval x=.int .i64 n:=by kernel_rfl)(hy:a.eval y=.int .i64 m:=by kernel_rfl):(execOp a.eval o).run prog w=.ok (.value (.bool r)) w:=
 exec_two ho (hx:=hx) (hy:=hy) (by simp[go_sem]) (by rw[<-h.o];simp[go_sem])
theorem exec_pred{x y:Operand}{t':TypeId}{k:Nat}(ho:o.op=.binOp .sub 3 x y t')(h:k<1000000)(hx:a.eval x=.int .i64 ((k+1:Nat):Int):=by kernel_rfl)(hy:a.eval y=.int .i64 1:=by kernel_rfl):(execOp a.eval o).run prog w=.ok (.value (.int .i64 (k:Int))) w:=
 exec_two ho (hx:=hx) (hy:=hy) (by simp[go_sem]) (by
  have:IntKind.i64.wrap (((k+1:Nat):Int) - 1)=(k:Int):=by rw[show((k+1:Nat):Int) - 1=(k:Int) by omega];exact IntWalk.i64_in _ om_
  simp only[go_sem];rw[this];simp[go_sem])
theorem exec_indexF{x y:Operand}{b off len cap i:Nat}(ho:o.op=.indexAddr 41 x y)(hi:i<len)(hx:a.eval x=.slice (some ⟨b,off,none⟩) len cap:=by kernel_rfl)(hy:a.eval y=.int .i64 (i:Int):=by kernel_rfl):
  (execOp a.eval o).run prog w=.ok (.value (.pointer (some ⟨b,off+i*5,none⟩))) w:=by
 exact t85
theorem exec_cell_int{ty:TypeId}{x:Operand}{ad:Addr}{k:IntKind}{n:Int}(ho:o.op=.load ty x)(hx:a.eval x=.pointer (some ad))(hc:w.cell? ad=some (.int k n))(hu:∀w',(isAgg ty).run prog w'=.ok false w'):
  (execOp a.eval o).run prog w=.ok (.value (.int k n)) w:=by
 unfold execOp;rw[ho];simp only[hx];go_simp
theorem exec_cell_slice{ty:TypeId}{x:Operand}{ad:Addr}{q:Option Addr}{n c:Nat}(ho:o.op=.load ty x)(hc:w.cell? ad=some (.slice q n c))(hu:∀w',(isAgg ty).run prog w'=.ok false w')(hx:a.eval x=.pointer (some ad):=by kernel_rfl):
  (execOp a.eval o).run prog w=.ok (.value (.slice q n c)) w:=by
 unfold execOp;rw[ho];simp only[hx];go_simp
theorem exec_load_at{ty:TypeId}{x:Operand}{b off:Nat}{cs:List Value}{d:TypeDesc}(ho:o.op=.load ty x)(hc:w.rangeAt b off cs)
  (hu:prog.underlying ty=some d) (hd:d.isRow=true) (hi:(prog.info? ty).map (·.size)=some cs.length) (hx:a.eval x=.pointer (some ⟨b,off,none⟩):=by kernel_rfl):(execOp a.eval o).run prog w=.ok (.value (.agg cs.toArray)) w:=by
 unfold execOp;simp[ho,hx,run_loadAt_mid w b off ty cs d hc hu hd hi]
end
theorem info_fd:Hid ((prog.info? 79).map (·.size)=some 5):=by show _=_;kernel_rfl
theorem info_fm:Hid ((prog.info? 43).map (·.size)=some 2):=by show _=_;kernel_rfl
theorem range_later{w w':World}{b o:Nat}{cs:List Value}(h:w.rangeAt b o cs)(hb:Below w.heap.size w w')(au:b<w.heap.size):w'.rangeAt b o cs:=fun j v hj=>(hb.cell (p:=⟨b,o+j,none⟩) au).trans (h j v hj)
theorem range5{w:World}{b o:Nat}{v0 v1 v2 v3 v4:Value}(h0:w.cell? ⟨b,o,none⟩=some v0)(h1:w.cell? ⟨b,o+1,none⟩=some v1)(h2:w.cell? ⟨b,o+2,none⟩=some v2)(h3:w.cell? ⟨b,o+3,none⟩=some v3)(h4:w.cell? ⟨b,o+4,none⟩=some v4):w.rangeAt b o [v0,v1,v2,v3,v4]
 | 0,v,hj=>by cases hj;exact h0
 | 1,v,hj=>by cases hj;exact h1
 | 2,v,hj=>by cases hj;exact h2
 | 3,v,hj=>by cases hj;exact h3
 | 4,v,hj=>by cases hj;exact h4
 | n+5,v,hj=>by simp at hj
theorem range2{w:World}{b o:Nat}{v0 v1:Value}(h0:w.cell? ⟨b,o,none⟩=some v0)(h1:w.cell? ⟨b,o+1,none⟩=some v1):w.rangeAt b o [v0,v1]
 | 0,v,hj=>by cases hj;exact h0
 | 1,v,hj=>by cases hj;exact h1
 | n+2,v,hj=>by simp at hj
theorem idxOf_lt_of_take:∀(l:List Int) (k:Nat) (x:Int),x∈l.take k->l.idxOf x<k
 | l,0,x,h=>by simp at h
 | [],k+1,x,h=>by simp at h
 | y :: l,k+1,x,h=>by
  by_cases hy:y=x
  ·subst hy;simp
  ·have hb:(y == x)=false:=beq_eq_false_iff_ne.2 hy;rw[List.take_succ_cons,List.mem_cons] at h;have:=idxOf_lt_of_take l k x (h.resolve_left (Ne.symm hy));rw[List.idxOf_cons,hb];show l.idxOf x+1<k+1
   omega
theorem at_iff{l:List Int}{k:Nat}{x:Int}(h:l[k]?=some x):firstAt l x=k↔x∉l.take k:=by
 constructor
 ·intro he hm;have:=idxOf_lt_of_take l k x hm;unfold firstAt at he;rw[if_pos (List.mem_of_getElem? h)] at he;omega
 ·intro hn;exact first_hit hn h
theorem ids_take(L:List field.Fd)(k:Nat):ids (L.take k)=(ids L).take k:=by unfold ids;rw[List.map_take]
end schema
namespace step
open Go.RowKit
open field (Gives newB gives_from)
open schema (take_succ_at)
def HasC(op:Int)(c:UInt8):Bool:=decide (c∈uses op)
theorem usesS_size(op:Int):(usesS op).size=(uses op).length:=texts.strL_size _
theorem usesS_at{op:Int}{k:Nat}{q:UInt8}(h:(uses op)[k]?=some q)(W:World):(Instr.index 9 (.string (usesS op)) (.int .i64 (k:Int))).run prog W=.ok (.int .u8 (q.toNat:Int)) W:=by
 have hk:=(List.getElem?_eq_some_iff.1 h).1;have he:=(List.getElem?_eq_some_iff.1 h).2;rw[run_index_string W _ _ _ _ underlying9,dif_pos ⟨by omega,by rw[usesS_size];omega⟩];congr 2;rw[<-he];simp only[Int.toNat_natCast];rfl
theorem byte_ne{p q:UInt8}(h:p≠q):((p.toNat:Int) == (q.toNat:Int))=false:=by
 rw[beq_eq_false_iff_ne];intro e;exact h (UInt8.toNat_inj.1 om_)
theorem has_any(op:Int)(c:UInt8)(w:World):Calls prog 76 #[.int .i64 op,.int .u8 (c.toNat:Int)] w (Gives (.bool (HasC op c)) w):=by
 obtain⟨v,hv⟩:∃v:Bool,Hid (HasC op c=v):=⟨_,rfl⟩;rw[hv.o];have cU:=uses_any op w;have hsz:=usesS_size op;have hix:=fun(k:Nat) (q:UInt8) (h:(uses op)[k]?=some q) W=>usesS_at h W
 have rq:=uses_len op;obtain⟨S,hS⟩:∃S,Hid (usesS op=S):=⟨_,rfl⟩;obtain⟨L,hL⟩:∃L,Hid (uses op=L):=⟨_,rfl⟩;have HV:Hid (decide (c∈L)=v):=hid (by rw[<-hL.o];exact hv.o);rw[hS.o] at cU hsz hix;rw[hL.o] at hsz hix rq;have HIX:=hid hix;unfold Gives at cU ⊢;clear hix hv;go_enter func76,ntmps76;go_wp2_with (go_at_call 72;((with_reducible refine cU.mono ?_);rintro e w1 ⟨rfl,ak⟩;have HB1:=hid ak));clear cU;go_loopw [6] (fun n wr=>∃k:Nat,k<=L.length/\n=.int .i64 (k:Int)/\Hid (c∉L.take k)/\Hid (Below w.heap.size w wr)) (fun n _=>L.length - (intOf n).toNat);case atStart=>exact⟨0,Nat.zero_le _,rfl,hid si_,HB1⟩
 case round=>
  obtain⟨k,hk,rfl,HN,HB⟩:=hrel;by_cases au:k<L.length
  ·have hq:=List.getElem?_eq_getElem au;generalize L[k]=q at *;have hx:=fun W=>HIX.o k q hq W
   have i1:(k:Int)<S.size:=by rw[hsz];omega
   have i2:((k:Int)<(L.length:Int)):=by omega
   have HS1:=hid (take_succ_at hq);have HM:=hid (List.mem_of_getElem? hq);clear hq;by_cases hc:q=c
   ·subst hc;obtain rfl:true=v:=by rw[<-HV.o];exact(decide_eq_true HM.o).symm
    go_wp2;go_ret;exact⟨rfl,HB.o⟩
   ·have hd:=byte_ne hc;have HC:=hid hc;clear hc;go_wp2;exact⟨⟨k+1,by omega,by go_num,hid (by rw[HS1.o];intro hm;rcases List.mem_append.1 hm with h | h;exact HN.o h;exact HC.o (List.mem_singleton.1 h).symm),hid HB.o⟩,by simp[intOf];omega⟩
  ·obtain rfl:k=L.length:=by omega
   obtain rfl:false=v:=by rw[<-HV.o];have:=HN.o;rw[List.take_of_length_le (Nat.le_refl _)] at this;exact(decide_eq_false this).symm
   have i1:¬((L.length:Int)<S.size):=by omega
   go_wp2;go_ret;exact⟨rfl,HB.o⟩
end step
end Go.Proofs.YtogfefdlffmioaaGreat
