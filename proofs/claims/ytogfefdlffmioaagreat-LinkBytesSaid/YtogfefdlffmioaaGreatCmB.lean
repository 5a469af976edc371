/- Contracts and lemmas that claims of this seat share: FieldOpen, ValueOpen, ValueEq. Each says its own conditions. -/
import Derived.Test.YtogfefdlffmioaaGreatCmWord
import Derived.Deep.Slices
import Derived.Deep.Strs
import Derived.Lib.SmallJoins
import Derived.Laws.Strings
import Derived.Test.YtogfefdlffmioaaGreatCmA
set_option linter.unusedVariables false
namespace Go.Proofs.YtogfefdlffmioaaGreat
open Go.Proofs.Tryz
theorem t65{P:Prop}(h:P:=by
 rw[e] at h1;have hy:ys[i]?=some (ys[i]'(by rw[hlen];exact hi6)):=List.getElem?_eq_getElem _;exact⟨_,h1.trans hy⟩):P:=h
theorem t64{P:Prop}(h:P:=by
 have:=World.block_lt_of_cell? W _ hc0;simpa[Addr.add] using this):P:=h
theorem t56{P:Prop}(h:P:=by
 intro p hp;obtain⟨i,hi,rfl⟩:=List.mem_map.1 hp;exact(hy i (List.mem_range.1 hi)).1):P:=h
theorem t43{P:Prop}(h:P:=by
 simp at hcs;obtain⟨rfl,rfl,rfl⟩:=hcs;exact⟨[],rfl,.inl rfl,by simp,Nat.le_refl _,by unfold maxLen;omega⟩):P:=h
namespace field
open Go.ChangeShapes Go.WideShapes Go.ChangeAt Go.RowKit Go.Deep
structure Fd where
 (id:Int) (kind:Int) (lo:Int) (hi:Int) (most:Int)
instance:Inhabited Fd:=⟨⟨0,0,0,0,0⟩⟩
def Fd.val(p:Fd):Value:=.agg #[.int .i64 p.id,.int .i64 p.kind,.int .i64 p.lo,.int .i64 p.hi,.int .i64 p.most]
structure Fd.Good (W:World) (p:Fd):Prop where
 unit:True
 bid: -9223372036854775808<=p.id/\p.id<=9223372036854775807
 bkind: -9223372036854775808<=p.kind/\p.kind<=9223372036854775807
 blo: -9223372036854775808<=p.lo/\p.lo<=9223372036854775807
 bhi: -9223372036854775808<=p.hi/\p.hi<=9223372036854775807
 bmost: -9223372036854775808<=p.most/\p.most<=9223372036854775807
theorem Fd.Good.below{W W':World}{p:Fd}(h:p.Good W)(hb:Below W.heap.size W W'):p.Good W':=⟨h.unit,h.bid,h.bkind,h.blo,h.bhi,h.bmost⟩
section
variable {H:Type} {enc:TypeId×Value->H} {P:Program} {W:World}
theorem Fd_cells{t0 t1 t2 t3 t4:TypeId}{n:Nat}{v0 v1 v2 v3 v4:Value}{y0 y1 y2 y3 y4:DataW H×List MemPlace}(u0:P.underlying t0=some (.int .i64))(u1:P.underlying t1=some (.int .i64))(u2:P.underlying t2=some (.int .i64))(u3:P.underlying t3=some (.int .i64))(u4:P.underlying t4=some (.int .i64))
  (h0:DataW.trod enc P W 0 (fun _=>true) true n t0 [v0]=some y0) (h1:DataW.trod enc P W 0 (fun _=>true) true n t1 [v1]=some y1) (h2:DataW.trod enc P W 0 (fun _=>true) true n t2 [v2]=some y2) (h3:DataW.trod enc P W 0 (fun _=>true) true n t3 [v3]=some y3) (h4:DataW.trod enc P W 0 (fun _=>true) true n t4 [v4]=some y4):
  ∃p:Fd,p.Good W/\v0=.int .i64 p.id/\v1=.int .i64 p.kind/\v2=.int .i64 p.lo/\v3=.int .i64 p.hi/\v4=.int .i64 p.most:=by
 obtain⟨x0,e0,_,w0⟩:=DataW.trod_int u0 h0;have a0:=wf_i64 _ w0;obtain⟨x1,e1,_,w1⟩:=DataW.trod_int u1 h1;have a1:=wf_i64 _ w1;obtain⟨x2,e2,_,w2⟩:=DataW.trod_int u2 h2;have a2:=wf_i64 _ w2;obtain⟨x3,e3,_,w3⟩:=DataW.trod_int u3 h3;have a3:=wf_i64 _ w3;obtain⟨x4,e4,_,w4⟩:=DataW.trod_int u4 h4;have a4:=wf_i64 _ w4;exact⟨⟨x0,x1,x2,x3,x4⟩,⟨trivial,a0,a1,a2,a3,a4⟩,by simpa using e0,by simpa using e1,by simpa using e2,by simpa using e3,by simpa using e4⟩
def Fds(w:World)(a:Option Addr)(l:List Fd):Prop:=
 l=[]\/∃b off,a=some ⟨b,off,none⟩/\b<w.heap.size/\∀i p,l[i]?=some p->w.cell? ⟨b,off+i*5,none⟩=some (.int .i64 p.id)/\w.cell? ⟨b,off+i*5+1,none⟩=some (.int .i64 p.kind)/\w.cell? ⟨b,off+i*5+2,none⟩=some (.int .i64 p.lo)/\w.cell? ⟨b,off+i*5+3,none⟩=some (.int .i64 p.hi)/\w.cell? ⟨b,off+i*5+4,none⟩=some (.int .i64 p.most)
theorem open_Fds{t e:TypeId}{f0 f1 f2 f3 f4:Field}{a:Option Addr}{len cap:Nat}{d:DataW H}{pl:List MemPlace}(ht:P.underlying t=some (.slice e))(he:P.underlying e=some (.struct #[f0,f1,f2,f3,f4]))(hone:oneCellFields P #[f0,f1,f2,f3,f4]=true)(hC:P.cellsOf e=5)
  (u0:P.underlying f0.type=some (.int .i64)) (u1:P.underlying f1.type=some (.int .i64)) (u2:P.underlying f2.type=some (.int .i64)) (u3:P.underlying f3.type=some (.int .i64)) (u4:P.underlying f4.type=some (.int .i64))
  (h0:DataW.Trod enc P W 0 (fun _=>true) true t (.slice a len cap) d pl):∃l:List Fd,len=l.length/\Fds W a l/\(∀p∈l,p.Good W)/\len<=cap/\cap<=maxLen:=by
 obtain⟨fuel,hf⟩:=h0;have fD:DataW.trod enc P W 0 (fun _=>true) true fuel t [.slice a len cap]=some (d,pl):=by simpa[Value.cells] using hf
 rcases open_slice ht fD with ⟨hcs,_⟩ | ⟨A,len',cap',q,n,D,Pl,hcs,_,qE,hcm,hm,hx0,dn⟩
 ·exact t43
 ·simp at hcs;obtain⟨rfl,rfl,rfl⟩:=hcs;simp only[if_true] at hm;have each:∀r,r<len->∃p:Fd,p.Good W/\W.cell? (A.add (r*5))=some (.int .i64 p.id)/\W.cell? (A.add (r*5+1))=some (.int .i64 p.kind)/\W.cell? (A.add (r*5+2))=some (.int .i64 p.lo)/\W.cell? (A.add (r*5+3))=some (.int .i64 p.hi)/\W.cell? (A.add (r*5+4))=some (.int .i64 p.most):=by
   intro r hr;obtain⟨cs',h1,h2⟩:=dn r om_;rw[hC] at h1;obtain⟨_,kQ,hcell⟩:=World.cells?_some h1;obtain⟨ys,m,_,_,hl,hlen,hx⟩:=DataW.trod_struct he h2;rw[hC] at hl;match cs',hl with
   | [c0,c1,c2,c3,c4],_=>
    have each:∀(i:Nat) (f:Field) (c:Value),#[f0,f1,f2,f3,f4][i]?=some f->[c0,c1,c2,c3,c4][i]?=some c->∃y,DataW.trod enc P W 0 (fun _=>true) true m f.type [c]=some y:=by
     intro i f c hi hc;obtain⟨o,k⟩:=hone_of hone i f hi;have hi6:i<5:=by have:=(Array.getElem?_eq_some_iff.1 hi).1;simpa using this
     have h1:=hx i f hi;rw[o,k] at h1;have e:(([c0,c1,c2,c3,c4].drop i).take 1)=[c]:=by
      rw[List.take_one];have:([c0,c1,c2,c3,c4].drop i).head?=some c:=by
       rw[List.head?_drop];simpa using hc
      rw[this];rfl
     exact t65
    obtain⟨y0,g0⟩:=each 0 f0 c0 rfl rfl;obtain⟨y1,g1⟩:=each 1 f1 c1 rfl rfl;obtain⟨y2,g2⟩:=each 2 f2 c2 rfl rfl;obtain⟨y3,g3⟩:=each 3 f3 c3 rfl rfl;obtain⟨y4,g4⟩:=each 4 f4 c4 rfl rfl;obtain⟨p,hp,rfl,rfl,rfl,rfl,rfl⟩:=Fd_cells u0 u1 u2 u3 u4 g0 g1 g2 g3 g4;have k0:=hcell 0 om_;have k1:=hcell 1 om_;have k2:=hcell 2 om_;have k3:=hcell 3 om_;have k4:=hcell 4 om_;rw[add_add] at k0 k1 k2 k3 k4;exact⟨p,hp,by simpa using k0,by simpa using k1,by simpa using k2,by simpa using k3,by simpa using k4⟩
  obtain⟨y,hy⟩:=choose_lt each;refine⟨(List.range len).map y,by simp, ?_, ?_,by omega,hcm⟩
  ·by_cases hz:len=0
   ·subst hz;exact .inl rfl
   ·right;obtain⟨b,off,spot⟩:=A;have hc0:=(hy 0 om_).2.1;have hspot:spot=none:=by simpa[Addr.add] using World.cell?_spot hc0
    subst hspot;have hb:b<W.heap.size:=by
     exact t64
    refine⟨b,off,rfl,hb,fun i p hp=> ?_⟩;have hi:i<len:=by have:=(List.getElem?_eq_some_iff.1 hp).1;simpa using this
    simp[hi] at hp;subst hp;obtain⟨_,e50,e51,e52,e53,e54⟩:=hy i hi;rw[Addr.add_lit] at e50 e51 e52 e53 e54;exact⟨e50,by rw[Nat.add_assoc];exact e51,by rw[Nat.add_assoc];exact e52,by rw[Nat.add_assoc];exact e53,by rw[Nat.add_assoc];exact e54⟩
  ·exact t56
end
theorem Fds.below{w w':World}{a:Option Addr}{l:List Fd}(h:Fds w a l)(hb:Below w.heap.size w w'):Fds w' a l:=by
 rcases h with h | ⟨b,off,ha,au,hc⟩
 ·exact .inl h
 ·refine .inr ⟨b,off,ha,Nat.lt_of_lt_of_le au hb.size,fun i p hp=> ?_⟩;rw[hb.cell (p:=⟨b,off+i*5,none⟩) au,hb.cell (p:=⟨b,off+i*5+1,none⟩) au,hb.cell (p:=⟨b,off+i*5+2,none⟩) au,hb.cell (p:=⟨b,off+i*5+3,none⟩) au,hb.cell (p:=⟨b,off+i*5+4,none⟩) au];exact hc i p hp
theorem Fds.at{w:World}{a:Option Addr}{l:List Fd}(h:Fds w a l){i:Nat}(hi:i<l.length):
  ∃b off p,a=some ⟨b,off,none⟩/\b<w.heap.size/\l[i]?=some p/\w.cell? ⟨b,off+i*5,none⟩=some (.int .i64 p.id)/\w.cell? ⟨b,off+i*5+1,none⟩=some (.int .i64 p.kind)/\w.cell? ⟨b,off+i*5+2,none⟩=some (.int .i64 p.lo)/\w.cell? ⟨b,off+i*5+3,none⟩=some (.int .i64 p.hi)/\w.cell? ⟨b,off+i*5+4,none⟩=some (.int .i64 p.most):=by
 rcases h with rfl | ⟨b,off,ha,au,hc⟩
 ·simp at hi
 ·have hp:=List.getElem?_eq_getElem hi;exact⟨b,off,_,ha,au,hp,hc i _ hp⟩
end field
section
structure zF_ (f:field.Fd) where
def zF(f:field.Fd):zF_ f:=⟨⟩
instance (f:field.Fd) (m:zF_ f):CoeDep (zF_ f) m (List Value):=⟨[.int .i64 f.id,.int .i64 f.kind,.int .i64 f.lo,.int .i64 f.hi,.int .i64 f.most]⟩
instance (f:field.Fd) (m:zF_ f):CoeDep (zF_ f) m (Array Value):=⟨#[.int .i64 f.id,.int .i64 f.kind,.int .i64 f.lo,.int .i64 f.hi,.int .i64 f.most]⟩
instance (f:field.Fd) (m:zF_ f):CoeDep (zF_ f) m Value:=⟨.agg #[.int .i64 f.id,.int .i64 f.kind,.int .i64 f.lo,.int .i64 f.hi,.int .i64 f.most]⟩
end
namespace field
open Go.ChangeShapes Go.WideShapes Go.ChangeAt Go.RowKit Go.Deep
structure Va where
 (n:Int) (s:ByteArray)
instance:Inhabited Va:=⟨⟨0,⟨#[]⟩⟩⟩
def Va.val(p:Va):Value:=.agg #[.int .i64 p.n,.string p.s]
structure Va.Good (W:World) (p:Va):Prop where
 unit:True
 bn: -9223372036854775808<=p.n/\p.n<=9223372036854775807
theorem Va.Good.below{W W':World}{p:Va}(h:p.Good W)(hb:Below W.heap.size W W'):p.Good W':=⟨h.unit,h.bn⟩
section
variable {H:Type} {enc:TypeId×Value->H} {P:Program} {W:World}
theorem Va_cells{t0 t1:TypeId}{n:Nat}{v0 v1:Value}{y0 y1:DataW H×List MemPlace}(u0:P.underlying t0=some (.int .i64))(u1:P.underlying t1=some .string)
  (h0:DataW.trod enc P W 0 (fun _=>true) true n t0 [v0]=some y0) (h1:DataW.trod enc P W 0 (fun _=>true) true n t1 [v1]=some y1):
  ∃p:Va,p.Good W/\v0=.int .i64 p.n/\v1=.string p.s:=by
 obtain⟨x0,e0,_,w0⟩:=DataW.trod_int u0 h0;have a0:=wf_i64 _ w0;obtain⟨x1,e1,_⟩:=DataW.trod_string u1 h1;exact⟨⟨x0,x1⟩,⟨trivial,a0⟩,by simpa using e0,by simpa using e1⟩
def Vas(w:World)(a:Option Addr)(l:List Va):Prop:=
 l=[]\/∃b off,a=some ⟨b,off,none⟩/\b<w.heap.size/\∀i p,l[i]?=some p->w.cell? ⟨b,off+i*2,none⟩=some (.int .i64 p.n)/\w.cell? ⟨b,off+i*2+1,none⟩=some (.string p.s)
end
theorem Vas.below{w w':World}{a:Option Addr}{l:List Va}(h:Vas w a l)(hb:Below w.heap.size w w'):Vas w' a l:=by
 rcases h with h | ⟨b,off,ha,au,hc⟩
 ·exact .inl h
 ·refine .inr ⟨b,off,ha,Nat.lt_of_lt_of_le au hb.size,fun i p hp=> ?_⟩;rw[hb.cell (p:=⟨b,off+i*2,none⟩) au,hb.cell (p:=⟨b,off+i*2+1,none⟩) au];exact hc i p hp
theorem Vas.at{w:World}{a:Option Addr}{l:List Va}(h:Vas w a l){i:Nat}(hi:i<l.length):
  ∃b off p,a=some ⟨b,off,none⟩/\b<w.heap.size/\l[i]?=some p/\w.cell? ⟨b,off+i*2,none⟩=some (.int .i64 p.n)/\w.cell? ⟨b,off+i*2+1,none⟩=some (.string p.s):=by
 rcases h with rfl | ⟨b,off,ha,au,hc⟩
 ·simp at hi
 ·have hp:=List.getElem?_eq_getElem hi;exact⟨b,off,_,ha,au,hp,hc i _ hp⟩
end field
section
structure zV_ (v:field.Va) where
def zV(v:field.Va):zV_ v:=⟨⟩
instance (v:field.Va) (m:zV_ v):CoeDep (zV_ v) m (List Value):=⟨[.int .i64 v.n,.string v.s]⟩
instance (v:field.Va) (m:zV_ v):CoeDep (zV_ v) m (Array Value):=⟨#[.int .i64 v.n,.string v.s]⟩
instance (v:field.Va) (m:zV_ v):CoeDep (zV_ v) m Value:=⟨.agg #[.int .i64 v.n,.string v.s]⟩
end
section
structure zS_ (v:Int) (a:Option Addr) (n c:Nat) where
def zS(v:Int)(a:Option Addr)(n c:Nat):zS_ v a n c:=⟨⟩
instance (v:Int) (a:Option Addr) (n c:Nat) (m:zS_ v a n c):CoeDep (zS_ v a n c) m (List Value):=⟨[.int .i64 v,.slice a n c]⟩
instance (v:Int) (a:Option Addr) (n c:Nat) (m:zS_ v a n c):CoeDep (zS_ v a n c) m (Array Value):=⟨#[.int .i64 v,.slice a n c]⟩
instance (v:Int) (a:Option Addr) (n c:Nat) (m:zS_ v a n c):CoeDep (zS_ v a n c) m Value:=⟨.agg #[.int .i64 v,.slice a n c]⟩
end
namespace record
open Go.RowKit
open field (Va)
instance:DecidableEq Va:=fun a b=>
 if h:a.n=b.n/\a.s.toList=b.s.toList then isTrue (by
  obtain⟨n,⟨⟨s⟩⟩⟩:=a;obtain⟨m,⟨⟨t⟩⟩⟩:=b;obtain⟨h1,h2⟩:=h;simp only at h1 h2;rw[ByteArray.toList_eq,ByteArray.toList_eq] at h2;simp only at h2;subst h1 h2;rfl) else isFalse (by rintro rfl;simp at h)
theorem va_eq{n m:Int}{s t:ByteArray}:(⟨n,s⟩:Va)=⟨m,t⟩↔n=m/\s.toList=t.toList:=by
 constructor
 ·intro h;cases h;exact⟨rfl,rfl⟩
 ·rintro⟨rfl,h⟩;obtain⟨⟨s⟩⟩:=s;obtain⟨⟨t⟩⟩:=t;rw[ByteArray.toList_eq,ByteArray.toList_eq] at h;simp only at h;subst h;rfl
end record
end Go.Proofs.YtogfefdlffmioaaGreat
