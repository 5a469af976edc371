/- Contracts and lemmas that claims of this seat share: FormShape, SchemaOpen, FormOpen, LinkOpen. Each says its own conditions. -/
import Derived.Test.YtogfefdlffmioaaGreatCmWord
import Derived.Deep.Slices
import Derived.Deep.Strs
import Derived.Lib.SmallJoins
import Derived.Test.YtogfefdlffmioaaGreatCmA
import Derived.Test.YtogfefdlffmioaaGreatCmL
import Derived.Test.YtogfefdlffmioaaGreatCmI
set_option linter.unusedVariables false
namespace Go.Proofs.YtogfefdlffmioaaGreat
open Go.Proofs.Tryz
theorem t92{P:Prop}(h:P:=by
 exact⟨⟨x0,q1,c1,M1⟩,⟨trivial,a0,pR,hM1,dO,hc1⟩,by simpa using e0,rfl⟩):P:=h
namespace schema
open Go.ChangeShapes Go.WideShapes Go.ChangeAt Go.RowKit Go.Deep
structure Fm where
 (id:Int) (f:Option Addr) (fCap:Nat) (fL:List field.Fd)
instance:Inhabited Fm:=⟨⟨0,none,0,[]⟩⟩
def Fm.val(p:Fm):Value:=.agg #[.int .i64 p.id,.slice p.f p.fL.length p.fCap]
structure Fm.Good (W:World) (p:Fm):Prop where
 unit:True
 bid: -9223372036854775808<=p.id/\p.id<=9223372036854775807
 rf:field.Fds W p.f p.fL
 mf:∀y∈p.fL,y.Good W
 cf:p.fL.length<=p.fCap
 df:p.fCap<=maxLen
theorem Fm.Good.below{W W':World}{p:Fm}(h:p.Good W)(hb:Below W.heap.size W W'):p.Good W':=⟨h.unit,h.bid,h.rf.below hb,fun y hy=>(h.mf y hy).below hb,h.cf,h.df⟩
section
variable {H:Type} {enc:TypeId×Value->H} {P:Program} {W:World}
theorem Fm_cells{t0 t1:TypeId}{n:Nat}{v0 v1:Value}{y0 y1:DataW H×List MemPlace}(u0:P.underlying t0=some (.int .i64))(u1:field.FdRow P t1)
  (h0:DataW.trod enc P W 0 (fun _=>true) true n t0 [v0]=some y0) (h1:DataW.trod enc P W 0 (fun _=>true) true n t1 [v1]=some y1):
  ∃p:Fm,p.Good W/\v0=.int .i64 p.id/\v1=.slice p.f p.fL.length p.fCap:=by
 obtain⟨x0,e0,_,w0⟩:=DataW.trod_int u0 h0;have a0:=wf_i64 _ w0;obtain⟨q1,c1,M1,rfl,pR,hM1,dO,hc1⟩:=field.open_FdRow u1 h1
 exact t92
def Fms(w:World)(a:Option Addr)(l:List Fm):Prop:=
 l=[]\/∃b off,a=some ⟨b,off,none⟩/\b<w.heap.size/\∀i p,l[i]?=some p->w.cell? ⟨b,off+i*2,none⟩=some (.int .i64 p.id)/\w.cell? ⟨b,off+i*2+1,none⟩=some (.slice p.f p.fL.length p.fCap)
theorem open_Fms{t e:TypeId}{f0 f1:Field}{a:Option Addr}{len cap:Nat}{d:DataW H}{pl:List MemPlace}(ht:P.underlying t=some (.slice e))(he:P.underlying e=some (.struct #[f0,f1]))(hone:oneCellFields P #[f0,f1]=true)(hC:P.cellsOf e=2)
  (u0:P.underlying f0.type=some (.int .i64)) (u1:field.FdRow P f1.type)
  (h0:DataW.Trod enc P W 0 (fun _=>true) true t (.slice a len cap) d pl):∃l:List Fm,len=l.length/\Fms W a l/\(∀p∈l,p.Good W)/\len<=cap/\cap<=maxLen:=by
 obtain⟨fuel,hf⟩:=h0;have fD:DataW.trod enc P W 0 (fun _=>true) true fuel t [.slice a len cap]=some (d,pl):=by simpa[Value.cells] using hf
 rcases open_slice ht fD with ⟨hcs,_⟩ | ⟨A,len',cap',q,n,D,Pl,hcs,_,qE,hcm,hm,hx0,dn⟩
 ·exact t43
 ·simp at hcs;obtain⟨rfl,rfl,rfl⟩:=hcs;simp only[if_true] at hm;have each:∀r,r<len->∃p:Fm,p.Good W/\W.cell? (A.add (r*2))=some (.int .i64 p.id)/\W.cell? (A.add (r*2+1))=some (.slice p.f p.fL.length p.fCap):=by
   intro r hr;obtain⟨cs',h1,h2⟩:=dn r om_;rw[hC] at h1;obtain⟨_,kQ,hcell⟩:=World.cells?_some h1;obtain⟨ys,m,_,_,hl,hlen,hx⟩:=DataW.trod_struct he h2;rw[hC] at hl;match cs',hl with
   | [c0,c1],_=>
    have each:∀(i:Nat) (f:Field) (c:Value),#[f0,f1][i]?=some f->[c0,c1][i]?=some c->∃y,DataW.trod enc P W 0 (fun _=>true) true m f.type [c]=some y:=by
     intro i f c hi hc;obtain⟨o,k⟩:=hone_of hone i f hi;have hi6:i<2:=by have:=(Array.getElem?_eq_some_iff.1 hi).1;simpa using this
     have h1:=hx i f hi;rw[o,k] at h1;have e:(([c0,c1].drop i).take 1)=[c]:=by
      rw[List.take_one];have:([c0,c1].drop i).head?=some c:=by
       rw[List.head?_drop];simpa using hc
      rw[this];rfl
     exact t65
    obtain⟨y0,g0⟩:=each 0 f0 c0 rfl rfl;obtain⟨y1,g1⟩:=each 1 f1 c1 rfl rfl;obtain⟨p,hp,rfl,rfl⟩:=Fm_cells u0 u1 g0 g1;have k0:=hcell 0 om_;have k1:=hcell 1 om_;rw[add_add] at k0 k1;exact⟨p,hp,by simpa using k0,by simpa using k1⟩
  obtain⟨y,hy⟩:=choose_lt each;refine⟨(List.range len).map y,by simp, ?_, ?_,by omega,hcm⟩
  ·by_cases hz:len=0
   ·subst hz;exact .inl rfl
   ·right;obtain⟨b,off,spot⟩:=A;have hc0:=(hy 0 om_).2.1;have hspot:spot=none:=by simpa[Addr.add] using World.cell?_spot hc0
    subst hspot;have hb:b<W.heap.size:=by
     exact t64
    refine⟨b,off,rfl,hb,fun i p hp=> ?_⟩;have hi:i<len:=by have:=(List.getElem?_eq_some_iff.1 hp).1;simpa using this
    simp[hi] at hp;subst hp;obtain⟨_,e50,e51⟩:=hy i hi;rw[Addr.add_lit] at e50 e51;exact⟨e50,by rw[Nat.add_assoc];exact e51⟩
  ·exact t56
end
theorem Fms.below{w w':World}{a:Option Addr}{l:List Fm}(h:Fms w a l)(hb:Below w.heap.size w w'):Fms w' a l:=by
 rcases h with h | ⟨b,off,ha,au,hc⟩
 ·exact .inl h
 ·refine .inr ⟨b,off,ha,Nat.lt_of_lt_of_le au hb.size,fun i p hp=> ?_⟩;rw[hb.cell (p:=⟨b,off+i*2,none⟩) au,hb.cell (p:=⟨b,off+i*2+1,none⟩) au];exact hc i p hp
theorem Fms.at{w:World}{a:Option Addr}{l:List Fm}(h:Fms w a l){i:Nat}(hi:i<l.length):
  ∃b off p,a=some ⟨b,off,none⟩/\b<w.heap.size/\l[i]?=some p/\w.cell? ⟨b,off+i*2,none⟩=some (.int .i64 p.id)/\w.cell? ⟨b,off+i*2+1,none⟩=some (.slice p.f p.fL.length p.fCap):=by
 rcases h with rfl | ⟨b,off,ha,au,hc⟩
 ·simp at hi
 ·have hp:=List.getElem?_eq_getElem hi;exact⟨b,off,_,ha,au,hp,hc i _ hp⟩
def FmRow(P:Program)(t:TypeId):Prop:=∃(e:TypeId) (f0 f1:Field),P.underlying t=some (.slice e)/\P.underlying e=some (.struct #[f0,f1])/\oneCellFields P #[f0,f1]=true/\P.cellsOf e=2/\P.underlying f0.type=some (.int .i64)/\field.FdRow P f1.type
theorem open_FmRow{H:Type}{enc:TypeId×Value->H}{P:Program}{W:World}{t:TypeId}{v:Value}{n:Nat}{y:DataW H×List MemPlace}(hR:FmRow P t)(h:DataW.trod enc P W 0 (fun _=>true) true n t [v]=some y):∃a cap L,v=.slice a (List.length L) cap/\Fms W a L/\(∀p∈L,p.Good W)/\L.length<=cap/\cap<=maxLen:=by
 obtain⟨e,f0,f1,ht,he,hone,hC,u0,u1⟩:=hR;have hv:∃a len cap,v=.slice a len cap:=by
  exact t32
 obtain⟨a,len,cap,rfl⟩:=hv;obtain⟨L,rfl,h1,h2,h3,h4⟩:=open_Fms ht he hone hC u0 u1 (W:=W) (enc:=enc) (d:=y.1) (pl:=y.2) ⟨n,by simpa[Value.cells] using h⟩;exact⟨a,cap,L,rfl,h1,h2,h3,h4⟩
end schema
namespace schema
open Go.ChangeShapes Go.WideShapes Go.ChangeAt Go.RowKit Go.Deep
structure Sc where
 (ver:Int) (f:Option Addr) (fCap:Nat) (fL:List Fm)
instance:Inhabited Sc:=⟨⟨0,none,0,[]⟩⟩
def Sc.val(p:Sc):Value:=.agg #[.int .i64 p.ver,.slice p.f p.fL.length p.fCap]
structure Sc.Good (W:World) (p:Sc):Prop where
 unit:True
 bver: -9223372036854775808<=p.ver/\p.ver<=9223372036854775807
 rf:Fms W p.f p.fL
 mf:∀y∈p.fL,y.Good W
 cf:p.fL.length<=p.fCap
 df:p.fCap<=maxLen
theorem Sc.Good.below{W W':World}{p:Sc}(h:p.Good W)(hb:Below W.heap.size W W'):p.Good W':=⟨h.unit,h.bver,h.rf.below hb,fun y hy=>(h.mf y hy).below hb,h.cf,h.df⟩
section
variable {H:Type} {enc:TypeId×Value->H} {P:Program} {W:World}
theorem Sc_cells{t0 t1:TypeId}{n:Nat}{v0 v1:Value}{y0 y1:DataW H×List MemPlace}(u0:P.underlying t0=some (.int .i64))(u1:FmRow P t1)
  (h0:DataW.trod enc P W 0 (fun _=>true) true n t0 [v0]=some y0) (h1:DataW.trod enc P W 0 (fun _=>true) true n t1 [v1]=some y1):
  ∃p:Sc,p.Good W/\v0=.int .i64 p.ver/\v1=.slice p.f p.fL.length p.fCap:=by
 obtain⟨x0,e0,_,w0⟩:=DataW.trod_int u0 h0;have a0:=wf_i64 _ w0;obtain⟨q1,c1,M1,rfl,pR,hM1,dO,hc1⟩:=open_FmRow u1 h1
 exact t92
def Scs(w:World)(a:Option Addr)(l:List Sc):Prop:=
 l=[]\/∃b off,a=some ⟨b,off,none⟩/\b<w.heap.size/\∀i p,l[i]?=some p->w.cell? ⟨b,off+i*2,none⟩=some (.int .i64 p.ver)/\w.cell? ⟨b,off+i*2+1,none⟩=some (.slice p.f p.fL.length p.fCap)
end
theorem Scs.below{w w':World}{a:Option Addr}{l:List Sc}(h:Scs w a l)(hb:Below w.heap.size w w'):Scs w' a l:=by
 rcases h with h | ⟨b,off,ha,au,hc⟩
 ·exact .inl h
 ·refine .inr ⟨b,off,ha,Nat.lt_of_lt_of_le au hb.size,fun i p hp=> ?_⟩;rw[hb.cell (p:=⟨b,off+i*2,none⟩) au,hb.cell (p:=⟨b,off+i*2+1,none⟩) au];exact hc i p hp
theorem Scs.at{w:World}{a:Option Addr}{l:List Sc}(h:Scs w a l){i:Nat}(hi:i<l.length):
  ∃b off p,a=some ⟨b,off,none⟩/\b<w.heap.size/\l[i]?=some p/\w.cell? ⟨b,off+i*2,none⟩=some (.int .i64 p.ver)/\w.cell? ⟨b,off+i*2+1,none⟩=some (.slice p.f p.fL.length p.fCap):=by
 rcases h with rfl | ⟨b,off,ha,au,hc⟩
 ·simp at hi
 ·have hp:=List.getElem?_eq_getElem hi;exact⟨b,off,_,ha,au,hp,hc i _ hp⟩
end schema
namespace schema
open Go.ChangeShapes Go.WideShapes Go.ChangeAt Go.RowKit Go.Deep
theorem fmRow:FmRow prog 22:=⟨_,_,_,underlying22,underlying43,by kernel_rfl,by kernel_rfl,by kernel_rfl,field.fdRow⟩
end schema
namespace link
open Go.ChangeShapes Go.WideShapes Go.ChangeAt Go.RowKit Go.Deep
structure Lk where
 (n:Int) (p:schema.Sc) (o:Option Addr) (oc:Nat) (O:List step.St) (b:Option Addr) (bc:Nat) (B:List step.St)
instance:Inhabited Lk:=⟨⟨0,default,none,0,[],none,0,[]⟩⟩
def Lk.val(x:Lk):Value:=.agg #[.int .i64 x.n,.int .i64 x.p.ver,.slice x.p.f x.p.fL.length x.p.fCap,.slice x.o x.O.length x.oc,.slice x.b x.B.length x.bc]
structure Lk.Good (W:World) (x:Lk):Prop where
 n: -9223372036854775808<=x.n/\x.n<=9223372036854775807
 p:x.p.Good W
 o:step.Sts W x.o x.O
 mo:∀y∈x.O,y.Good W
 co:x.O.length<=x.oc
 eo:x.oc<=maxLen
 b:step.Sts W x.b x.B
 mb:∀y∈x.B,y.Good W
 cb:x.B.length<=x.bc
 eb:x.bc<=maxLen
def LkType(P:Program)(t:TypeId):Prop:=∃(F0 F1 F2 F3 f0 f1:Field) (e:TypeId),P.underlying t=some (.struct #[F0,F1,F2,F3])/\P.cellsOf t=5/\(F0.offset=0/\F1.offset=1/\F2.offset=3/\F3.offset=4/\P.cellsOf F0.type=1/\P.cellsOf F1.type=2/\P.cellsOf F2.type=1/\P.cellsOf F3.type=1)/\
 P.underlying F0.type=some (.int .i64)/\(P.underlying F1.type=some (.struct #[f0,f1])/\oneCellFields P #[f0,f1]=true/\P.underlying f0.type=some (.int .i64)/\schema.FmRow P f1.type)/\(P.underlying F2.type=some (.slice e)/\P.underlying F3.type=some (.slice e)/\step.StType P e)
section
variable {H:Type} {enc:TypeId×Value->H} {P:Program} {W:World}
theorem open_StRow{t e:TypeId}{v:Value}{n:Nat}{y:DataW H×List MemPlace}(ht:P.underlying t=some (.slice e))(hT:step.StType P e)(h:DataW.trod enc P W 0 (fun _=>true) true n t [v]=some y):∃a cap L,v=.slice a (List.length L) cap/\step.Sts W a L/\(∀p∈L,p.Good W)/\L.length<=cap/\cap<=maxLen:=by
 have hv:∃a len cap,v=.slice a len cap:=by
  exact t32
 obtain⟨a,len,cap,rfl⟩:=hv;obtain⟨L,rfl,h1,h2,h3,h4⟩:=step.open_Sts ht hT (W:=W) (enc:=enc) (d:=y.1) (pl:=y.2) ⟨n,by simpa[Value.cells] using h⟩;exact⟨a,cap,L,rfl,h1,h2,h3,h4⟩
theorem open_Lk_arg{r:Reach}{b0:Nat}{t:TypeId}{v:Value}{d:DataW H}{pl:List MemPlace}(hT:LkType P t)(hv:Value.okWide P W r b0 t v)(h:DataW.Trod enc P W 0 (fun _=>true) true t v d pl):∃x:Lk,x.Good W/\v=x.val:=by
 obtain⟨F0,F1,F2,F3,f0,f1,e,hs,hC,⟨o0,o1,o2,o3,k0,k1,k2,k3⟩,z0,⟨s0,n0,u0,u1⟩,⟨s1,s2,hS⟩⟩:=hT;obtain⟨cs,rfl,hsz⟩:=okWide_struct hs hv;obtain⟨fuel,hf⟩:=h;rw[hC] at hsz;obtain⟨l⟩:=cs;match l,hsz with
 | [c0,c1,c2,c3,c4],_=>
  obtain⟨y0,y1,y2,y3,n,_,_,e0,e1,e2,e3⟩:=Go.Joins.trod_struct4 hs hf;rw[o0,k0] at e0;rw[o1,k1] at e1;rw[o2,k2] at e2;rw[o3,k3] at e3;replace e0:DataW.trod enc P W 0 (fun _=>true) true n F0.type [c0]=some y0:=e0;replace e1:DataW.trod enc P W 0 (fun _=>true) true n F1.type [c1,c2]=some y1:=e1;replace e2:DataW.trod enc P W 0 (fun _=>true) true n F2.type [c3]=some y2:=e2;replace e3:DataW.trod enc P W 0 (fun _=>true) true n F3.type [c4]=some y3:=e3;obtain⟨x0,g0,_,w0⟩:=DataW.trod_int z0 e0;have a0:=wf_i64 _ w0;obtain rfl:c0=.int .i64 x0:=by simpa using g0
  obtain⟨m,hx⟩:=step.one_cells s0 n0 e1;obtain⟨_,q0⟩:=hx 0 f0 c1 rfl rfl;obtain⟨_,q1⟩:=hx 1 f1 c2 rfl rfl;obtain⟨p,hp,rfl,rfl⟩:=schema.Sc_cells u0 u1 q0 q1;obtain⟨a,c,O,rfl,h1,h2,h3,h4⟩:=open_StRow s1 hS e2;obtain⟨b,d,B,rfl,h5,h6,h7,h8⟩:=open_StRow s2 hS e3;exact⟨⟨x0,p,a,c,O,b,d,B⟩,⟨a0,hp,h1,h2,h3,h4,h5,h6,h7,h8⟩,rfl⟩
end
theorem lkType:LkType prog 27:=
 ⟨_,_,_,_,_,_,_,underlying27,by kernel_rfl,⟨by kernel_rfl,by kernel_rfl,by kernel_rfl,by kernel_rfl,by kernel_rfl,by kernel_rfl,by kernel_rfl,by kernel_rfl⟩,underlying3,⟨underlying24,by kernel_rfl,by kernel_rfl,schema.fmRow⟩,⟨underlying25,underlying25,step.stType⟩⟩
end link
end Go.Proofs.YtogfefdlffmioaaGreat
