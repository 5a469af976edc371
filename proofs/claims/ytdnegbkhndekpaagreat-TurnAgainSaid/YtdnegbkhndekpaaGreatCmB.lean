/- Contracts and lemmas that claims of this seat share: FieldRows, FormShape, FormOpen, SchemaOpen, IntRows, StepOpen, ValueRows, RecordOpen, TurnOpen, PenMath, SchemaMath, BitsLen, FieldTop, FieldSize, SchemaLong, Str, Drift, RegionS, AppendN, FieldRow, Cross, Late, InsertF, DeleteF, Cut, PlanPair, PlanThen, PlanReads. Each says its own conditions. -/
import Derived.Test.YtdnegbkhndekpaaGreatCmWord
import Derived.Deep.Slices
import Derived.Deep.Strs
import Derived.Lib.SmallJoins
import Derived.IntWalk
import Derived.Handy
import Derived.Laws.BytesArg
import Derived.Laws.Concat
import Derived.Maps.AppendAt
import Derived.Laws.Cover3
import Derived.Test.YtdnegbkhndekpaaGreatCmA
set_option linter.unusedVariables false
namespace Go.Proofs.YtdnegbkhndekpaaGreat
open Go.Proofs.Tryz
theorem t83{P:Prop}(h:P:=by
 rcases open_slice ht h with ⟨hcs,_⟩ | ⟨A,len,cap,m,n1,D,Pl,hcs,_⟩
 ·exact ⟨none,0,0,by simpa using hcs⟩
 ·exact ⟨_,_,_,by simpa using hcs⟩):P:=h
namespace field
open Go.ChangeShapes Go.WideShapes Go.ChangeAt Go.RowKit Go.Deep
def yI (P:Program) (t:TypeId):Prop:=∃(e:TypeId) (f0 f1 f2 f3 f4:Field),P.underlying t=some (.slice e)/\P.underlying e=some (.struct #[f0,f1,f2,f3,f4])/\oneCellFields P #[f0,f1,f2,f3,f4]=true/\P.cellsOf e=5/\P.underlying f0.type=some (.int .i64)/\P.underlying f1.type=some (.int .i64)/\P.underlying f2.type=some (.int .i64)/\P.underlying f3.type=some (.int .i64)/\P.underlying f4.type=some (.int .i64)
theorem xw {H:Type} {enc:TypeId×Value->H} {P:Program} {W:World} {t:TypeId} {v:Value} {n:Nat} {y:DataW H×List MemPlace} (hR:yI P t) (h:DataW.trod enc P W 0 (fun _=>true) true n t [v]=some y):∃a cap L,v=.slice a (List.length L) cap/\Fds W a L/\(∀p∈L,p.Good W)/\L.length<=cap/\cap<=maxLen:=by
 obtain ⟨e,f0,f1,f2,f3,f4,ht,he,hone,hC,u0,u1,u2,u3,u4⟩:=hR;have hv:∃a len cap,v=.slice a len cap:=by
  exact t83
 obtain ⟨a,len,cap,rfl⟩:=hv;obtain ⟨L,rfl,h1,h2,h3,h4⟩:=Ht ht he hone hC u0 u1 u2 u3 u4 (W:=W) (enc:=enc) (d:=y.1) (pl:=y.2) ⟨n,by simpa [Value.cells] using h⟩;exact ⟨a,cap,L,rfl,h1,h2,h3,h4⟩
theorem JA:yI prog 30:=⟨_,_,_,_,_,_,underlying30,underlying26,by kernel_rfl,by kernel_rfl,by kernel_rfl,by kernel_rfl,by kernel_rfl,by kernel_rfl,by kernel_rfl⟩
end field
theorem t126{P:Prop}(h:P:=by
 exact ⟨⟨x0,q1,c1,M1⟩,⟨trivial,a0,hr1,hM1,hl1,hc1⟩,by simpa using e0,rfl⟩):P:=h
theorem t67{P:Prop}(h:P:=by
 rcases h with h | ⟨b,off,ha,hlt,hc⟩
 ·exact .inl h
 ·refine .inr ⟨b,off,ha,Nat.lt_of_lt_of_le hlt hb.size,fun i p hp=> ?_⟩;rw [hb.cell (p:=⟨b,off+i*2,none⟩) hlt,hb.cell (p:=⟨b,off+i*2+1,none⟩) hlt];exact hc i p hp):P:=h
namespace schema
open Go.ChangeShapes Go.WideShapes Go.ChangeAt Go.RowKit Go.Deep
structure Fm where
 (id:Int) (f:Option Addr) (fCap:Nat) (fL:List field.Fd)
instance:Inhabited Fm:=⟨⟨0,none,0,[]⟩⟩
structure Fm.Good (W:World) (p:Fm):Prop where
 unit:True
 bid: -9223372036854775808<=p.id/\p.id<=9223372036854775807
 rf:field.Fds W p.f p.fL
 mf:∀y∈p.fL,y.Good W
 cf:p.fL.length<=p.fCap
 df:p.fCap<=maxLen
theorem Fm.Good.below {W W':World} {p:Fm} (h:p.Good W) (hb:Below W.heap.size W W'):p.Good W':=⟨h.unit,h.bid,h.rf.below hb,fun y hy=>(h.mf y hy).below hb,h.cf,h.df⟩
section
variable {H:Type} {enc:TypeId×Value->H} {P:Program} {W:World}
theorem FV {t0 t1:TypeId} {n:Nat} {v0 v1:Value} {y0 y1:DataW H×List MemPlace} (u0:P.underlying t0=some (.int .i64)) (u1:field.yI P t1)
  (h0:DataW.trod enc P W 0 (fun _=>true) true n t0 [v0]=some y0) (h1:DataW.trod enc P W 0 (fun _=>true) true n t1 [v1]=some y1):
  ∃p:Fm,p.Good W/\v0=.int .i64 p.id/\v1=.slice p.f p.fL.length p.fCap:=by
 obtain ⟨x0,e0,_,w0⟩:=DataW.trod_int u0 h0;have a0:=wf_i64 _ w0;obtain ⟨q1,c1,M1,rfl,hr1,hM1,hl1,hc1⟩:=field.xw u1 h1
 exact t126
def Fms (w:World) (a:Option Addr) (l:List Fm):Prop:=
 l=[]\/∃b off,a=some ⟨b,off,none⟩/\b<w.heap.size/\∀i p,l[i]?=some p->w.cell? ⟨b,off+i*2,none⟩=some (.int .i64 p.id)/\w.cell? ⟨b,off+i*2+1,none⟩=some (.slice p.f p.fL.length p.fCap)
theorem Gp {t e:TypeId} {f0 f1:Field} {a:Option Addr} {len cap:Nat} {d:DataW H} {pl:List MemPlace} (ht:P.underlying t=some (.slice e)) (he:P.underlying e=some (.struct #[f0,f1])) (hone:oneCellFields P #[f0,f1]=true) (hC:P.cellsOf e=2)
  (u0:P.underlying f0.type=some (.int .i64)) (u1:field.yI P f1.type)
  (h0:DataW.Trod enc P W 0 (fun _=>true) true t (.slice a len cap) d pl):∃l:List Fm,len=l.length/\Fms W a l/\(∀p∈l,p.Good W)/\len<=cap/\cap<=maxLen:=by
 obtain ⟨fuel,hf⟩:=h0;have hf2:DataW.trod enc P W 0 (fun _=>true) true fuel t [.slice a len cap]=some (d,pl):=by simpa [Value.cells] using hf
 rcases open_slice ht hf2 with ⟨hcs,_⟩ | ⟨A,len',cap',q,n,D,Pl,hcs,_,hlc,hcm,hm,hx0,hrow⟩
 ·exact t95
 ·simp at hcs;obtain ⟨rfl,rfl,rfl⟩:=hcs;simp only [if_true] at hm;have each:∀r,r<len->∃p:Fm,p.Good W/\W.cell? (A.add (r*2))=some (.int .i64 p.id)/\W.cell? (A.add (r*2+1))=some (.slice p.f p.fL.length p.fCap):=by
   intro r hr;obtain ⟨cs',h1,h2⟩:=hrow r om_;rw [hC] at h1;obtain ⟨_,hlen0,hcell⟩:=World.cells?_some h1;obtain ⟨ys,m,_,_,hl,hlen,hx⟩:=DataW.trod_struct he h2;rw [hC] at hl;match cs',hl with
   | [c0,c1],_=>
    have each:∀(i:Nat) (f:Field) (c:Value),#[f0,f1][i]?=some f->[c0,c1][i]?=some c->∃y,DataW.trod enc P W 0 (fun _=>true) true m f.type [c]=some y:=by
     intro i f c hi hc;obtain ⟨o,k⟩:=hone_of hone i f hi;have hi6:i<2:=by have:=(Array.getElem?_eq_some_iff.1 hi).1;simpa using this
     have h1:=hx i f hi;rw [o,k] at h1;have e:(([c0,c1].drop i).take 1)=[c]:=by
      rw [List.take_one];have:([c0,c1].drop i).head?=some c:=by
       rw [List.head?_drop];simpa using hc
      rw [this];rfl
     exact t92
    obtain ⟨y0,g0⟩:=each 0 f0 c0 rfl rfl;obtain ⟨y1,g1⟩:=each 1 f1 c1 rfl rfl;obtain ⟨p,hp,rfl,rfl⟩:=FV u0 u1 g0 g1;have k0:=hcell 0 om_;have k1:=hcell 1 om_;rw [add_add] at k0 k1;exact ⟨p,hp,by simpa using k0,by simpa using k1⟩
  obtain ⟨y,hy⟩:=choose_lt each;refine ⟨(List.range len).map y,by simp, ?_, ?_,by omega,hcm⟩
  ·by_cases hz:len=0
   ·subst hz;exact .inl rfl
   ·right;obtain ⟨b,off,spot⟩:=A;have hc0:=(hy 0 om_).2.1;have hspot:spot=none:=by simpa [Addr.add] using World.cell?_spot hc0
    subst hspot;have hb:b<W.heap.size:=by
     exact t132
    refine ⟨b,off,rfl,hb,fun i p hp=> ?_⟩;have hi:i<len:=by have:=(List.getElem?_eq_some_iff.1 hp).1;simpa using this
    simp [hi] at hp;subst hp;obtain ⟨_,e50,e51⟩:=hy i hi;rw [Addr.add_lit] at e50 e51;exact ⟨e50,by rw [Nat.add_assoc];exact e51⟩
  ·exact t119
end
theorem Fms.below {w w':World} {a:Option Addr} {l:List Fm} (h:Fms w a l) (hb:Below w.heap.size w w'):Fms w' a l:=by
 exact t67
theorem Fms.at {w:World} {a:Option Addr} {l:List Fm} (h:Fms w a l) {i:Nat} (hi:i<l.length):
  ∃b off p,a=some ⟨b,off,none⟩/\b<w.heap.size/\l[i]?=some p/\w.cell? ⟨b,off+i*2,none⟩=some (.int .i64 p.id)/\w.cell? ⟨b,off+i*2+1,none⟩=some (.slice p.f p.fL.length p.fCap):=by
 exact t61
def DW (P:Program) (t:TypeId):Prop:=∃(e:TypeId) (f0 f1:Field),P.underlying t=some (.slice e)/\P.underlying e=some (.struct #[f0,f1])/\oneCellFields P #[f0,f1]=true/\P.cellsOf e=2/\P.underlying f0.type=some (.int .i64)/\field.yI P f1.type
theorem D8 {H:Type} {enc:TypeId×Value->H} {P:Program} {W:World} {t:TypeId} {v:Value} {n:Nat} {y:DataW H×List MemPlace} (hR:DW P t) (h:DataW.trod enc P W 0 (fun _=>true) true n t [v]=some y):∃a cap L,v=.slice a (List.length L) cap/\Fms W a L/\(∀p∈L,p.Good W)/\L.length<=cap/\cap<=maxLen:=by
 obtain ⟨e,f0,f1,ht,he,hone,hC,u0,u1⟩:=hR;have hv:∃a len cap,v=.slice a len cap:=by
  exact t83
 obtain ⟨a,len,cap,rfl⟩:=hv;obtain ⟨L,rfl,h1,h2,h3,h4⟩:=Gp ht he hone hC u0 u1 (W:=W) (enc:=enc) (d:=y.1) (pl:=y.2) ⟨n,by simpa [Value.cells] using h⟩;exact ⟨a,cap,L,rfl,h1,h2,h3,h4⟩
end schema
namespace schema
open Go.ChangeShapes Go.WideShapes Go.ChangeAt Go.RowKit Go.Deep
theorem KZ:DW prog 22:=⟨_,_,_,underlying22,underlying57,by kernel_rfl,by kernel_rfl,by kernel_rfl,field.JA⟩
end schema
namespace schema
open Go.ChangeShapes Go.WideShapes Go.ChangeAt Go.RowKit Go.Deep
structure Sc where
 (ver:Int) (f:Option Addr) (fCap:Nat) (fL:List Fm)
instance:Inhabited Sc:=⟨⟨0,none,0,[]⟩⟩
structure Sc.Good (W:World) (p:Sc):Prop where
 unit:True
 bver: -9223372036854775808<=p.ver/\p.ver<=9223372036854775807
 rf:Fms W p.f p.fL
 mf:∀y∈p.fL,y.Good W
 cf:p.fL.length<=p.fCap
 df:p.fCap<=maxLen
theorem Sc.Good.below {W W':World} {p:Sc} (h:p.Good W) (hb:Below W.heap.size W W'):p.Good W':=⟨h.unit,h.bver,h.rf.below hb,fun y hy=>(h.mf y hy).below hb,h.cf,h.df⟩
section
variable {H:Type} {enc:TypeId×Value->H} {P:Program} {W:World}
theorem Gx {t0 t1:TypeId} {n:Nat} {v0 v1:Value} {y0 y1:DataW H×List MemPlace} (u0:P.underlying t0=some (.int .i64)) (u1:DW P t1)
  (h0:DataW.trod enc P W 0 (fun _=>true) true n t0 [v0]=some y0) (h1:DataW.trod enc P W 0 (fun _=>true) true n t1 [v1]=some y1):
  ∃p:Sc,p.Good W/\v0=.int .i64 p.ver/\v1=.slice p.f p.fL.length p.fCap:=by
 obtain ⟨x0,e0,_,w0⟩:=DataW.trod_int u0 h0;have a0:=wf_i64 _ w0;obtain ⟨q1,c1,M1,rfl,hr1,hM1,hl1,hc1⟩:=D8 u1 h1
 exact t126
def Scs (w:World) (a:Option Addr) (l:List Sc):Prop:=
 l=[]\/∃b off,a=some ⟨b,off,none⟩/\b<w.heap.size/\∀i p,l[i]?=some p->w.cell? ⟨b,off+i*2,none⟩=some (.int .i64 p.ver)/\w.cell? ⟨b,off+i*2+1,none⟩=some (.slice p.f p.fL.length p.fCap)
end
theorem Scs.below {w w':World} {a:Option Addr} {l:List Sc} (h:Scs w a l) (hb:Below w.heap.size w w'):Scs w' a l:=by
 exact t67
theorem Scs.at {w:World} {a:Option Addr} {l:List Sc} (h:Scs w a l) {i:Nat} (hi:i<l.length):
  ∃b off p,a=some ⟨b,off,none⟩/\b<w.heap.size/\l[i]?=some p/\w.cell? ⟨b,off+i*2,none⟩=some (.int .i64 p.ver)/\w.cell? ⟨b,off+i*2+1,none⟩=some (.slice p.f p.fL.length p.fCap):=by
 exact t61
end schema
namespace step
open Go.ChangeShapes Go.WideShapes Go.ChangeAt Go.RowKit Go.Deep
def Ins (w:World) (a:Option Addr) (l:List Int):Prop:=
 l=[]\/∃b off,a=some ⟨b,off,none⟩/\b<w.heap.size/\∀(i:Nat) (n:Int),l[i]?=some n->w.cell? ⟨b,off+i,none⟩=some (.int .i64 n)
theorem Ins.below {w w':World} {a:Option Addr} {l:List Int} (h:Ins w a l) (hb:Below w.heap.size w w'):Ins w' a l:=by
 rcases h with h | ⟨b,off,ha,hlt,hc⟩
 ·exact .inl h
 ·refine .inr ⟨b,off,ha,Nat.lt_of_lt_of_le hlt hb.size,fun i p hp=> ?_⟩;rw [hb.cell (p:=⟨b,off+i,none⟩) hlt];exact hc i p hp
theorem Ins.at {w:World} {a:Option Addr} {l:List Int} (h:Ins w a l) {i:Nat} (hi:i<l.length):
  ∃b off p,a=some ⟨b,off,none⟩/\b<w.heap.size/\l[i]?=some p/\w.cell? ⟨b,off+i,none⟩=some (.int .i64 p):=by
 rcases h with rfl | ⟨b,off,ha,hlt,hc⟩
 ·simp at hi
 ·have hp:=List.getElem?_eq_getElem hi;exact ⟨b,off,_,ha,hlt,hp,hc i _ hp⟩
def xR (n:Int):Prop:= -9223372036854775808<=n/\n<=9223372036854775807
section
variable {H:Type} {enc:TypeId×Value->H} {P:Program} {W:World}
def Ib (P:Program) (t:TypeId):Prop:=∃e,P.underlying t=some (.slice e)/\P.underlying e=some (.int .i64)/\P.cellsOf e=1
theorem Du {t:TypeId} {v:Value} {fuel:Nat} {y:DataW H×List MemPlace} (hR:Ib P t)
  (hf:DataW.trod enc P W 0 (fun _=>true) true fuel t [v]=some y):
  ∃(a:Option Addr) (cap:Nat) (M:List Int),v=.slice a M.length cap/\Ins W a M/\(∀x∈M,xR x)/\M.length<=cap/\cap<=maxLen:=by
 obtain ⟨e,ht,he,hc⟩:=hR;rcases open_ints ht he hc hf with ⟨hcs,_⟩ | ⟨x,l,c,zs,hcs,_,hl,hm,hz,hx,hcell,hwz⟩
 ·exact ⟨none,0,[],by simpa using hcs,.inl rfl,by simp,Nat.le_refl _,by unfold maxLen;omega⟩
 ·simp only [if_true] at hz;have hlen:(zs.take l).length=l:=by simp;omega
  refine ⟨some x,c,zs.take l,by rw [hlen];simpa using hcs, ?_,fun y hy=>wf_i64 _ (hwz _ (List.mem_of_mem_take hy)),by rw [hlen];exact hl,hm⟩;by_cases h:l=0
  ·exact .inl (by subst h;rfl)
  ·right;obtain ⟨b,off,spot⟩:=x;have hspot:spot=none:=by simpa [Addr.add] using World.cell?_spot (hcell 0 om_)
   subst hspot;have hb:b<W.heap.size:=by
    have:=World.block_lt_of_cell? W _ (hcell 0 om_);simpa [Addr.add] using this
   refine ⟨b,off,rfl,hb,fun i n hi=> ?_⟩;have hil:i<l:=by have:=(List.getElem?_eq_some_iff.1 hi).1;omega
   have h1:=hcell i om_;rw [Addr.add_lit] at h1;rw [h1];have hi':i<zs.length:=by omega
   rw [List.getElem?_take,if_pos hil] at hi;simp [List.getD,hi]
end
theorem KL:Ib prog 29:=⟨_,underlying29,by kernel_rfl,by kernel_rfl⟩
end step
namespace step
open Go.ChangeShapes Go.WideShapes Go.ChangeAt Go.RowKit Go.Deep
structure Sp where
 (op fm fd pl tt a b:Int) (f:field.Fd) (v:field.Va) (t:List Int) (l:List field.Fd)
structure St where
 (s:Sp) (ta:Option Addr) (tc:Nat) (la:Option Addr) (lc:Nat)
instance:Inhabited St:=⟨⟨⟨0,0,0,0,0,0,0,⟨0,0,0,0,0⟩,⟨0,⟨#[]⟩⟩,[],[]⟩,none,0,none,0⟩⟩
def spC (s:Sp) (x y:Value):List Value:=[.int .i64 s.op,.int .i64 s.fm,.int .i64 s.fd,.int .i64 s.pl,.int .i64 s.tt,.int .i64 s.a,.int .i64 s.b,.int .i64 s.f.id,.int .i64 s.f.kind,.int .i64 s.f.lo,.int .i64 s.f.hi,.int .i64 s.f.most,.int .i64 s.v.n,.string s.v.s,x,y]
def St.C (p:St):List Value:=spC p.s (.slice p.ta p.s.t.length p.tc) (.slice p.la p.s.l.length p.lc)
structure Sp.Ints (s:Sp):Prop where
 bop:xR s.op
 bfm:xR s.fm
 bfd:xR s.fd
 bpl:xR s.pl
 btt:xR s.tt
 ba:xR s.a
 bb:xR s.b
 bn:xR s.v.n
 bt:∀n∈s.t,xR n
structure St.Good (W:World) (p:St):Prop where
 ints:p.s.Ints
 bf:p.s.f.Good W
 rt:Ins W p.ta p.s.t
 ct:p.s.t.length<=p.tc
 dt:p.tc<=maxLen
 rl:field.Fds W p.la p.s.l
 ml:∀y∈p.s.l,y.Good W
 cl:p.s.l.length<=p.lc
 dl:p.lc<=maxLen
theorem St.Good.below {W W':World} {p:St} (h:p.Good W) (hb:Below W.heap.size W W'):p.Good W':=
 ⟨h.ints,h.bf.below hb,h.rt.below hb,h.ct,h.dt,h.rl.below hb,fun y hy=>(h.ml y hy).below hb,h.cl,h.dl⟩
def Sts (w:World) (a:Option Addr) (l:List St):Prop:=
 l=[]\/∃b off,a=some ⟨b,off,none⟩/\b<w.heap.size/\∀(i:Nat) p,l[i]?=some p->∀(j:Nat) v,p.C[j]?=some v->w.cell? ⟨b,off+i*16+j,none⟩=some v
theorem Sts.below {w w':World} {a:Option Addr} {l:List St} (h:Sts w a l) (hb:Below w.heap.size w w'):Sts w' a l:=by
 rcases h with h | ⟨b,off,ha,hlt,hc⟩
 ·exact .inl h
 ·refine .inr ⟨b,off,ha,Nat.lt_of_lt_of_le hlt hb.size,fun i p hp j v hv=> ?_⟩;rw [hb.cell (p:=⟨b,off+i*16+j,none⟩) hlt];exact hc i p hp j v hv
section
variable {H:Type} {enc:TypeId×Value->H} {P:Program} {W:World}
structure StShape (P:Program) (t:TypeId) (F:List Field):Prop where
 hs:P.underlying t=some (.struct F.toArray)
 hC:P.cellsOf t=16
 ho:F.map (fun f=>(f.offset,P.cellsOf f.type))=[(0,1),(1,1),(2,1),(3,1),(4,1),(5,1),(6,1),(7,5),(12,2),(14,1),(15,1)]
 hi:∀i,i<7->∀f,F[i]?=some f->P.underlying f.type=some (.int .i64)
 hf:∀f,F[7]?=some f->∃f0 f1 f2 f3 f4,P.underlying f.type=some (.struct #[f0,f1,f2,f3,f4])/\oneCellFields P #[f0,f1,f2,f3,f4]=true/\P.underlying f0.type=some (.int .i64)/\P.underlying f1.type=some (.int .i64)/\P.underlying f2.type=some (.int .i64)/\P.underlying f3.type=some (.int .i64)/\P.underlying f4.type=some (.int .i64)
 hv:∀f,F[8]?=some f->∃g0 g1,P.underlying f.type=some (.struct #[g0,g1])/\oneCellFields P #[g0,g1]=true/\P.underlying g0.type=some (.int .i64)/\P.underlying g1.type=some .string
 ht:∀f,F[9]?=some f->Ib P f.type
 hl:∀f,F[10]?=some f->field.yI P f.type
def Dv (P:Program) (t:TypeId):Prop:=∃F,StShape P t F
theorem take_one {cs:List Value} {i:Nat} {c:Value} (h:cs[i]?=some c):(cs.drop i).take 1=[c]:=by
 rw [List.take_one,List.head?_drop,h];rfl
theorem qG {t:TypeId} {fs:Array Field} {n:Nat} {cs:List Value} {y:DataW H×List MemPlace} (hs:P.underlying t=some (.struct fs)) (hone:oneCellFields P fs=true) (h:DataW.trod enc P W 0 (fun _=>true) true n t cs=some y):
  ∃m,∀(i:Nat) (f:Field) (c:Value),fs[i]?=some f->cs[i]?=some c->∃y,DataW.trod enc P W 0 (fun _=>true) true m f.type [c]=some y:=by
 obtain ⟨ys,m,_,_,hl,hlen,hx⟩:=DataW.trod_struct hs h;refine ⟨m,fun i f c hi hc=> ?_⟩;obtain ⟨o,k⟩:=hone_of hone i f hi;have h1:=hx i f hi;rw [o,k,take_one hc] at h1;have hi6:i<fs.size:=(Array.getElem?_eq_some_iff.1 hi).1;exact ⟨_,h1.trans (List.getElem?_eq_getElem (by rw [hlen];exact hi6))⟩
theorem Dl {t:TypeId} {fs:Array Field} {n:Nat} {cs:List Value} {y:DataW H×List MemPlace} (hs:P.underlying t=some (.struct fs)) (h:DataW.trod enc P W 0 (fun _=>true) true n t cs=some y):
  ∃m,∀(i:Nat) (f:Field),fs[i]?=some f->∃y,DataW.trod enc P W 0 (fun _=>true) true m f.type ((cs.drop f.offset).take (P.cellsOf f.type))=some y:=by
 obtain ⟨ys,m,_,_,hl,hlen,hx⟩:=DataW.trod_struct hs h;refine ⟨m,fun i f hi=> ?_⟩;have hi6:i<fs.size:=(Array.getElem?_eq_some_iff.1 hi).1;exact ⟨_,(hx i f hi).trans (List.getElem?_eq_getElem (by rw [hlen];exact hi6))⟩
theorem I9 {t:TypeId} {n:Nat} {c0 c1 c2 c3 c4 c5 c6 c7 c8 c9 c10 c11 c12 c13 c14 c15:Value} {y:DataW H×List MemPlace} (hT:Dv P t)
  (h:DataW.trod enc P W 0 (fun _=>true) true n t [c0,c1,c2,c3,c4,c5,c6,c7,c8,c9,c10,c11,c12,c13,c14,c15]=some y):
  ∃p:St,p.Good W/\[c0,c1,c2,c3,c4,c5,c6,c7,c8,c9,c10,c11,c12,c13,c14,c15]=p.C:=by
 obtain ⟨F,S⟩:=hT;have hlen:F.length=11:=by have:=congrArg List.length S.ho;simpa using this
 match F,hlen,S with
 | [F0,F1,F2,F3,F4,F5,F6,F7,F8,F9,F10],_,S=>
  have ho:=S.ho;simp only [List.map_cons,List.map_nil,List.cons.injEq,Prod.mk.injEq,and_true] at ho;obtain ⟨m,hx⟩:=Dl S.hs h;have e0:=hx 0 F0 rfl;have e1:=hx 1 F1 rfl;have e2:=hx 2 F2 rfl;have e3:=hx 3 F3 rfl;have e4:=hx 4 F4 rfl;have e5:=hx 5 F5 rfl;have e6:=hx 6 F6 rfl;have e7:=hx 7 F7 rfl;have e8:=hx 8 F8 rfl;have e9:=hx 9 F9 rfl;have e10:=hx 10 F10 rfl;obtain ⟨⟨o0,k0⟩,⟨o1,k1⟩,⟨o2,k2⟩,⟨o3,k3⟩,⟨o4,k4⟩,⟨o5,k5⟩,⟨o6,k6⟩,⟨o7,k7⟩,⟨o8,k8⟩,⟨o9,k9⟩,⟨o10,k10⟩⟩:=ho;rw [o0,k0] at e0;rw [o1,k1] at e1;rw [o2,k2] at e2;rw [o3,k3] at e3;rw [o4,k4] at e4;rw [o5,k5] at e5;rw [o6,k6] at e6;rw [o7,k7] at e7;rw [o8,k8] at e8;rw [o9,k9] at e9;rw [o10,k10] at e10;obtain ⟨y0,e0⟩:=e0;obtain ⟨y1,e1⟩:=e1;obtain ⟨y2,e2⟩:=e2;obtain ⟨y3,e3⟩:=e3;obtain ⟨y4,e4⟩:=e4;obtain ⟨y5,e5⟩:=e5;obtain ⟨y6,e6⟩:=e6;obtain ⟨y7,e7⟩:=e7;obtain ⟨y8,e8⟩:=e8;obtain ⟨y9,e9⟩:=e9;obtain ⟨y10,e10⟩:=e10;replace e0:DataW.trod enc P W 0 (fun _=>true) true m F0.type [c0]=some y0:=e0;replace e1:DataW.trod enc P W 0 (fun _=>true) true m F1.type [c1]=some y1:=e1;replace e2:DataW.trod enc P W 0 (fun _=>true) true m F2.type [c2]=some y2:=e2;replace e3:DataW.trod enc P W 0 (fun _=>true) true m F3.type [c3]=some y3:=e3;replace e4:DataW.trod enc P W 0 (fun _=>true) true m F4.type [c4]=some y4:=e4;replace e5:DataW.trod enc P W 0 (fun _=>true) true m F5.type [c5]=some y5:=e5;replace e6:DataW.trod enc P W 0 (fun _=>true) true m F6.type [c6]=some y6:=e6;replace e7:DataW.trod enc P W 0 (fun _=>true) true m F7.type [c7,c8,c9,c10,c11]=some y7:=e7;replace e8:DataW.trod enc P W 0 (fun _=>true) true m F8.type [c12,c13]=some y8:=e8;replace e9:DataW.trod enc P W 0 (fun _=>true) true m F9.type [c14]=some y9:=e9;replace e10:DataW.trod enc P W 0 (fun _=>true) true m F10.type [c15]=some y10:=e10;obtain ⟨x0,q0,_,w0⟩:=DataW.trod_int (S.hi 0 om_ F0 rfl) e0;obtain ⟨x1,q1,_,w1⟩:=DataW.trod_int (S.hi 1 om_ F1 rfl) e1;obtain ⟨x2,q2,_,w2⟩:=DataW.trod_int (S.hi 2 om_ F2 rfl) e2;obtain ⟨x3,q3,_,w3⟩:=DataW.trod_int (S.hi 3 om_ F3 rfl) e3;obtain ⟨x4,q4,_,w4⟩:=DataW.trod_int (S.hi 4 om_ F4 rfl) e4;obtain ⟨x5,q5,_,w5⟩:=DataW.trod_int (S.hi 5 om_ F5 rfl) e5;obtain ⟨x6,q6,_,w6⟩:=DataW.trod_int (S.hi 6 om_ F6 rfl) e6;obtain ⟨f0,f1,f2,f3,f4,hf,hfo,a0,a1,a2,a3,a4⟩:=S.hf F7 rfl;obtain ⟨m7,r7⟩:=qG hf hfo e7;obtain ⟨z0,r70⟩:=r7 0 f0 c7 rfl rfl;obtain ⟨z1,r71⟩:=r7 1 f1 c8 rfl rfl;obtain ⟨z2,r72⟩:=r7 2 f2 c9 rfl rfl;obtain ⟨z3,r73⟩:=r7 3 f3 c10 rfl rfl;obtain ⟨z4,r74⟩:=r7 4 f4 c11 rfl rfl;obtain ⟨pf,hpf,rfl,rfl,rfl,rfl,rfl⟩:=field.Bl a0 a1 a2 a3 a4 r70 r71 r72 r73 r74;obtain ⟨g0,g1,hv,hvo,b0,b1⟩:=S.hv F8 rfl;obtain ⟨m8,r8⟩:=qG hv hvo e8;obtain ⟨z5,r80⟩:=r8 0 g0 c12 rfl rfl;obtain ⟨z6,r81⟩:=r8 1 g1 c13 rfl rfl;obtain ⟨pv,hpv,rfl,rfl⟩:=field.Be b0 b1 r80 r81;obtain ⟨ta,tc,tL,rfl,t1,t2,t3,t4⟩:=Du (S.ht F9 rfl) e9;obtain ⟨la,lc,lL,rfl,l1,l2,l3,l4⟩:=field.xw (S.hl F10 rfl) e10;refine ⟨⟨⟨x0,x1,x2,x3,x4,x5,x6,pf,pv,tL,lL⟩,ta,tc,la,lc⟩,⟨⟨wf_i64 _ w0,wf_i64 _ w1,wf_i64 _ w2,wf_i64 _ w3,wf_i64 _ w4,wf_i64 _ w5,wf_i64 _ w6,hpv.bn,t2⟩,hpf,t1,t3,t4,l1,l2,l3,l4⟩, ?_⟩;simp only [List.cons.injEq,and_true] at q0 q1 q2 q3 q4 q5 q6;rw [q0,q1,q2,q3,q4,q5,q6];rfl
end
theorem Kr:Dv prog 32:=by
 refine ⟨_,⟨underlying32,by kernel_rfl,by kernel_rfl, ?_, ?_, ?_, ?_, ?_⟩⟩;rotate_left
 ·intro f hf;obtain rfl:=Option.some.inj hf;exact ⟨_,_,_,_,_,underlying26,by kernel_rfl,by kernel_rfl,by kernel_rfl,by kernel_rfl,by kernel_rfl,by kernel_rfl⟩
 ·intro f hf;obtain rfl:=Option.some.inj hf;exact ⟨_,_,underlying28,by kernel_rfl,by kernel_rfl,by kernel_rfl⟩
 ·intro f hf;obtain rfl:=Option.some.inj hf;exact KL
 ·intro f hf;obtain rfl:=Option.some.inj hf;exact field.JA
 ·intro i hi f hf;have h:i=0\/i=1\/i=2\/i=3\/i=4\/i=5\/i=6:=by omega
  rcases h with rfl | rfl | rfl | rfl | rfl | rfl | rfl <;> (obtain rfl:=Option.some.inj hf;exact underlying3)
end step
section
structure zP_ (s:step.Sp) (a:Option Addr) (c:Nat) (d:Option Addr) (e:Nat) where
def zP (s:step.Sp) (a:Option Addr) (c:Nat) (d:Option Addr) (e:Nat):zP_ s a c d e:=⟨⟩
instance (s:step.Sp) (a:Option Addr) (c:Nat) (d:Option Addr) (e:Nat) (m:zP_ s a c d e):CoeDep (zP_ s a c d e) m (List Value):=⟨[.int .i64 s.op,.int .i64 s.fm,.int .i64 s.fd,.int .i64 s.pl,.int .i64 s.tt,.int .i64 s.a,.int .i64 s.b,.int .i64 s.f.id,.int .i64 s.f.kind,.int .i64 s.f.lo,.int .i64 s.f.hi,.int .i64 s.f.most,.int .i64 s.v.n,.string s.v.s,.slice a s.t.length c,.slice d s.l.length e]⟩
instance (s:step.Sp) (a:Option Addr) (c:Nat) (d:Option Addr) (e:Nat) (m:zP_ s a c d e):CoeDep (zP_ s a c d e) m (Array Value):=⟨#[.int .i64 s.op,.int .i64 s.fm,.int .i64 s.fd,.int .i64 s.pl,.int .i64 s.tt,.int .i64 s.a,.int .i64 s.b,.int .i64 s.f.id,.int .i64 s.f.kind,.int .i64 s.f.lo,.int .i64 s.f.hi,.int .i64 s.f.most,.int .i64 s.v.n,.string s.v.s,.slice a s.t.length c,.slice d s.l.length e]⟩
instance (s:step.Sp) (a:Option Addr) (c:Nat) (d:Option Addr) (e:Nat) (m:zP_ s a c d e):CoeDep (zP_ s a c d e) m Value:=⟨.agg #[.int .i64 s.op,.int .i64 s.fm,.int .i64 s.fd,.int .i64 s.pl,.int .i64 s.tt,.int .i64 s.a,.int .i64 s.b,.int .i64 s.f.id,.int .i64 s.f.kind,.int .i64 s.f.lo,.int .i64 s.f.hi,.int .i64 s.f.most,.int .i64 s.v.n,.string s.v.s,.slice a s.t.length c,.slice d s.l.length e]⟩
end
section
structure zZ_  where
def zZ  :zZ_  :=⟨⟩
instance  (m:zZ_):CoeDep (zZ_) m (List Value):=⟨[.int .i64 0,.int .i64 0,.int .i64 0,.int .i64 0,.int .i64 0,.int .i64 0,.int .i64 0,.int .i64 0,.int .i64 0,.int .i64 0,.int .i64 0,.int .i64 0,.int .i64 0,.string ⟨#[]⟩,.slice none 0 0,.slice none 0 0]⟩
instance  (m:zZ_):CoeDep (zZ_) m (Array Value):=⟨#[.int .i64 0,.int .i64 0,.int .i64 0,.int .i64 0,.int .i64 0,.int .i64 0,.int .i64 0,.int .i64 0,.int .i64 0,.int .i64 0,.int .i64 0,.int .i64 0,.int .i64 0,.string ⟨#[]⟩,.slice none 0 0,.slice none 0 0]⟩
instance  (m:zZ_):CoeDep (zZ_) m Value:=⟨.agg #[.int .i64 0,.int .i64 0,.int .i64 0,.int .i64 0,.int .i64 0,.int .i64 0,.int .i64 0,.int .i64 0,.int .i64 0,.int .i64 0,.int .i64 0,.int .i64 0,.int .i64 0,.string ⟨#[]⟩,.slice none 0 0,.slice none 0 0]⟩
end
namespace field
open Go.ChangeShapes Go.WideShapes Go.ChangeAt Go.RowKit Go.Deep
def Ed (P:Program) (t:TypeId):Prop:=∃(e:TypeId) (f0 f1:Field),P.underlying t=some (.slice e)/\P.underlying e=some (.struct #[f0,f1])/\oneCellFields P #[f0,f1]=true/\P.cellsOf e=2/\P.underlying f0.type=some (.int .i64)/\P.underlying f1.type=some .string
theorem Dw {H:Type} {enc:TypeId×Value->H} {P:Program} {W:World} {t:TypeId} {v:Value} {n:Nat} {y:DataW H×List MemPlace} (hR:Ed P t) (h:DataW.trod enc P W 0 (fun _=>true) true n t [v]=some y):∃a cap L,v=.slice a (List.length L) cap/\Vas W a L/\(∀p∈L,p.Good W)/\L.length<=cap/\cap<=maxLen:=by
 obtain ⟨e,f0,f1,ht,he,hone,hC,u0,u1⟩:=hR;have hv:∃a len cap,v=.slice a len cap:=by
  rcases open_slice ht h with ⟨hcs,_⟩ | ⟨A,len,cap,m,n1,D,Pl,hcs,_⟩
  ·exact ⟨none,0,0,by simpa using hcs⟩
  ·exact ⟨_,_,_,by simpa using hcs⟩
 obtain ⟨a,len,cap,rfl⟩:=hv;obtain ⟨L,rfl,h1,h2,h3,h4⟩:=Gi ht he hone hC u0 u1 (W:=W) (enc:=enc) (d:=y.1) (pl:=y.2) ⟨n,by simpa [Value.cells] using h⟩;exact ⟨a,cap,L,rfl,h1,h2,h3,h4⟩
theorem KJ:Ed prog 33:=⟨_,_,_,underlying33,underlying28,by kernel_rfl,by kernel_rfl,by kernel_rfl,by kernel_rfl⟩
end field
namespace record
open Go.ChangeShapes Go.WideShapes Go.ChangeAt Go.RowKit Go.Deep field
structure Rc where
 (form:Int) (v:Option Addr) (vCap:Nat) (vL:List field.Va)
instance:Inhabited Rc:=⟨⟨0,none,0,[]⟩⟩
structure Rc.Good (W:World) (p:Rc):Prop where
 unit:True
 bform: -9223372036854775808<=p.form/\p.form<=9223372036854775807
 rv:field.Vas W p.v p.vL
 mv:∀y∈p.vL,y.Good W
 cv:p.vL.length<=p.vCap
 dv:p.vCap<=maxLen
theorem Rc.Good.below {W W':World} {p:Rc} (h:p.Good W) (hb:Below W.heap.size W W'):p.Good W':=⟨h.unit,h.bform,h.rv.below hb,fun y hy=>(h.mv y hy).below hb,h.cv,h.dv⟩
section
variable {H:Type} {enc:TypeId×Value->H} {P:Program} {W:World}
theorem Ie {t0 t1:TypeId} {n:Nat} {v0 v1:Value} {y0 y1:DataW H×List MemPlace} (u0:P.underlying t0=some (.int .i64)) (u1:field.Ed P t1)
  (h0:DataW.trod enc P W 0 (fun _=>true) true n t0 [v0]=some y0) (h1:DataW.trod enc P W 0 (fun _=>true) true n t1 [v1]=some y1):
  ∃p:Rc,p.Good W/\v0=.int .i64 p.form/\v1=.slice p.v p.vL.length p.vCap:=by
 obtain ⟨x0,e0,_,w0⟩:=DataW.trod_int u0 h0;have a0:=wf_i64 _ w0;obtain ⟨q1,c1,M1,rfl,hr1,hM1,hl1,hc1⟩:=field.Dw u1 h1;exact ⟨⟨x0,q1,c1,M1⟩,⟨trivial,a0,hr1,hM1,hl1,hc1⟩,by simpa using e0,rfl⟩
def Rcs (w:World) (a:Option Addr) (l:List Rc):Prop:=
 l=[]\/∃b off,a=some ⟨b,off,none⟩/\b<w.heap.size/\∀i p,l[i]?=some p->w.cell? ⟨b,off+i*2,none⟩=some (.int .i64 p.form)/\w.cell? ⟨b,off+i*2+1,none⟩=some (.slice p.v p.vL.length p.vCap)
end
theorem Rcs.below {w w':World} {a:Option Addr} {l:List Rc} (h:Rcs w a l) (hb:Below w.heap.size w w'):Rcs w' a l:=by
 rcases h with h | ⟨b,off,ha,hlt,hc⟩
 ·exact .inl h
 ·refine .inr ⟨b,off,ha,Nat.lt_of_lt_of_le hlt hb.size,fun i p hp=> ?_⟩;rw [hb.cell (p:=⟨b,off+i*2,none⟩) hlt,hb.cell (p:=⟨b,off+i*2+1,none⟩) hlt];exact hc i p hp
theorem Rcs.at {w:World} {a:Option Addr} {l:List Rc} (h:Rcs w a l) {i:Nat} (hi:i<l.length):
  ∃b off p,a=some ⟨b,off,none⟩/\b<w.heap.size/\l[i]?=some p/\w.cell? ⟨b,off+i*2,none⟩=some (.int .i64 p.form)/\w.cell? ⟨b,off+i*2+1,none⟩=some (.slice p.v p.vL.length p.vCap):=by
 rcases h with rfl | ⟨b,off,ha,hlt,hc⟩
 ·simp at hi
 ·have hp:=List.getElem?_eq_getElem hi;exact ⟨b,off,_,ha,hlt,hp,hc i _ hp⟩
end record
namespace turn
open Go.ChangeShapes Go.WideShapes Go.ChangeAt Go.RowKit Go.Deep
structure Ca where
 (p:schema.Sc) (q:step.St) (r:record.Rc)
instance:Inhabited Ca:=⟨⟨default,default,⟨0,none,0,[]⟩⟩⟩
def Ca.val (x:Ca):Value:=.agg #[.int .i64 x.p.ver,.slice x.p.f x.p.fL.length x.p.fCap,.int .i64 x.q.s.op,.int .i64 x.q.s.fm,.int .i64 x.q.s.fd,.int .i64 x.q.s.pl,.int .i64 x.q.s.tt,.int .i64 x.q.s.a,.int .i64 x.q.s.b,.int .i64 x.q.s.f.id,.int .i64 x.q.s.f.kind,.int .i64 x.q.s.f.lo,.int .i64 x.q.s.f.hi,.int .i64 x.q.s.f.most,.int .i64 x.q.s.v.n,.string x.q.s.v.s,.slice x.q.ta x.q.s.t.length x.q.tc,.slice x.q.la x.q.s.l.length x.q.lc,.int .i64 x.r.form,.slice x.r.v x.r.vL.length x.r.vCap]
structure Ca.Good (W:World) (x:Ca):Prop where
 p:x.p.Good W
 q:x.q.Good W
 r:x.r.Good W
def FK (P:Program) (t:TypeId):Prop:=∃(F0 F1 F2 f0 f1 g0 g1:Field),P.underlying t=some (.struct #[F0,F1,F2])/\P.cellsOf t=20/\(F0.offset=0/\F1.offset=2/\F2.offset=18/\P.cellsOf F0.type=2/\P.cellsOf F1.type=16/\P.cellsOf F2.type=2)/\
 (P.underlying F0.type=some (.struct #[f0,f1])/\oneCellFields P #[f0,f1]=true/\P.underlying f0.type=some (.int .i64)/\schema.DW P f1.type)/\step.Dv P F1.type/\
 (P.underlying F2.type=some (.struct #[g0,g1])/\oneCellFields P #[g0,g1]=true/\P.underlying g0.type=some (.int .i64)/\field.Ed P g1.type)
section
variable {H:Type} {enc:TypeId×Value->H} {P:Program} {W:World}
theorem pO {r:Reach} {b0:Nat} {t:TypeId} {v:Value} {d:DataW H} {pl:List MemPlace} (hT:FK P t) (hv:Value.okWide P W r b0 t v) (h:DataW.Trod enc P W 0 (fun _=>true) true t v d pl):∃x:Ca,x.Good W/\v=x.val:=by
 obtain ⟨F0,F1,F2,f0,f1,g0,g1,hs,hC,⟨o0,o1,o2,k0,k1,k2⟩,⟨s0,n0,u0,u1⟩,hS,⟨s2,n2,w0,w1⟩⟩:=hT;obtain ⟨cs,rfl,hsz⟩:=okWide_struct hs hv;obtain ⟨fuel,hf⟩:=h;rw [hC] at hsz;obtain ⟨l⟩:=cs;match l,hsz with
 | [c0,c1,c2,c3,c4,c5,c6,c7,c8,c9,c10,c11,c12,c13,c14,c15,c16,c17,c18,c19],_=>
  obtain ⟨y0,y1,y2,n,_,_,e0,e1,e2⟩:=trod_struct3 hs hf;rw [o0,k0] at e0;rw [o1,k1] at e1;rw [o2,k2] at e2;replace e0:DataW.trod enc P W 0 (fun _=>true) true n F0.type [c0,c1]=some y0:=e0;replace e1:DataW.trod enc P W 0 (fun _=>true) true n F1.type [c2,c3,c4,c5,c6,c7,c8,c9,c10,c11,c12,c13,c14,c15,c16,c17]=some y1:=e1;replace e2:DataW.trod enc P W 0 (fun _=>true) true n F2.type [c18,c19]=some y2:=e2;obtain ⟨m,hx⟩:=step.qG s0 n0 e0;obtain ⟨_,q0⟩:=hx 0 f0 c0 rfl rfl;obtain ⟨_,q1⟩:=hx 1 f1 c1 rfl rfl;obtain ⟨p,hp,rfl,rfl⟩:=schema.Gx u0 u1 q0 q1;obtain ⟨q,hq,he⟩:=step.I9 hS e1;obtain ⟨m2,hy⟩:=step.qG s2 n2 e2;obtain ⟨_,q2⟩:=hy 0 g0 c18 rfl rfl;obtain ⟨_,q3⟩:=hy 1 g1 c19 rfl rfl;obtain ⟨r,hr,rfl,rfl⟩:=record.Ie w0 w1 q2 q3;unfold step.St.C step.spC at he;simp only [List.cons.injEq,and_true] at he;obtain ⟨rfl,rfl,rfl,rfl,rfl,rfl,rfl,rfl,rfl,rfl,rfl,rfl,rfl,rfl,rfl,rfl⟩:=he;exact ⟨⟨p,q,r⟩,⟨hp,hq,hr⟩,rfl⟩
end
theorem CB:FK prog 37:=
 ⟨_,_,_,_,_,_,_,underlying37,by kernel_rfl,⟨by kernel_rfl,by kernel_rfl,by kernel_rfl,by kernel_rfl,by kernel_rfl,by kernel_rfl⟩,⟨underlying24,by kernel_rfl,by kernel_rfl,schema.KZ⟩,step.Kr,⟨underlying35,by kernel_rfl,by kernel_rfl,field.KJ⟩⟩
end turn
namespace pen
def vb (x:Nat):List Nat:=if h:x<128 then [x] else (128+x % 128) :: vb (x / 128)
 termination_by x
 decreasing_by omega
def grp:Nat->Nat->List Nat->Nat×Nat×Nat
 | _,_,[]=>(0,0,5)
 | i,u,c :: r=>if i=9/\1<c then (0,0,4) else if 0<i/\c=0 then (0,0,4) else if c<128 then (u+c*128 ^ i,i+1,0) else grp (i+1) (u+(c - 128)*128 ^ i) r
def zig (n:Int):Nat:=if n<0 then (2*(-n - 1)+1).toNat else (2*n).toNat
def KQ (u:Nat):Int:=if u % 2=1 then -((u / 2:Nat):Int) - 1 else ((u / 2:Nat):Int)
def wb (x:Nat):List Nat:=[x / 16777216,x / 65536 % 256,x / 256 % 256,x % 256]
def nums (s:List UInt8):List Nat:=s.map UInt8.toNat
abbrev Piece:=Int×Int×List UInt8
def enc (p:Piece):List Nat:=
 if p.1=0 then [(p.2.1 % 256).toNat] else if p.1=1 then (if p.2.1<0 then [] else vb p.2.1.toNat) else if p.1=2 then vb (zig p.2.1) else if p.1=3 then wb (p.2.1 % 4294967296).toNat
 else vb p.2.2.length++nums p.2.2
abbrev Sight:=List Nat×Nat
def DT (n:Nat) (s:Sight):List Nat×Sight:=if s.2≠0 then ([],s) else if s.1.length<n then ([],(s.1,5)) else (s.1.take n,(s.1.drop n,0))
def KC (fits most:Nat) (s:Sight):Nat×Sight:=
 if s.2≠0 then (0,s) else if (grp 0 0 s.1).2.2≠0 then (0,(s.1,(grp 0 0 s.1).2.2)) else if fits<(grp 0 0 s.1).1 then (0,(s.1,4)) else if most<(grp 0 0 s.1).1 then (0,(s.1,7))
 else ((grp 0 0 s.1).1,(s.1.drop (grp 0 0 s.1).2.1,0))
def dY (most:Int) (s:Sight):Nat×Sight:=KC 9223372036854775807 (max most 0).toNat s
def eInt (s:Sight):Int×Sight:=(KQ (KC 18446744073709551615 18446744073709551615 s).1,(KC 18446744073709551615 18446744073709551615 s).2)
def Jm (most:Int) (s:Sight):List Nat×Sight:=
 ((DT (dY most s).1 (dY most s).2).1,if (DT (dY most s).1 (dY most s).2).2.2≠0 then (s.1,(DT (dY most s).1 (dY most s).2).2.2) else (DT (dY most s).1 (dY most s).2).2)
end pen
namespace schema
open Go.RowKit pen
instance:DecidableEq field.Fd:=fun a b=>
 if h:a.id=b.id/\a.kind=b.kind/\a.lo=b.lo/\a.hi=b.hi/\a.most=b.most then isTrue (by cases a;cases b;simp_all) else isFalse (by rintro rfl;simp at h)
abbrev Form:=Int×List field.Fd
def Fm.p (f:Fm):Form:=(f.id,f.fL)
def forms (F:List Fm):List Form:=F.map Fm.p
theorem aF (F:List Fm):(forms F).length=F.length:=List.length_map _
theorem dR {F:List Fm} {i:Nat} {p:Fm} (h:F[i]?=some p):(forms F)[i]?=some p.p:=by simp [forms,h]
def size (L:List field.Fd):Nat:=(L.map field.Fd.size).sum
def ids (L:List field.Fd):List Int:=L.map field.Fd.id
def jv (L:List field.Fd):Prop:=(∀f∈L,f.Right)/\(ids L).Nodup
instance (L:List field.Fd):Decidable (jv L):=by unfold jv;infer_instance
def Fine (p:Form):Prop:=(0<=p.1/\p.1<=200)/\(1<=p.2.length/\p.2.length<=8)/\jv p.2/\size p.2<=64
instance (p:Form):Decidable (Fine p):=by unfold Fine;infer_instance
def jA (F:List Form):Prop:=(∀p∈F,Fine p)/\(F.map (·.1)).Pairwise (· < ·)
instance (F:List Form):Decidable (jA F):=by unfold jA;infer_instance
def Right (v:Int) (F:List Form):Prop:=(1<=v/\v<=65535)/\F.length<=8/\jA F
instance (v:Int) (F:List Form):Decidable (Right v F):=by unfold Right;infer_instance
theorem qX (f:field.Fd):f.size<=33:=by
 have:= @field.sG;unfold field.Fd.size;split
 ·rename_i h;split
  ·unfold field.Fd.Right at h;omega
  ·exact Nat.le_trans (this _) om_
 ·omega
theorem size_le (L:List field.Fd):size L<=33*L.length:=by
 induction L with
 | nil=>simp [size]
 | cons f L ih=>
  have:=qX f;simp only [size,List.map_cons,List.sum_cons,List.length_cons] at ih ⊢;omega
theorem aT {α:Type} {L:List α} {k:Nat} {x:α} (h:L[k]?=some x):L.take (k+1)=L.take k++[x]:=by
 rw [List.take_add_one,h];rfl
theorem yP {L:List field.Fd} {k:Nat} {x:field.Fd} (h:L[k]?=some x):size (L.take (k+1))=size (L.take k)+x.size:=by
 rw [aT h];simp [size]
theorem size_take (L:List field.Fd) (k:Nat):size (L.take k)<=33*k:=by
 have:=size_le (L.take k);simp at this;omega
theorem jv.nil:jv []:=⟨by simp,by simp [ids]⟩
theorem rJ {L:List field.Fd} {k:Nat} {x:field.Fd} (h:L[k]?=some x):jv (L.take (k+1))↔jv (L.take k)/\x.Right/\x.id∉ids (L.take k):=by
 rw [aT h];unfold jv ids;simp only [List.map_append,List.map_cons,List.map_nil,List.nodup_append,List.mem_append,List.mem_singleton];constructor
 ·rintro ⟨h1,h2,h3,h4⟩;refine ⟨⟨fun f hf=>h1 f (.inl hf),h2⟩,h1 x (.inr rfl),fun hm=>h4 _ hm _ rfl rfl⟩
 ·rintro ⟨⟨h1,h2⟩,h3,h4⟩;refine ⟨fun f hf=>hf.elim (h1 f) (fun e=>e ▸ h3),h2,by simp,fun a ha b hb e=>h4 (by rw [<-hb,<-e];exact ha)⟩
theorem BU {L:List field.Fd} (h:jv L) (k:Nat):jv (L.take k):=
 ⟨fun f hf=>h.1 f (List.mem_of_mem_take hf),by unfold ids;rw [List.map_take];exact h.2.sublist (List.take_sublist _ _)⟩
theorem AB {L:List field.Fd} {k:Nat} {x:field.Fd} (h:L[k]?=some x) (hn:¬(x.Right/\x.id∉ids (L.take k))):¬jv L:=fun hf=>hn ((rJ h).1 (BU hf _)).2
theorem jA.nil:jA []:=⟨by simp,by simp⟩
theorem oJ {F:List Form} {k:Nat} {x:Form} (h:F[k]?=some x):jA (F.take (k+1))↔jA (F.take k)/\Fine x/\∀p∈F.take k,p.1<x.1:=by
 rw [aT h];unfold jA;simp only [List.map_append,List.map_cons,List.map_nil,List.pairwise_append,List.mem_append,List.mem_singleton,List.mem_map];constructor
 ·rintro ⟨h1,h2,h3,h4⟩;exact ⟨⟨fun f hf=>h1 f (.inl hf),h2⟩,h1 x (.inr rfl),fun p hp=>h4 _ ⟨p,hp,rfl⟩ _ rfl⟩
 ·rintro ⟨⟨h1,h2⟩,h3,h4⟩;exact ⟨fun f hf=>hf.elim (h1 f) (fun e=>e ▸ h3),h2,by simp,by rintro a ⟨p,hp,rfl⟩ b rfl;exact h4 p hp⟩
theorem Dq {F:List Form} (h:jA F) (k:Nat):jA (F.take k):=
 ⟨fun f hf=>h.1 f (List.mem_of_mem_take hf),by rw [List.map_take];exact h.2.sublist (List.take_sublist _ _)⟩
theorem Aa {F:List Form} {k:Nat} {x:Form} (h:F[k]?=some x) (hn:¬(Fine x/\∀p∈F.take k,p.1<x.1)):¬jA F:=fun hf=>hn ((oJ h).1 (Dq hf _)).2
theorem rise {F:List Form} {k:Nat} {y x:Form} (hy:F[k]?=some y) (hk:jA (F.take (k+1))):(∀p∈F.take (k+1),p.1<x.1)↔y.1<x.1:=by
 have h1:=(oJ hy).1 hk;rw [aT hy];constructor
 ·intro h;exact h y si_
 ·intro h p hp;rcases List.mem_append.1 hp with h2 | h2
  ·have:=h1.2.2 p h2;omega
  ·obtain rfl:=List.mem_singleton.1 h2;exact h
theorem wI {f:field.Fd} (h:f.Right):(0<=f.id/\f.id<=255)/\(1<=f.kind/\f.kind<=4)/\(-1099511627776<=f.lo/\f.lo<=1099511627776)/\(-1099511627776<=f.hi/\f.hi<=1099511627776)/\(0<=f.most/\f.most<=1000):=by
 unfold field.Fd.Right at h;omega
end schema
theorem t137{P:Prop}(h:P:=by
 rw [IntWalk.wrap64_in (q:Int) om_,IntWalk.wrap64_in _ om_]):P:=h
namespace field
open Go.RowKit
theorem lT {p:Prop} [Decidable p] (h:¬p):decide p=false:=decide_eq_false h
theorem wrap_u8 {x:Int} {n:Nat} (h:x=(n:Int)) (hn:n<256):IntKind.u8.wrap x=(n:Int):=by subst h;simp [IntKind.wrap,IntKind.bits,IntKind.signed];omega
theorem sW {q:Nat} (a:Int) (h0:0<=a) (ha:a<=40) (hq:q<=8):wrap64 (a+wrap64 (q:Int))=a+(q:Int):=by
 exact t137
theorem Jd {q:Nat} (hq:q<=8):wrap64 (wrap64 (q:Int))=(q:Int):=by
 exact t137
set_option maxRecDepth 1000000 in
set_option maxHeartbeats 4000000 in
theorem EG (x:Nat) (hx:x<281474976710656) (w:World):
  Calls prog 142 #[.int .u64 (x:Int)] w fun e w'=>∃L:Nat,e=.returned (.int .i64 (L:Int))/\L<=64/\(L+7) / 8=wide x/\∃n,w'=w.drewN n:=by
 go_enter func142,ntmps142;generalize hT:ByteArray.mk _=T;have hs:T.size=256:=by rw [<-hT];decide+kernel
 have ht0:∀i:Fin 256,(T.data.getD i.val 0).toNat<=8/\((T.data.getD i.val 0).toNat=0↔i.val=0):=by rw [<-hT];decide+kernel
 have ht:∀(i:Nat) (h:i<T.size),i<256->(T[i]'h).toNat<=8/\((T[i]'h).toNat=0↔i=0):=fun i h hi=>by
  have:=ht0 ⟨i,hi⟩;have h':i<T.data.size:=h;simp only [Array.getD,h',dif_pos] at this;exact this
 have HT:=hid ht;have HS:=hid hs;have hT1:∀i:Nat,i<256->(i:Int)<T.size:=fun i hi=>by rw [hs];omega
 have HT1:=hid hT1;have HX:=hid hx;clear hT hs ht ht0 hT1 hx;by_cases c0:x<256
 ·have hw:wide x=if x=0 then 0 else 1:=by unfold wide;rw [if_pos c0]
  have HW:=hid hw;obtain ⟨y,hy⟩:∃y,Hid (x / 1=y):=⟨_,rfl⟩;have iZ:y<256:=by have:=hy.o;have:=HX.o;omega
  have j0:(0:Int)<=(y:Int):=by omega
  have j1:=HT1.o y iZ;have gX:¬(x:Int)≥4294967296:=by have:=HX.o;omega
  have pF:=lT gX;have ou:¬(x:Int)≥65536:=by have:=HX.o;omega
  have CQ:=lT ou;have t256:¬(x:Int)≥256:=by have:=HX.o;omega
  have u256:=lT t256;have hwr:IntKind.u8.wrap ((x:Int))=(y:Int):=wrap_u8 (by have:=hy.o;omega) iZ;clear hw;clear c0;go_wp2;go_ret;have b:=HT.o y (by have:=HS.o;omega) iZ;refine ⟨0+(T[y]'(by have:=HS.o;omega)).toNat,je ((Jd b.1).trans om_),by omega, ?_,0,rfl⟩;rw [HW.o];have:=hy.o;split <;> omega
 by_cases c1:x<65536
 ·have hw:wide x=2:=by have:=HX.o;unfold wide;rw [if_neg om_];rw [if_neg om_];rw [if_pos om_]
  have HW:=hid hw;obtain ⟨y,hy⟩:∃y,Hid (x / 256=y):=⟨_,rfl⟩;have iZ:y<256:=by have:=hy.o;have:=HX.o;omega
  have j0:(0:Int)<=(y:Int):=by omega
  have j1:=HT1.o y iZ;have gX:¬(x:Int)≥4294967296:=by have:=HX.o;omega
  have pF:=lT gX;have ou:¬(x:Int)≥65536:=by have:=HX.o;omega
  have CQ:=lT ou;have t256:(x:Int)≥256:=by have:=HX.o;omega
  have hwr:IntKind.u8.wrap ((x:Int) / 256)=(y:Int):=wrap_u8 (by have:=hy.o;omega) iZ;clear hw;clear c0 c1;go_wp2;go_ret;have b:=HT.o y (by have:=HS.o;omega) iZ;refine ⟨8+(T[y]'(by have:=HS.o;omega)).toNat,je ((sW 8 om_ om_ b.1).trans om_),by omega, ?_,0,rfl⟩;rw [HW.o];have:=hy.o;omega
 by_cases c2:x<16777216
 ·have hw:wide x=3:=by have:=HX.o;unfold wide;rw [if_neg om_];rw [if_neg om_];rw [if_neg om_];rw [if_pos om_]
  have HW:=hid hw;obtain ⟨y,hy⟩:∃y,Hid (x / 65536=y):=⟨_,rfl⟩;have iZ:y<256:=by have:=hy.o;have:=HX.o;omega
  have j0:(0:Int)<=(y:Int):=by omega
  have j1:=HT1.o y iZ;have gX:¬(x:Int)≥4294967296:=by have:=HX.o;omega
  have pF:=lT gX;have ou:(x:Int)≥65536:=by have:=HX.o;omega
  have t256:¬(x:Int) / 65536≥256:=by have:=HX.o;omega
  have u256:=lT t256;have hwr:IntKind.u8.wrap ((x:Int) / 65536)=(y:Int):=wrap_u8 (by have:=hy.o;omega) iZ;clear hw;clear c0 c1 c2;go_wp2;go_ret;have b:=HT.o y (by have:=HS.o;omega) iZ;refine ⟨16+(T[y]'(by have:=HS.o;omega)).toNat,je ((sW 16 om_ om_ b.1).trans om_),by omega, ?_,0,rfl⟩;rw [HW.o];have:=hy.o;omega
 by_cases c3:x<4294967296
 ·have hw:wide x=4:=by have:=HX.o;unfold wide;rw [if_neg om_];rw [if_neg om_];rw [if_neg om_];rw [if_neg om_];rw [if_pos om_]
  have HW:=hid hw;obtain ⟨y,hy⟩:∃y,Hid (x / 16777216=y):=⟨_,rfl⟩;have iZ:y<256:=by have:=hy.o;have:=HX.o;omega
  have j0:(0:Int)<=(y:Int):=by omega
  have j1:=HT1.o y iZ;have gX:¬(x:Int)≥4294967296:=by have:=HX.o;omega
  have pF:=lT gX;have ou:(x:Int)≥65536:=by have:=HX.o;omega
  have t256:(x:Int) / 65536≥256:=by have:=HX.o;omega
  have hwr:IntKind.u8.wrap ((x:Int) / 65536 / 256)=(y:Int):=wrap_u8 (by have:=hy.o;omega) iZ;clear hw;clear c0 c1 c2 c3;go_wp2;go_ret;have b:=HT.o y (by have:=HS.o;omega) iZ;refine ⟨24+(T[y]'(by have:=HS.o;omega)).toNat,je ((sW 24 om_ om_ b.1).trans om_),by omega, ?_,0,rfl⟩;rw [HW.o];have:=hy.o;omega
 by_cases c4:x<1099511627776
 ·have hw:wide x=5:=by have:=HX.o;unfold wide;rw [if_neg om_];rw [if_neg om_];rw [if_neg om_];rw [if_neg om_];rw [if_neg om_];rw [if_pos om_]
  have HW:=hid hw;obtain ⟨y,hy⟩:∃y,Hid (x / 4294967296=y):=⟨_,rfl⟩;have iZ:y<256:=by have:=hy.o;have:=HX.o;omega
  have j0:(0:Int)<=(y:Int):=by omega
  have j1:=HT1.o y iZ;have gX:(x:Int)≥4294967296:=by have:=HX.o;omega
  have ou:¬(x:Int) / 4294967296≥65536:=by have:=HX.o;omega
  have CQ:=lT ou;have t256:¬(x:Int) / 4294967296≥256:=by have:=HX.o;omega
  have u256:=lT t256;have hwr:IntKind.u8.wrap ((x:Int) / 4294967296)=(y:Int):=wrap_u8 (by have:=hy.o;omega) iZ;clear hw;clear c0 c1 c2 c3 c4;go_wp2;go_ret;have b:=HT.o y (by have:=HS.o;omega) iZ;refine ⟨32+(T[y]'(by have:=HS.o;omega)).toNat,je ((sW 32 om_ om_ b.1).trans om_),by omega, ?_,0,rfl⟩;rw [HW.o];have:=hy.o;omega
 have hw:wide x=6:=by have:=HX.o;unfold wide;rw [if_neg om_];rw [if_neg om_];rw [if_neg om_];rw [if_neg om_];rw [if_neg om_];rw [if_neg om_]
 have HW:=hid hw;obtain ⟨y,hy⟩:∃y,Hid (x / 1099511627776=y):=⟨_,rfl⟩;have iZ:y<256:=by have:=hy.o;have:=HX.o;omega
 have j0:(0:Int)<=(y:Int):=by omega
 have j1:=HT1.o y iZ;have gX:(x:Int)≥4294967296:=by have:=HX.o;omega
 have ou:¬(x:Int) / 4294967296≥65536:=by have:=HX.o;omega
 have CQ:=lT ou;have t256:(x:Int) / 4294967296≥256:=by have:=HX.o;omega
 have hwr:IntKind.u8.wrap ((x:Int) / 4294967296 / 256)=(y:Int):=wrap_u8 (by have:=hy.o;omega) iZ;clear hw;clear c0 c1 c2 c3 c4;go_wp2;go_ret;have b:=HT.o y (by have:=HS.o;omega) iZ;refine ⟨40+(T[y]'(by have:=HS.o;omega)).toNat,je ((sW 40 om_ om_ b.1).trans om_),by omega, ?_,0,rfl⟩;rw [HW.o];have:=hy.o;omega
theorem len_any (x:Nat) (hx:x<281474976710656) (w:World):
  Calls prog 130 #[.int .u64 (x:Int)] w fun e w'=>∃L:Nat,e=.returned (.int .i64 (L:Int))/\L<=64/\(L+7) / 8=wide x/\∃n,w'=w.drewN n:=by
 have cl:=EG x hx;have HX:=hid hx;clear hx;go_enter func130,ntmps130;go_wp2_with (go_at_call 142;(with_reducible refine (cl _).mono ?_);rintro e w' ⟨L,rfl,h1,h2,m,rfl⟩);go_ret;exact ⟨L,rfl,h1,h2,m,rfl⟩
end field
theorem t163{P:Prop}(h:P:=by
 clear hm;go_enter func108,ntmps108
 exact t65):P:=h
namespace field
open Go.RowKit
theorem kinds {f:Fd} (h:f.Right):f.kind=1\/f.kind=2\/f.kind=3\/f.kind=4:=by unfold Fd.Right at h;omega
theorem oN (f:Fd) (h:f.Right) (w:World):Calls prog 108 #[zF f] w (Gives (.int .i64 f.great) w):=by
 have hk:=kinds h;have hs:=h.span;obtain ⟨i,k,lo,hi,m⟩:=f;simp only at hk ⊢;have hm:k=3->1<=m/\m<=1000:=by intro h3;unfold Fd.Right at h;simp only at h;omega
 clear h hs;unfold Gives;rcases hk with rfl | rfl | rfl | rfl
 ·rw [show Fd.great ⟨i,1,lo,hi,m⟩=hi from rfl]
  exact t163
 ·rw [show Fd.great ⟨i,2,lo,hi,m⟩=1 from rfl]
  exact t163
 ·rw [show Fd.great ⟨i,3,lo,hi,m⟩=m - 1 from rfl];obtain ⟨m1,m2⟩:=hm rfl
  exact t163
 ·rw [show Fd.great ⟨i,4,lo,hi,m⟩=0 from rfl]
  exact t163
theorem aj {P:Program} {F:FuncId} {args:Array Value} {v:Value} {w0 w:World} (h:Calls P F args w (Gives v w)) (hb:Below w0.heap.size w0 w):Calls P F args w fun e w'=>e=.returned v/\Below w0.heap.size w0 w':=
 h.mono fun _ _ ⟨he,hw⟩=>⟨he,hb.trans (hw.mono hb.size)⟩
theorem DL (f:Fd) (h:f.Right) (w:World):Calls prog 104 #[zF f] w (Gives (.int .i64 (f.great - f.lo)) w):=by
 have HS:=hid (five f w);have HB:=hid (lU f w);have hs:=h.span;have s1:=hs.1;have s2:=hs.2.1;have hb0:Below (w.alloc (.cells (zF f) 26)).heap.size (w.alloc (.cells (zF f) 26)) (w.alloc (.cells (zF f) 26)).drew:=below_drewN (Below.refl _ _) 1;have cg:=aj (oN f h (w.alloc (.cells (zF f) 26)).drew) hb0;have hk0:=HS.o _ hb0;clear h hs;unfold Gives;generalize f.great=G at *;go_enter func104,ntmps104;go_wp2;go_region_held3 (fun w'=>(w'.cell? ⟨w.heap.size,0,none⟩=some (.int .i64 f.id)/\w'.cell? ⟨w.heap.size,1,none⟩=some (.int .i64 f.kind)/\w'.cell? ⟨w.heap.size,2,none⟩=some (.int .i64 f.lo)/\w'.cell? ⟨w.heap.size,3,none⟩=some (.int .i64 f.hi)/\w'.cell? ⟨w.heap.size,4,none⟩=some (.int .i64 f.most))) (first | assumption | go_keep) ((go_at_call 108;(with_reducible refine cg.mono ?_);rintro e w2 ⟨rfl,hb2⟩;have hk2:=HS.o w2 hb2));go_wp2;go_ret;exact ⟨je (IntWalk.i64_in _ om_),HB.o _ hb2⟩
end field
theorem t78{P:Prop}(h:P:=by
 go_enter func98,ntmps98;go_wp2_with (go_at_call 96;(with_reducible refine cr.mono ?_);rintro e w1 ⟨rfl,hb1⟩;have hk1:=HS.o _ hb1);go_ret;exact ⟨rfl,HB.o _ hb1⟩):P:=h
theorem t35{P:Prop}(h:P:=by
 clear h4 h2;rw [if_neg de_];clear hTb;have hu:IntKind.u64.wrap (T:Int)=(T:Int):=by have:=HT.o;rw [IntWalk.u64_in _ om_]
 go_enter func98,ntmps98;go_wp2_with (first
  | (go_at_call 96;(with_reducible refine cr.mono ?_);rintro e w1 ⟨rfl,hb1⟩;have hk1:=HS.o _ hb1)
  | (go_at_call 104;(with_reducible refine (ct _ hb1).mono ?_);rintro e w2 ⟨rfl,hb2⟩)
  | (go_at_call 130;(with_reducible refine (cl _).mono ?_);rintro e w3 ⟨L,rfl,hL1,hL2,nd,rfl⟩;have HL:=hid hL2;clear hL2))
 go_ret;exact ⟨je (by have:=HL.o;omega),HB.o _ (below_drewN hb2 _)⟩):P:=h
namespace field
open Go.RowKit
theorem size_any (f:Fd) (w:World):Calls prog 98 #[zF f] w (Gives (.int .i64 (f.size:Int)) w):=by
 have HB:=hid (lU f w);have HS:=hid (five f w);have hsz:f.size=if f.Right then (if f.kind=4 then 1+f.most.toNat else wide (f.great - f.lo).toNat) else 0:=rfl
 rw [hsz];have cr:=aj (dL f (w.alloc (.cells (zF f) 26))) (w0:=(w.alloc (.cells (zF f) 26))) (Below.refl _ _);by_cases hr:f.Right
 ·rw [if_pos hr];rw [decide_eq_true hr] at cr;have hk:=kinds hr;have hsp:=hr.span;obtain ⟨T,hT⟩:∃T:Nat,f.great - f.lo=(T:Int):=⟨(f.great - f.lo).toNat,by omega⟩;have hTb:T<=2199023255552:=by omega
  have ct:=fun (w1:World) (hb:Below (w.alloc (.cells (zF f) 26)).heap.size (w.alloc (.cells (zF f) 26)) w1)=>aj (DL f hr w1) hb
  rw [hT] at ct;have cl:=len_any T om_;rw [hT];have h4:f.kind=4->0<=f.most/\f.most<=32:=by intro h4;unfold Fd.Right at hr;omega
  have h2:f.kind=2->f.great - f.lo=1:=by intro h2;unfold Fd.Right at hr;unfold Fd.great;rw [h2];simp;omega
  rw [hT] at h2;clear hr hsp hsz hT;obtain ⟨i,k,lo,hi,m⟩:=f;simp only at hk h4 h2 HB HS cr ct ⊢;rw [show ((T:Int)).toNat=T from rfl];unfold Gives;have HT:=hid hTb;rcases hk with rfl | rfl | rfl | rfl
  ·exact t35
  ·have hT1:T=1:=by have:=h2 rfl;omega
   subst hT1;clear h4 h2;rw [if_neg de_,show wide 1=1 from rfl]
   exact t78
  ·exact t35
  ·obtain ⟨m1,m2⟩:=h4 rfl;clear h4 h2;rw [if_pos rfl];obtain ⟨M,rfl⟩:=Int.eq_ofNat_of_zero_le m1;rw [show ((M:Int)).toNat=M from rfl];go_enter func98,ntmps98;go_wp2_with (go_at_call 96;(with_reducible refine cr.mono ?_);rintro e w1 ⟨rfl,hb1⟩;have hk1:=HS.o _ hb1);go_ret;exact ⟨je om_,HB.o _ hb1⟩
 ·rw [if_neg hr];rw [decide_eq_false hr] at cr;clear hr hsz;unfold Gives
  exact t78
end field
namespace schema
open Go.RowKit
open field (Gives aC aj size_any)
theorem dV {w:World} {B B' e size n:Nat} {v:Value} {xs:List Value} (h:w.ownsRow B e size v n xs) (hB:B'<=B):w.ownsRow B' e size v n xs:=by
 refine ⟨h.1, ?_⟩;rcases h.2 with h0 | ⟨g,cap,cur,hv,hb,hg⟩
 ·exact .inl h0
 ·exact .inr ⟨g,cap,cur,hv,Nat.le_trans hB hb,hg⟩
theorem aY {w w':World} {d:Obj} (hb:Below (w.alloc d).heap.size (w.alloc d) w'):Below w.heap.size w w':=((Below.refl _ _).alloc (Nat.le_refl _) _).trans (hb.mono si_)
theorem di {w w':World} {a:Option Addr} {L:List field.Fd} (h:field.Fds w a L) (hb:Below w.heap.size w w') {k:Nat} (hk:k<L.length):
  ∃b off p,a=some ⟨b,off,none⟩/\b<w'.heap.size/\L[k]?=some p/\w'.cell? ⟨b,off+k*5,none⟩=some (.int .i64 p.id)/\w'.cell? ⟨b,off+k*5+1,none⟩=some (.int .i64 p.kind)/\w'.cell? ⟨b,off+k*5+2,none⟩=some (.int .i64 p.lo)/\w'.cell? ⟨b,off+k*5+3,none⟩=some (.int .i64 p.hi)/\w'.cell? ⟨b,off+k*5+4,none⟩=some (.int .i64 p.most):=(h.below hb).at hk
theorem H8 (i:Int) (a:Option Addr) (cap:Nat) (L:List field.Fd) (w:World) (h:field.Fds w a L) (hL:L.length<=40):
  Calls prog 101 #[zS i a L.length cap] w (Gives (.int .i64 (size L:Int)) w):=by
 have HO:=hid (fun (w':World) hb=>aY (w:=w) (d:=.cells (zS i a L.length cap) 57) (w':=w') hb);have HF:=hid (h.below (aC w (.cells (zS i a L.length cap) 57)));obtain ⟨S,hS⟩:∃S:Nat,Hid (size L=S):=⟨_,rfl⟩;rw [hS.o];unfold Gives;clear h;go_enter func101,ntmps101;go_wp2;go_loopw [3,9] (fun s n wr=>∃k:Nat,k<=L.length/\s=.int .i64 (size (L.take k):Int)/\n=.int .i64 (k:Int)/\Hid (Below (w.alloc (.cells (zS i a L.length cap) 57)).heap.size (w.alloc (.cells (zS i a L.length cap) 57)) wr)) (fun _ n _=>L.length - (intOf n).toNat);case atStart=>exact ⟨0,Nat.zero_le _,rfl,rfl,hid (Below.refl _ _)⟩
 case round=>
  obtain ⟨k,hk,rfl,rfl,HB⟩:=hrel;by_cases hlt:k<L.length
  ·obtain ⟨b,off,p,rfl,hbl,hp,c0,c1,c2,c3,c4⟩:=di HF.o HB.o hlt;have i1:(k:Int)<L.length:=by omega
   have HP:=hid hp;have HSZ:=hid (yP hp);have hst:=size_take L k;have hst2:=field.sG;have cs:=fun w'=>size_any p w'
   have hps:=qX p;clear hp hst2;generalize size (L.take k)=s at *;go_wp2_with (go_at_call 98;((with_reducible refine (cs _).mono ?_);rintro e w2 ⟨rfl,hb2⟩));exact ⟨⟨k+1,by omega,by rw [HSZ.o];go_num,by go_num,hid (HB.o.trans ((aY hb2).mono HB.o.size))⟩,by simp [intOf];omega⟩
  ·obtain rfl:k=L.length:=by omega
   go_wp2;go_ret;exact ⟨je (by rw [<-hS.o,List.take_of_length_le (Nat.le_refl _)]),HO.o _ HB.o⟩
end schema
namespace texts
open Go.RowKit
def IV (l:List UInt8):ByteArray:=⟨l.toArray⟩
theorem Eu (l:List UInt8):(IV l).size=l.length:=by simp [IV,ByteArray.size]
theorem Bg (l:List UInt8):(IV l).toList=l:=ByteArray.toList_mk l
end texts
namespace plan
open Go Go.RowKit
section
variable {P:Program} {md:Region.Mode} {Q:Exit->Act->World->Prop} {l:List Oper}
theorem bI {S:World->Prop} {f:Nat} {listed:Array Bool} {a:Act} {w w1:World} (i:Nat) (o:Oper) (v:Value) (hi:l[i]?=some o) (hg:o.guard=none) (hS:S w1) (h:wpAnyH P md l.toArray (NoPanic Q) S f (listed.setIfInBounds i true) (a.put o.dst v) w1) (hr:Region.ready md l.toArray listed=[i]:=by kernel_rfl) (hv:(execOp a.eval o).run P w=.ok (.value v) w1:=by kernel_rfl):wpAnyH P md l.toArray (NoPanic Q) S (f+1) listed a w:=by
 refine every (by rw [hr];simp) fun j hj=> ?_
 rw [hr] at hj;obtain rfl:j=i:=by simpa using hj
 exact ⟨o,hi,hg,.inl ⟨v,w1,hv,hS,h⟩⟩
theorem gm {S:World->Prop} {listed:Array Bool} {a:Act} {w:World} (h:Q .normal a w) (hr:Region.ready md l.toArray listed=[]:=by kernel_rfl):wpAnyH P md l.toArray (NoPanic Q) S 0 listed a w:=⟨hr,NoPanic.normal h⟩
end
end plan
namespace plan
open Go Go.RowKit
section
variable {P:Program} {md:Region.Mode} {Q:Exit->Act->World->Prop} {l:List Oper}
theorem af {S:World->Prop} {f:Nat} {listed:Array Bool} {a:Act} {w:World} (i:Nat) (o:Oper) (v:Value) (hi:l[i]?=some o) (hv:∀w',S w'->(execOp a.eval o).run P w'=.ok (.value v) w') (hS:S w)
  (h:wpAnyH P md l.toArray (NoPanic Q) S f (listed.setIfInBounds i true) (a.put o.dst v) w) (hs:Region.noSelect l.toArray=true:=by kernel_rfl) (hf:Region.free md l.toArray listed i=true:=by kernel_rfl) (hr:(Region.ready md l.toArray listed).contains i=true:=by kernel_rfl) (hw:Region.wanted o (yielded l.toArray a.tmps)=true:=by kernel_rfl):wpAnyH P md l.toArray (NoPanic Q) S (f+1) listed a w:=
 wpAnyH_take (by simpa using hi) hs hf hr (fun c a' w' h=>h) (.inl ⟨hw,hv⟩) hS h
theorem fJ {S:World->Prop} {f:Nat} {listed:Array Bool} {a:Act} {w:World} (i:Nat) (o:Oper) (F:FuncId) (args:Array Value) (hi:l[i]?=some o)
  (h:Calls P F args w fun e w'=>∃v,e=.returned v/\S w'/\wpAnyH P md l.toArray (NoPanic Q) S f (listed.setIfInBounds i true) (a.put o.dst v) w') (hr:Region.ready md l.toArray listed=[i]:=by kernel_rfl) (hw:Region.wanted o (yielded l.toArray a.tmps)=true:=by kernel_rfl) (hv:(execOp a.eval o).run P w=.ok (.enter F args) w:=by kernel_rfl):wpAnyH P md l.toArray (NoPanic Q) S (f+1) listed a w:=by
 refine wpAnyH_all hr si_ fun j hj=> ?_
 obtain rfl:j=i:=by simpa using hj
 have hi':l.toArray[j]?=some o:=by simpa using hi
 unfold wpOp;simp only [hi',hw,if_true,Oper.wp,hv,Oper.upon];refine .inl (h.mono ?_);rintro e w' ⟨v,rfl,hS,hR⟩;exact ⟨hS,hR⟩
theorem bD {S:World->Prop} {id:Nat} {a:Act} {w:World} (h:wpAnyH P .any l.toArray (NoPanic Q) S l.length (Array.replicate l.length false) a w.drew) (hmx:P.follows .mixedOrders=true:=by kernel_rfl):(Code.region id l.toArray true).wp P Q a w:=by
 refine wp_region_noPanic (wp_region_held (S:=S) hmx ?_)
 exact t140
end
end plan
namespace schema
open Go.RowKit
theorem aN {P:Program} {w:World} {ops:Array Oper} {rest:List Oper} {o:Oper} {a:Act} {Q:Exit->Act->World->Prop} (hgd:o.guard=none) (s x:Operand) (t:TypeId)
  (ho:o.op=.call { callee:=.builtin .append,args:=#[s,x],argTypes:=#[t,t]})
  (base:Nat) (e:TypeId) (i:TypeInfo) (z:Value) (size bytes:Nat) (ht:P.underlying t=some (.slice e)) (hi:P.info? e=some i) (hz:i.zero=some z)
  (hsize:i.size=size) (hby:i.bytes=bytes) (hzs:z.cells.size=size) (hsz:0<size)
  (v:Value) (n:Nat) (xs:List Value) (hs:a.eval s=v) (hown:w.ownsRow base e size v n xs)
  (ap:Option Addr) (m c:Nat) (news:List Value) (hx:a.eval x=.slice ap m c) (hl:news.length=m*size)
  (hnews:m=0\/∃ad,ap=some ad/\∀j u,news[j]?=some u->w.cell? (ad.add j)=some u) (h1:∀u∈news,u.oneCell'=true)
  (h63:n+m<=maxLen) (hbytes:(n+m)*bytes<=140737488355328) (hbase:base<=w.heap.size)
  (h:∀v' w',w'.ownsRow base e size v' (n+m) (xs++news)->w.grownBy w' v.ownBlock->wpList P ops Q rest (a.put o.dst v') w'):wpList P ops Q (o :: rest) a w:=by
 by_cases hm:m=0
 ·subst hm;obtain rfl:news=[]:=List.eq_nil_of_length_eq_zero om_
  exact t42
 ·rcases hnews with h0 | ⟨ad,rfl,hc⟩
  ·exact absurd h0 hm
  ·exact wpList_append_own w hgd s x t ho base e i z size bytes ht hi hz hsize hby hzs hsz v n xs hs hown ad m c news hx hl hc h1 h63 hbytes hbase (fun v' w' h2 h3 _=>h v' w' h2 h3)
end schema
theorem t175{P:Prop}(h:P:=by
 rw [hx,<-htake,List.getElem?_take,if_pos om_] at h1
 exact t88):P:=h
theorem t144{P:Prop}(h:P:=by
 exact ⟨i+1,q,c,by simpa using h1,by omega,h3,h4⟩):P:=h
theorem t128{P:Prop}(h:P:=by
 cases hv
 exact ⟨.inl (List.eq_nil_of_length_eq_zero om_),hn,by omega⟩):P:=h
theorem t91{P:Prop}(h:P:=by
 simp only [Prod.mk.injEq] at he;exact ⟨i,hi,he.1,he.2.1,he.2.2⟩):P:=h
theorem t88{P:Prop}(h:P:=by
 rw [cell_of_row w b _ cur _ _ hg,Nat.zero_add,<-h1,Array.getElem?_toList]):P:=h
namespace schema
open Go.RowKit
def fdC (p:field.Fd):List Value:=(zF p)
def fdV:List field.Fd->List Value
 | []=>[]
 | p :: L=>fdC p++fdV L
theorem fE:∀a b,fdV (a++b)=fdV a++fdV b
 | [],_=>rfl
 | p :: a,b=>by rw [List.cons_append,fdV,fdV,fE a b,List.append_assoc]
theorem dZ:∀L,(fdV L).length=L.length*5
 | []=>rfl
 | p :: L=>by rw [fdV];simp only [fdC,List.length_append,List.length_cons,List.length_nil,dZ L];omega
theorem jh:∀L,∀u∈fdV L,u.oneCell'=true
 | [],u,h=>by simp [fdV] at h
 | p :: L,u,h=>by
  rw [fdV,List.mem_append] at h;rcases h with h | h
  ·simp [fdC] at h;rcases h with rfl | rfl | rfl | rfl | rfl <;> rfl
  ·exact jh L u h
theorem DV:∀(L:List field.Fd) (j:Nat) (u:Value),(fdV L)[j]?=some u->∃i p c,L[i]?=some p/\j=i*5+c/\c<5/\(fdC p)[c]?=some u
 | [],j,u,h=>by simp [fdV] at h
 | p :: L,j,u,h=>by
  rw [fdV] at h;by_cases hj:j<5
  ·rw [List.getElem?_append_left (by simp [fdC];omega)] at h;exact ⟨0,p,j,rfl,by omega,hj,h⟩
  ·rw [List.getElem?_append_right (by simp [fdC];omega)] at h;obtain ⟨i,q,c,h1,h2,h3,h4⟩:=DV L _ u h;simp only [fdC,List.length_cons,List.length_nil] at h2
   exact t144
theorem Dh:∀(L:List field.Fd) (i:Nat) (p:field.Fd) (c:Nat),L[i]?=some p->c<5->(fdV L)[i*5+c]?=(fdC p)[c]?
 | [],i,p,c,h,_=>by simp at h
 | q :: L,0,p,c,h,hc=>by
  simp at h;subst h;rw [fdV,List.getElem?_append_left (by simp [fdC];omega)];simp
 | q :: L,i+1,p,c,h,hc=>by
  rw [fdV,List.getElem?_append_right (by simp [fdC];omega)];rw [<-Dh L i p c (by simpa using h) hc];congr 1;simp only [fdC,List.length_cons,List.length_nil];omega
theorem rY {w:World} {a:Option Addr} {L:List field.Fd} (h:field.Fds w a L):L.length=0\/∃ad,a=some ad/\∀j u,(fdV L)[j]?=some u->w.cell? (ad.add j)=some u:=by
 rcases h with h | ⟨b,off,ha,hlt,hc⟩
 ·exact .inl (by rw [h];rfl)
 ·refine .inr ⟨_,ha,fun j u hj=> ?_⟩;obtain ⟨i,p,c,h1,rfl,h3,h4⟩:=DV L j u hj;obtain ⟨c0,c1,c2,c3,c4⟩:=hc i p h1;rw [Addr.add_lit];match c,h3,h4 with
  | 0,_,h4=>rw [show (some u)=some (.int .i64 p.id) from h4.symm.trans rfl];exact c0
  | 1,_,h4=>rw [show (some u)=some (.int .i64 p.kind) from h4.symm.trans rfl,<-Nat.add_assoc];exact c1
  | 2,_,h4=>rw [show (some u)=some (.int .i64 p.lo) from h4.symm.trans rfl,<-Nat.add_assoc];exact c2
  | 3,_,h4=>rw [show (some u)=some (.int .i64 p.hi) from h4.symm.trans rfl,<-Nat.add_assoc];exact c3
  | 4,_,h4=>rw [show (some u)=some (.int .i64 p.most) from h4.symm.trans rfl,<-Nat.add_assoc];exact c4
theorem gQ {w:World} {base n:Nat} {a:Option Addr} {cap:Nat} {L:List field.Fd} {e:TypeId} (h:w.ownsRow base e 5 (.slice a n cap) n (fdV L)):field.Fds w a L/\n=L.length/\n<=cap:=by
 obtain ⟨hl,hr⟩:=h;have hn:n=L.length:=by have:=dZ L;rw [hl] at this;omega
 rcases hr with ⟨hv,h0⟩ | ⟨b,cap',cur,hv,_,hg,hcp,_,_,htake⟩
 ·exact t128
 ·cases hv
  refine ⟨.inr ⟨b,0,rfl,(Array.getElem?_eq_some_iff.1 hg).1,fun i p hp=> ?_⟩,hn,hcp⟩;have hi:i<L.length:=(List.getElem?_eq_some_iff.1 hp).1;have key:∀c x,c<5->(fdC p)[c]?=some x->w.cell? ⟨b,0+(i*5+c),none⟩=some x:=by
   intro c x hc hx;have h1:=Dh L i p c hp hc
   exact t175
  exact ⟨key 0 _ om_ rfl,key 1 _ om_ rfl,key 2 _ om_ rfl,key 3 _ om_ rfl,key 4 _ om_ rfl⟩
theorem J3:(prog.info? 26).map (fun i=>(i.zero,i.size,i.bytes))=some (some (.agg #[.int .i64 0,.int .i64 0,.int .i64 0,.int .i64 0,.int .i64 0]),5,40):=by kernel_rfl
theorem dP:∃i,prog.info? 26=some i/\i.zero=some (.agg #[.int .i64 0,.int .i64 0,.int .i64 0,.int .i64 0,.int .i64 0])/\i.size=5/\i.bytes=40:=by
 obtain ⟨i,hi,he⟩:=Option.map_eq_some_iff.1 J3
 exact t91
end schema
namespace plan
open Go Go.RowKit
section
variable {P:Program} {md:Region.Mode} {Q:Exit->Act->World->Prop} {l:List Oper}
end
end plan
namespace plan
open Go Go.RowKit
section
variable {P:Program} {md:Region.Mode} {Q:Exit->Act->World->Prop} {l:List Oper}
end
end plan
theorem t46{P:Prop}(h:P:=by
 go_enter func123,ntmps123;go_wp2_with (at_builtin;refine aN rfl _ _ 30 rfl base 26 i0 _ 5 40 underlying30 hi0 hz0 hz1 hz2 (by simp [Value.cells]) om_ _ i xs rfl HO.o (some ⟨g,goff,none⟩) 1 vc news rfl (by rw [HL.o]) (.inr ⟨_,rfl,HC.o⟩) H1.o HN2.o HN3.o HB.o ?_);intro v' w1 ho hg;have HO2:=hid ho;have HG2:=hid hg;rw [HOB.o] at HG2;clear ho hg;go_wp2;go_ret;exact ⟨_,rfl,HO2.o,HG2.o⟩):P:=h
namespace schema
open Go.RowKit rows
def oU (base:Nat) (ob:Option Nat) (n:Nat) (ys:List Value) (w:World) (e:Ending) (w':World):Prop:=∃v',e=.returned v'/\w'.ownsRow base 26 5 v' n ys/\w.grownBy w' ob
set_option maxRecDepth 20000 in
theorem pW (base n i g goff vc:Nat) (gC:List Value) (gt:TypeId) (v:Value) (xs news:List Value) (w:World) (hown:w.ownsRow base 26 5 v n xs) (hbase:base<=w.heap.size) (hi:i<=n)
  (hl:news.length=5) (hG:Block w g gt gC) (hgo:goff+5<=gC.length) (hgv:v.ownBlock≠some g) (hnews:∀j u,news[j]?=some u->gC[goff+j]?=some u) (h1:∀u∈news,u.oneCell'=true) (hx1:∀u∈xs,u.oneCell'=true) (hn:n<=1000):
  Calls prog 123 #[v,.int .i64 i,.slice (some ⟨g,goff,none⟩) 1 vc] w (oU base v.ownBlock (n+1) (xs.take (i*5)++(news++xs.drop (i*5))) w):=by
 obtain ⟨i0,hi0,hz0,hz1,hz2⟩:=dP;have hxl:=hown.1;have hcell:∀j u,news[j]?=some u->w.cell? ((⟨g,goff,none⟩:Addr).add j)=some u:=fun j u hj=>by rw [Addr.add_lit,hG.cell];exact hnews j u hj
 have b1:(i:Int)<=n:=by omega
 have b2:(n:Int)<=1000:=by omega
 by_cases hin:i=n
 ·subst hin;have e1:xs.take (i*5)=xs:=List.take_of_length_le om_;have e2:xs.drop (i*5)=[]:=List.drop_of_length_le om_;rw [e1,e2,List.append_nil];obtain ⟨bp,cp,rfl,hcp⟩:=aB hown;have HO:=hid hown;have HC:=hid hcell;have HN2:Hid (i+1<=maxLen):=by show _<=_;unfold maxLen;omega
  have HN3:Hid ((i+1)*40<=140737488355328):=by show _<=_;omega
  have HL:=hid hl;have H1:=hid h1;have HB:=hid hbase;obtain ⟨OB,hOB⟩:∃OB,(Value.slice bp i cp).ownBlock=OB:=⟨_,rfl⟩;have HOB:=hid hOB;rw [hOB];clear hOB hown hcell hxl hG hgo hnews h1 hx1 e1 e2 hl hbase hgv;by_cases hci:i=cp
  ·subst hci
   exact t46
  ·exact t46
 ·rcases hown.2 with ⟨rfl,h0⟩ | ⟨b,cap,cur,rfl,hbb,hB,hnc,hcm,hcs,htake⟩
  ·omega
  ·obtain ⟨C,rfl⟩:∃C:List Value,cur=C.toArray:=⟨cur.toList,by simp⟩;simp only [List.size_toArray] at hcs;have htk:C.take (n*5)=xs:=by simpa using htake
   have hbg:g≠b:=by intro h;subst h;exact hgv rfl
   have hX1:C.take (i*5)=xs.take (i*5):=by rw [<-htk,List.take_take,Nat.min_eq_left (Nat.mul_le_mul_right _ hi)]
   have hX2l:(xs.drop (i*5)).length=(n - i)*5:=by rw [List.length_drop,hxl,Nat.sub_mul]
   have hX2c:∀j u,(xs.drop (i*5))[j]?=some u->C[i*5+j]?=some u:=fun j u hj=>by
    rw [List.getElem?_drop,<-htk,List.getElem?_take] at hj;split at hj
    ·exact hj
    ·cases hj
   have hX21:∀u∈xs.drop (i*5),u.oneCell'=true:=fun u hu=>hx1 u (List.mem_of_mem_drop hu)
   obtain ⟨X2,hX2⟩:∃X2,xs.drop (i*5)=X2:=⟨_,rfl⟩;rw [hX2] at hX2l hX2c hX21 ⊢;rw [<-hX1];have hlt:i<n:=by omega
   have c1:(i:Int)<n:=by omega
   have c2:¬((i:Int)=(n:Int)):=by omega
   have c3:¬(cap=i):=by omega
   have hcm':cap<=9223372036854775807:=by unfold maxLen at hcm;omega
   have w1:IntKind.i64.wrap ((i:Int)+1)=(i:Int)+1:=by rw [IntKind.wrap_i64];omega
   have w2:IntKind.i64.wrap ((n:Int)+1)=(n:Int)+1:=by rw [IntKind.wrap_i64];omega
   have t1:((i:Int)+1).toNat=i+1:=by omega
   have t2:((n:Int)+1).toNat=n+1:=by omega
   have p1:(0:Int)<=(i:Int)+1:=by omega
   have p2:(i:Int)+1<=(n:Int)+1:=by omega
   have hBB:Block w b 26 C:=hB;have hOB:(Value.slice (some ⟨b,0,none⟩) n cap).ownBlock=some b:=rfl;rw [hOB];clear hOB;by_cases hroom:n+1<=cap
   ·have c4:¬((cap:Int)<(n:Int)+1):=by omega
    have c5:¬(cap=i+1):=by omega
    have c6:(n:Int)+1<=(cap:Int):=by omega
    have hov:∀lb cb,(callFunc 137 #[.slice (some ⟨g,goff,none⟩) 1 vc,.slice (some ⟨b,(i+1)*5,none⟩) lb cb]).run prog w=.ok (.value (.bool false)) w:=fun lb cb=>by
     rw [run_callFunc_extern func137 kr_ kr_ kr_ (e:=Extern.SlicesOverlaps.overlaps #[30,30] #[4]) kr_,
      kK w 30 4 26 underlying30 i0 hi0 ⟨g,goff,none⟩ ⟨b,(i+1)*5,none⟩ 1 vc lb cb hbg gt 26 gC C hG hBB (by intro h;subst h;simp at hcs;omega)]
     rfl
    have HB:=hid hBB;have HG:=hid hG;have HCS:=hid hcs;have HL:=hid hl;have HX2l:=hid hX2l;have HX2c:=hid hX2c;have HX21:=hid hX21;have H1:=hid h1;have HNW:=hid hnews;have HGO:=hid hgo;have HCM:=hid hcm;have HBB:=hid hbb;clear hown hcell hxl hG hgo hnews h1 hx1 hl hbase hgv htake htk hX1 hX2 hX2l hX2c hX21 hB hBB hcs hcm hbb;go_enter func123,ntmps123;go_wp2_with (simp only [hov]);refine tail.region 8 kr_ kr_ ?_;simp only [List.take_succ_cons,List.take_zero,List.drop_succ_cons,List.drop_zero];repeat (go_big_quiet_step (fail))
    refine wpQuiet_nil ?_;rintro _ ⟨nq,rfl⟩;refine bC rfl _ _ 30 30 rfl 26 i0 5 underlying30 hi0 hz1 _ _ _ _ _ _ rfl rfl b ((i+1)*5) C 26 (HB.o.drewN nq) (n - i) (by simp only [Nat.min_def];split <;> omega) X2 HX2l.o (fun _=>⟨rfl,⟨b,i*5,none⟩,rfl,fun j u hj=>by rw [Addr.add_lit,(HB.o.drewN nq).cell];exact HX2c.o j u hj⟩) (by rw [HX2l.o,HCS.o,<-Nat.add_mul];exact Nat.mul_le_mul_right _ om_) HX21.o ?_;intro w3 h3;have hG3:Block w3 g gt gC:=HG.o.but h3.o.2.1 HG.o.lt hbg;have HG3:=hid hG3;have hs3:=h3.o.2.2;clear hG3;go_wp2_with (refine bC rfl _ _ 30 30 rfl 26 i0 5 underlying30 hi0 hz1 _ _ _ _ _ _ rfl rfl b (i*5) (splice C ((i+1)*5) X2) 26 h3.o.1 1 (by simp only [Nat.min_def];split <;> omega) news (by rw [HL.o]) (fun _=>⟨rfl,⟨g,goff,none⟩,rfl,fun j u hj=>by rw [Addr.add_lit,HG3.o.cell];exact HNW.o j u hj⟩) (by rw [length_splice _ _ _ (by rw [HX2l.o,HCS.o,<-Nat.add_mul];exact Nat.mul_le_mul_right _ om_),HL.o,HCS.o];exact (by omega:i*5+5<=cap*5)) H1.o ?_);intro w4 h4;go_wp2;go_ret;have hl2:=two C (i*5) news X2 (by rw [HL.o,HX2l.o,HCS.o];omega);rw [HL.o,HX2l.o,show i*5+5=(i+1)*5 by omega,show (i+1)*5+(n - i)*5=(n+1)*5 by omega,List.append_assoc] at hl2;refine ⟨_,rfl,iE h4.o.1 HBB.o hroom HCM.o ?_ hl2, ?_⟩
    ·rw [length_splice,length_splice,HCS.o]
     ·rw [HX2l.o,HCS.o];omega
     ·rw [length_splice,HL.o,HCS.o]
      ·omega
      ·rw [HX2l.o,HCS.o];omega
    ·have e3:=h3.o.2.1;have e4:=h4.o.2.1;exact dF (v:=.slice (some ⟨b,0,none⟩) n cap) (But.trans (But.drewN e3 0) e4) rfl
   ·obtain rfl:n=cap:=by omega
    have c4:(n:Int)<(n:Int)+1:=by omega
    have k1:IntKind.i64.wrap ((n:Int)+1 - (i:Int))=(n:Int)+1 - (i:Int):=by rw [IntKind.wrap_i64];omega
    have HB:=hid hBB;have HG:=hid hG;have HCS:=hid hcs;have HL:=hid hl;have HX2l:=hid hX2l;have HX2c:=hid hX2c;have HX21:=hid hX21;have H1:=hid h1;have HNW:=hid hnews;have HGO:=hid hgo;have HCM:=hid hcm;have HBB:=hid hbb;have HBW:=hid hbase;have hsz0:0<5:=by omega
    have HN3:Hid ((i+(n+1 - i))*40<=140737488355328):=by show _<=_;omega
    have HN2:Hid (i+(n+1 - i)<=maxLen):=by show _<=_;unfold maxLen;omega
    have HF0:Hid (i*5<=C.length):=by show _<=_;rw [hcs];omega
    clear hown hcell hxl hG hgo hnews h1 hx1 hl hbase hgv htake htk hX1 hX2 hX2l hX2c hX21 hB hBB hcs hcm hbb;go_enter func123,ntmps123;go_wp2_with (at_builtin;refine gy rfl _ _ 30 3 rfl 26 i0 _ 5 40 underlying30 underlying3 hi0 hz0 hz1 hz2 (by simp [Value.cells]) hsz0 b i n rfl (n+1 - i) _ rfl om_ om_ C HB.o HF0.o om_ om_ HN3.o HN2.o ?_);intro G R w3 h3;have hs3:w.heap.size<w3.heap.size:=h3.o.2.2.2.2.2;have g1:¬(G=i):=by have:=h3.o.2.2.1;omega
    have g2:¬(G=i+1):=by have:=h3.o.2.2.1;omega
    have g3:i+(n+1 - i)=n+1:=by omega
    have HG1:=hid h3.o.2.2.1;have HG2:=hid h3.o.2.2.2.1;have HRl:=hid h3.o.2.1;have HLT:=hid HB.o.lt;have HLG:=hid HG.o.lt;have HB3:Hid (Block w3 b 26 C):=hid (HB.o.later h3.o.2.2.2.2.1);have HG3:Hid (Block w3 g gt gC):=hid (HG.o.later h3.o.2.2.2.2.1);have HCL:Hid ((C.take (i*5)++R).length=G*5):=by
     show _=_
     rw [List.length_append,List.length_take,Nat.min_eq_left HF0.o,HRl.o,<-Nat.add_mul];congr 1;have:=HG1.o;omega
    rw [g3];go_wp2_with (refine bC rfl _ _ 30 30 rfl 26 i0 5 underlying30 hi0 hz1 _ _ _ _ _ _ rfl rfl w.heap.size (i*5) (C.take (i*5)++R) 26 h3.o.1 1 (by simp only [Nat.min_def];split <;> omega) news (by rw [HL.o]) (fun _=>⟨rfl,⟨g,goff,none⟩,rfl,fun j u hj=>by rw [Addr.add_lit,HG3.o.cell];exact HNW.o j u hj⟩) (by rw [HCL.o,HL.o];have:=HG1.o;omega) H1.o ?_);intro w4 h4;have HB4:Hid (Block w4 b 26 C):=hid (HB3.o.but h4.o.2.1 HB3.o.lt (by have:=HLT.o;omega));have hs4:=h4.o.2.2;have HL4:Hid ((splice (C.take (i*5)++R) (i*5) news).length=G*5):=hid (by rw [length_splice _ _ _ (by rw [HCL.o,HL.o];have:=HG1.o;omega),HCL.o]);go_wp2;refine tail.region 8 kr_ kr_ ?_;simp only [List.take_succ_cons,List.take_zero,List.drop_succ_cons,List.drop_zero];repeat (go_big_quiet_step (fail))
    refine wpQuiet_nil ?_;rintro _ ⟨nq,rfl⟩;refine bC rfl _ _ 30 30 rfl 26 i0 5 underlying30 hi0 hz1 _ _ _ _ _ _ rfl rfl w.heap.size ((i+1)*5) (splice (C.take (i*5)++R) (i*5) news) 26 (h4.o.1.drewN nq) (n - i) (by simp only [Nat.min_def];split <;> omega) X2 HX2l.o (fun _=>⟨rfl,⟨b,i*5,none⟩,rfl,fun j u hj=>by rw [Addr.add_lit,(HB4.o.drewN nq).cell];exact HX2c.o j u hj⟩) (by rw [HL4.o,HX2l.o];have:=HG1.o;omega) HX21.o ?_;intro w5 h5;go_wp2;go_ret;have hl2:=two' (C.take (i*5)++R) (i*5) news X2 (by rw [HL.o,HX2l.o,HCL.o];have:=HG1.o;omega);rw [HL.o,HX2l.o,show i*5+5=(i+1)*5 by omega,show (i+1)*5+(n - i)*5=(n+1)*5 by omega,List.append_assoc,List.take_left' (by rw [List.length_take,Nat.min_eq_left HF0.o])] at hl2;refine ⟨_,rfl,iE h5.o.1 HBW.o (by have:=HG1.o;omega) HG2.o ?_ hl2, ?_⟩
    ·rw [length_splice,HL4.o];rw [HX2l.o,HL4.o];have:=HG1.o;omega
    ·exact eX (h3.o.2.2.2.2.1.trans ((But.trans (But.drewN h4.o.2.1 0) (by have:=h5.o.2.1;exact this.mono (by simp [hs4]))).below om_ (Nat.le_refl _)))
end schema
theorem t77{P:Prop}(h:P:=by
 rw [gY _ _ _ _ (Nat.le_refl _) (by rw [HL3.o];have:=HNC.o;omega)];have:=gW C (i*5) X2 (by rw [HCS.o];have:=HNC.o;omega);rw [HX2l.o,<-Nat.add_mul,g3] at this;exact this):P:=h
namespace schema
open Go.RowKit rows
def Gz (base:Nat) (ob:Option Nat) (n:Nat) (ys:List Value) (w:World) (e:Ending) (w':World):Prop:=∃v',e=.returned v'/\w'.ownsRow base 26 5 v' n ys/\w.grownBy w' ob/\v'.ownBlock=ob
set_option maxRecDepth 20000 in
theorem uM (base N i:Nat) (v:Value) (xs:List Value) (w:World) (hown:w.ownsRow base 26 5 v (N+1) xs) (hi:i<=N) (hx1:∀u∈xs,u.oneCell'=true) (hn:N<=1000):
  Calls prog 124 #[v,.int .i64 i,.int .i64 ((i:Int)+1)] w (Gz base v.ownBlock N (xs.take (i*5)++xs.drop ((i+1)*5)) w):=by
 obtain ⟨i0,hi0,hz0,hz1,hz2⟩:=dP;have hxl:=hown.1;rcases hown.2 with ⟨_,h0⟩ | ⟨b,cap,cur,rfl,hbb,hB,hnc,hcm,hcs,htake⟩
 ·omega
 ·obtain ⟨C,rfl⟩:∃C:List Value,cur=C.toArray:=⟨cur.toList,by simp⟩;simp only [List.size_toArray] at hcs;have htk:C.take ((N+1)*5)=xs:=by simpa using htake
  have hX1:C.take (i*5)=xs.take (i*5):=by rw [<-htk,List.take_take,Nat.min_eq_left (Nat.mul_le_mul_right _ om_)]
  have hX2l:(xs.drop ((i+1)*5)).length=(N - i)*5:=by rw [List.length_drop,hxl,<-Nat.sub_mul];congr 1;omega
  have hX2c:∀j u,(xs.drop ((i+1)*5))[j]?=some u->C[(i+1)*5+j]?=some u:=fun j u hj=>by
   rw [List.getElem?_drop,<-htk,List.getElem?_take] at hj;split at hj
   ·exact hj
   ·cases hj
  have hX21:∀u∈xs.drop ((i+1)*5),u.oneCell'=true:=fun u hu=>hx1 u (List.mem_of_mem_drop hu)
  obtain ⟨X2,hX2⟩:∃X2,xs.drop ((i+1)*5)=X2:=⟨_,rfl⟩;rw [hX2] at hX2l hX2c hX21 ⊢;rw [<-hX1];have hOB:(Value.slice (some ⟨b,0,none⟩) (N+1) cap).ownBlock=some b:=rfl;rw [hOB];clear hOB;have c1:(i:Int)<=N:=by omega
  have c2:¬((i:Int)=(i:Int)+1):=by omega
  have c3:¬(cap=N):=by omega
  have c4:¬(cap=i):=by omega
  have hcm':cap<=9223372036854775807:=by unfold maxLen at hcm;omega
  have b2:(N:Int)<=1000:=by omega
  have t1:((i:Int)+1).toNat=i+1:=by omega
  have t2:((N:Int)+1).toNat=N+1:=by omega
  have p1:(0:Int)<=(i:Int)+1:=by omega
  have hBB:Block w b 26 C:=hB;have hz1c:∀u∈(Value.cells (.agg #[.int .i64 0,.int .i64 0,.int .i64 0,.int .i64 0,.int .i64 0])).toList,u.oneCell'=true:=by simp [Value.cells];try decide
  have h0z:0<5:=by omega
  have g3:i+(N - i)=N:=by omega
  have HB:=hid hBB;have HCS:=hid hcs;have HX2l:=hid hX2l;have HX2c:=hid hX2c;have HX21:=hid hX21;have HCM:=hid hcm;have HBB:=hid hbb;have HNC:Hid ((N+1)*5<=cap*5):=Nat.mul_le_mul_right _ hnc;clear hown hxl hx1 htake htk hX1 hX2 hX2l hX2c hX21 hB hBB hcs hcm hbb;by_cases c5:cap=i+1
  ·obtain rfl:i=N:=by omega
   subst c5;go_enter func124,ntmps124;go_wp2;refine tail.region 6 kr_ kr_ ?_;simp only [List.take_succ_cons,List.take_zero,List.drop_succ_cons,List.drop_zero];repeat (go_big_quiet_step (fail))
   refine wpQuiet_nil ?_;rintro _ ⟨nq,rfl⟩;refine eP rfl _ _ 30 rfl 26 i0 5 underlying30 hi0 hz1 b _ _ rfl C (HB.o.drewN nq) _ 0 _ rfl X2 (by have:=HX2l.o;simpa using this) (fun h=>absurd h om_) HX21.o om_ (by rw [HX2l.o,HCS.o];have:=HNC.o;omega) ?_;intro w3 h3;have HL3:Hid ((splice C (i*5) X2).length=(i+1)*5):=hid (by rw [length_splice _ _ _ (by rw [HX2l.o,HCS.o];have:=HNC.o;omega),HCS.o]);go_wp2_with (refine eF rfl _ 30 rfl 26 i0 _ 5 underlying30 hi0 hz0 (by simp [Value.cells]) hz1c h0z _ 1 _ rfl b (i*5) (splice C (i*5) X2) 26 h3.o.1 (fun _=>by simp) (by rw [HL3.o];have:=HNC.o;omega) ?_);intro Z w4 h4;go_wp2;go_ret;have hl2:(splice (splice C (i*5) X2) (i*5) Z).take (i*5)=C.take (i*5)++X2:=by
    exact t77
   refine ⟨_,rfl,iE h4.o.2.1 HBB.o om_ HCM.o (by rw [length_splice _ _ _ (by rw [HL3.o,h4.o.1];have:=HNC.o;omega),HL3.o]) hl2, ?_,rfl⟩;exact dF (v:=.slice (some ⟨b,0,none⟩) i (i+1)) (But.trans (But.drewN h3.o.2.1 0) (h4.o.2.2.1.mono (by have:=h3.o.2.2;simp at this;omega))) rfl
  ·go_enter func124,ntmps124;go_wp2;refine tail.region 6 kr_ kr_ ?_;simp only [List.take_succ_cons,List.take_zero,List.drop_succ_cons,List.drop_zero];repeat (go_big_quiet_step (fail))
   refine wpQuiet_nil ?_;rintro _ ⟨nq,rfl⟩;refine eP rfl _ _ 30 rfl 26 i0 5 underlying30 hi0 hz1 b _ _ rfl C (HB.o.drewN nq) _ (N - i) _ (by rfl) X2 HX2l.o (fun h=>⟨⟨b,(i+1)*5,none⟩,rfl,fun j u hj=>by rw [Addr.add_lit,(HB.o.drewN nq).cell];exact HX2c.o j u hj⟩) HX21.o om_ (by rw [HX2l.o,HCS.o];have:=HNC.o;omega) ?_;intro w3 h3;rw [g3];have HL3:Hid ((splice C (i*5) X2).length=cap*5):=hid (by rw [length_splice _ _ _ (by rw [HX2l.o,HCS.o];have:=HNC.o;omega),HCS.o]);go_wp2_with (refine eF rfl _ 30 rfl 26 i0 _ 5 underlying30 hi0 hz0 (by simp [Value.cells]) hz1c h0z _ 1 _ rfl b (N*5) (splice C (i*5) X2) 26 h3.o.1 (fun _=>by simp) (by rw [HL3.o];have:=HNC.o;omega) ?_);intro Z w4 h4;go_wp2;go_ret;have hl2:(splice (splice C (i*5) X2) (N*5) Z).take (N*5)=C.take (i*5)++X2:=by
    exact t77
   refine ⟨_,rfl,iE h4.o.2.1 HBB.o om_ HCM.o (by rw [length_splice _ _ _ (by rw [HL3.o,h4.o.1];have:=HNC.o;omega),HL3.o]) hl2, ?_,rfl⟩;exact dF (v:=.slice (some ⟨b,0,none⟩) N cap) (But.trans (But.drewN h3.o.2.1 0) (h4.o.2.2.1.mono (by have:=h3.o.2.2;simp at this;omega))) rfl
end schema
theorem t111{P:Prop}(h:P:=by
 rw [show (sizeOf (prog.elem 68)).run prog W=.ok 1 W by kernel_rfl];simp [Result.andThen,sliced,shift]):P:=h
namespace cut
open Go.RowKit
def shift (a:Option Addr) (k cap:Nat):Option Addr:=if cap=k then a else a.map (·.add k)
theorem BI (W:World) (a:Option Addr) (len cap k:Nat) (h:k<=len):(Instr.slice 68 (.slice a len cap) (some (.int .i64 (k:Int))) none none).run prog W=.ok (.slice (shift a k cap) (len - k) (cap - k)) W:=by
 rw [run_slice_l W 68 a len cap kr_ .i64 k om_ om_]
 exact t111
theorem G9 (W:World) (a:Option Addr) (len cap k:Nat) (h:k<=cap):(Instr.slice 68 (.slice a len cap) none (some (.int .i64 (k:Int))) none).run prog W=.ok (.slice (shift a 0 cap) k cap) W:=by
 rw [run_slice_h W 68 a len cap kr_ .i64 k om_ om_]
 exact t111
theorem uP {w:World} {a:Option Addr} {len cap k:Nat} {xs:List Nat} (h:Reads .u8 w a len xs) (hk:k<=len) (hc:len<=cap):Reads .u8 w (shift a k cap) (len - k) (xs.drop k):=by
 refine ⟨by rw [List.length_drop,h.1], ?_⟩;by_cases h0:len - k=0
 ·exact .inl h0
 ·obtain ⟨b,off,rfl,hb,hcell⟩:=h.at (i:=0) om_;refine .inr ⟨b,off+k, ?_,hb,fun i hi=> ?_⟩
  ·rw [shift,if_neg om_,Option.map_some,Addr.add_lit]
  ·have:=hcell (k+i) om_;rw [Nat.add_assoc,this,List.getD_eq_getElem?_getD,List.getD_eq_getElem?_getD,List.getElem?_drop]
theorem xh {w:World} {a:Option Addr} {len cap k:Nat} {xs:List Nat} (h:Reads .u8 w a len xs) (hk:k<=len):Reads .u8 w (shift a 0 cap) k (xs.take k):=by
 refine ⟨by rw [List.length_take,h.1];omega, ?_⟩;by_cases h0:k=0
 ·exact .inl h0
 ·obtain ⟨b,off,rfl,hb,hcell⟩:=h.at (i:=0) om_;refine .inr ⟨b,off, ?_,hb,fun i hi=> ?_⟩
  ·unfold shift;split <;> rfl
  ·have:=hcell i om_;rw [this,List.getD_eq_getElem?_getD,List.getD_eq_getElem?_getD,List.getElem?_take,if_pos hi]
end cut
namespace plan
open Go Go.RowKit
section
variable {P:Program} {md:Region.Mode} {Q:Exit->Act->World->Prop} {l:List Oper}
theorem lJ {S:World->Prop} {f:Nat} {listed:Array Bool} {a:Act} {w:World} (i:Nat) (o:Oper) (hi:l[i]?=some o) (hS:S w)
  (h:wpAnyH P md l.toArray (NoPanic Q) S f (listed.setIfInBounds i true) (a.put o.dst undef) w) (hs:Region.noSelect l.toArray=true:=by kernel_rfl) (hf:Region.free md l.toArray listed i=true:=by kernel_rfl) (hr:(Region.ready md l.toArray listed).contains i=true:=by kernel_rfl) (hw:Region.wanted o (yielded l.toArray a.tmps)=false:=by kernel_rfl):wpAnyH P md l.toArray (NoPanic Q) S (f+1) listed a w:=
 wpAnyH_take (by simpa using hi) hs hf hr (fun c a' w' h=>h) (.inr ⟨hw,rfl⟩) hS h
theorem KI {S:World->Prop} {f:Nat} {listed:Array Bool} {a:Act} {w:World} (iB iC dB dC:Nat) (oB oC:Oper) (F:FuncId) (args:Array Value) (V:Value) (t:TypeId) (cs:List Value) (n base:Nat)
  (hi:iB≠iC) (hd:dB≠dC) (lB:l[iB]?=some oB) (lC:l[iC]?=some oC) (sB:oB.dst=some dB) (sC:oC.dst=some dC)
  (wC':∀g,Region.wanted oC (yielded l.toArray (a.put (some dB) (.slice (some ⟨g,0,none⟩) n n)).tmps)=true)
  (eB:∀w,(execOp a.eval oB).run P w=.ok (.value (.slice (some ⟨w.heap.size,0,none⟩) n n)) (w.alloc (.cells cs.toArray t)))
  (eB':∀w,(execOp (a.put (some dC) V).eval oB).run P w=.ok (.value (.slice (some ⟨w.heap.size,0,none⟩) n n)) (w.alloc (.cells cs.toArray t)))
  (eC:∀w,(execOp a.eval oC).run P w=.ok (.enter F args) w) (eC':∀g w,(execOp (a.put (some dB) (.slice (some ⟨g,0,none⟩) n n)).eval oC).run P w=.ok (.enter F args) w)
  (hC:∀w,S w->Calls P F args w fun e w'=>e=.returned V/\Below w.heap.size w w')
  (hS:∀w w',S w->Below w.heap.size w w'->S w') (hz:∀w,S w->base<=w.heap.size) (h0:S w)
  (h:∀g w',S w'->Block w' g t cs->base<=g->wpAnyH P md l.toArray (NoPanic Q) S f ((listed.setIfInBounds iB true).setIfInBounds iC true) ((a.put (some dB) (.slice (some ⟨g,0,none⟩) n n)).put (some dC) V) w') (r0:Region.ready md l.toArray listed=[iB,iC]:=by kernel_rfl) (rB:Region.ready md l.toArray (listed.setIfInBounds iB true)=[iC]:=by kernel_rfl) (rC:Region.ready md l.toArray (listed.setIfInBounds iC true)=[iB]:=by kernel_rfl) (wB:Region.wanted oB (yielded l.toArray a.tmps)=true:=by kernel_rfl) (wC:Region.wanted oC (yielded l.toArray a.tmps)=true:=by kernel_rfl) (wB':Region.wanted oB (yielded l.toArray (a.put (some dC) V).tmps)=true:=by kernel_rfl):
  wpAnyH P md l.toArray (NoPanic Q) S (f+2) listed a w:=by
 have al:∀w:World,Below w.heap.size w (w.alloc (.cells cs.toArray t)):=fun w=>(Below.refl _ _).alloc (Nat.le_refl _) _
 refine wpAnyH_all r0 si_ fun i hm=> ?_
 have hm':i=iB\/i=iC:=by simpa using hm
 rcases hm' with rfl | rfl
 ·have hi':l.toArray[i]?=some oB:=by simpa using lB
  unfold wpOp;simp only [hi',wB,if_true,Oper.wp,eB,Oper.upon];refine .inl ⟨hS _ _ h0 (al w), ?_⟩;rw [sB];refine wpAnyH_all rB si_ fun j hj=> ?_
  obtain rfl:j=iC:=by simpa using hj
  have hi':l.toArray[j]?=some oC:=by simpa using lC
  unfold wpOp;simp only [hi',wC',if_true,Oper.wp,eC',Oper.upon];refine .inl ((hC _ (hS _ _ h0 (al w))).mono ?_);rintro e w' ⟨rfl,hb⟩;have hS':=hS _ _ (hS _ _ h0 (al w)) hb;refine ⟨hS', ?_⟩;rw [sC];exact h _ _ hS' ((Block.new w t cs).later hb) (hz _ h0)
 ·have hi':l.toArray[i]?=some oC:=by simpa using lC
  unfold wpOp;simp only [hi',wC,if_true,Oper.wp,eC,Oper.upon];refine .inl ((hC _ h0).mono ?_);rintro e w' ⟨rfl,hb⟩;have hS':=hS _ _ h0 hb;refine ⟨hS', ?_⟩;rw [sC];refine wpAnyH_all rC si_ fun j hj=> ?_
  obtain rfl:j=iB:=by simpa using hj
  have hi':l.toArray[j]?=some oB:=by simpa using lB
  unfold wpOp;simp only [hi',wB',if_true,Oper.wp,eB',Oper.upon];have hS'':=hS _ _ hS' (al w');refine .inl ⟨hS'', ?_⟩;rw [sB,put_comm _ dC dB _ _ hd.symm,Array.setIfInBounds_comm _ _ hi.symm];exact h _ _ hS'' (Block.new w' t cs) (hz _ hS')
theorem KO {S:World->Prop} {f:Nat} {listed:Array Bool} {a:Act} {w w1:World} (iB iC:Nat) (oB oC:Oper) (vB V:Value) (F:FuncId) (args:Array Value) (lB:l[iB]?=some oB) (lC:l[iC]?=some oC) (hS1:S w1)
  (hC:Calls P F args w fun e w'=>e=.returned V/\S w')
  (hb:wpAnyH P md l.toArray (NoPanic Q) S f (listed.setIfInBounds iB true) (a.put oB.dst vB) w1)
  (hc:∀w',S w'->wpAnyH P md l.toArray (NoPanic Q) S f (listed.setIfInBounds iC true) (a.put oC.dst V) w') (r0:Region.ready md l.toArray listed=[iB,iC]:=by kernel_rfl) (wB:Region.wanted oB (yielded l.toArray a.tmps)=true:=by kernel_rfl) (wC:Region.wanted oC (yielded l.toArray a.tmps)=true:=by kernel_rfl) (eB:(execOp a.eval oB).run P w=.ok (.value vB) w1:=by kernel_rfl) (eC:(execOp a.eval oC).run P w=.ok (.enter F args) w:=by kernel_rfl):wpAnyH P md l.toArray (NoPanic Q) S (f+1) listed a w:=by
 refine wpAnyH_all r0 si_ fun i hm=> ?_
 have hm':i=iB\/i=iC:=by simpa using hm
 rcases hm' with rfl | rfl
 ·have hi':l.toArray[i]?=some oB:=by simpa using lB
  unfold wpOp;simp only [hi',wB,if_true,Oper.wp,eB,Oper.upon];exact .inl ⟨hS1,hb⟩
 ·have hi':l.toArray[i]?=some oC:=by simpa using lC
  unfold wpOp;simp only [hi',wC,if_true,Oper.wp,eC,Oper.upon];refine .inl (hC.mono ?_);rintro e w' ⟨rfl,hS'⟩;exact ⟨hS',hc w' hS'⟩
theorem lX {o:Oper} {a:Act} {w:World} {ty:TypeId} {x y:Operand} {g:Nat} {t:TypeId} {cs:List Value} {cells:Array Value} (ho:o.op=.store ty x y)
  (hb:Block w g t cs) (hl:cs.length=cells.size) (hs:(P.info? ty).map (·.size)=some cells.size) (h1:cells.all (·.oneCell')=true) (hx:a.eval x=.pointer (some ⟨g,0,none⟩):=by kernel_rfl) (hy:a.eval y=.agg cells:=by kernel_rfl):(execOp a.eval o).run P w=.ok .skip (w.setCells g 0 cells.toList):=by
 exact t117
end
end plan
namespace plan
open Go Go.RowKit
section
variable {P:Program} {md:Region.Mode} {Q:Exit->Act->World->Prop} {l:List Oper}
theorem thenS {S:World->Prop} {f:Nat} {listed:Array Bool} {a:Act} {w w1:World} (i:Nat) (o:Oper) (hi:l[i]?=some o) (hg:o.guard=none) (hd:o.dst=none)
  (hv:(execOp a.eval o).run P w=.ok .skip w1) (hS:S w1) (h:wpAnyH P md l.toArray (NoPanic Q) S f (listed.setIfInBounds i true) a w1) (hr:Region.ready md l.toArray listed=[i]:=by kernel_rfl):wpAnyH P md l.toArray (NoPanic Q) S (f+1) listed a w:=by
 refine wpAnyH_all hr si_ fun j hj=> ?_
 obtain rfl:j=i:=by simpa using hj
 have hi':l.toArray[j]?=some o:=by simpa using hi
 have hw:Region.wanted o (yielded l.toArray a.tmps)=true:=by unfold Region.wanted;rw [hg]
 unfold wpOp;have e:a.put o.dst undef=a:=by rw [hd];rfl
 simp only [hi',hw,if_true,Oper.wp,hv,Oper.upon];exact .inl ⟨hS,by rw [e];exact h⟩
end
end plan
namespace plan
open Go Go.RowKit
section
variable {P:Program} {md:Region.Mode} {Q:Exit->Act->World->Prop} {l:List Oper}
theorem Hr {S:World->Prop} {f:Nat} {listed:Array Bool} {a:Act} {w:World} (iB iC dB dC:Nat) (oB oC:Oper) (vB vC:Value)
  (hi:iB≠iC) (hd:dB≠dC) (lB:l[iB]?=some oB) (lC:l[iC]?=some oC) (sB:oB.dst=some dB) (sC:oC.dst=some dC)
  (eB:(execOp a.eval oB).run P w=.ok (.value vB) w) (eB':(execOp (a.put (some dC) vC).eval oB).run P w=.ok (.value vB) w)
  (eC:(execOp a.eval oC).run P w=.ok (.value vC) w) (eC':(execOp (a.put (some dB) vB).eval oC).run P w=.ok (.value vC) w) (hS:S w)
  (h:wpAnyH P md l.toArray (NoPanic Q) S f ((listed.setIfInBounds iB true).setIfInBounds iC true) ((a.put (some dB) vB).put (some dC) vC) w) (r0:Region.ready md l.toArray listed=[iB,iC]:=by kernel_rfl) (rB:Region.ready md l.toArray (listed.setIfInBounds iB true)=[iC]:=by kernel_rfl) (rC:Region.ready md l.toArray (listed.setIfInBounds iC true)=[iB]:=by kernel_rfl) (wB:Region.wanted oB (yielded l.toArray a.tmps)=true:=by kernel_rfl) (wC:Region.wanted oC (yielded l.toArray a.tmps)=true:=by kernel_rfl) (wB':Region.wanted oB (yielded l.toArray (a.put (some dC) vC).tmps)=true:=by kernel_rfl) (wC':Region.wanted oC (yielded l.toArray (a.put (some dB) vB).tmps)=true:=by kernel_rfl):
  wpAnyH P md l.toArray (NoPanic Q) S (f+2) listed a w:=by
 refine wpAnyH_all r0 si_ fun i hm=> ?_
 have hm':i=iB\/i=iC:=by simpa using hm
 rcases hm' with rfl | rfl
 ·have hi':l.toArray[i]?=some oB:=by simpa using lB
  unfold wpOp;simp only [hi',wB,if_true,Oper.wp,eB,Oper.upon];refine .inl ⟨hS, ?_⟩;rw [sB];refine wpAnyH_all rB si_ fun j hj=> ?_
  obtain rfl:j=iC:=by simpa using hj
  have hi':l.toArray[j]?=some oC:=by simpa using lC
  unfold wpOp;simp only [hi',wC',if_true,Oper.wp,eC',Oper.upon];refine .inl ⟨hS, ?_⟩;rw [sC];exact h
 ·have hi':l.toArray[i]?=some oC:=by simpa using lC
  unfold wpOp;simp only [hi',wC,if_true,Oper.wp,eC,Oper.upon];refine .inl ⟨hS, ?_⟩;rw [sC];refine wpAnyH_all rC si_ fun j hj=> ?_
  obtain rfl:j=iB:=by simpa using hj
  have hi':l.toArray[j]?=some oB:=by simpa using lB
  unfold wpOp;simp only [hi',wB',if_true,Oper.wp,eB',Oper.upon];refine .inl ⟨hS, ?_⟩;rw [sB,put_comm _ dC dB _ _ hd.symm,Array.setIfInBounds_comm _ _ hi.symm];exact h
theorem halt {P:Program} {Q:Exit->Act->World->Prop} {ops:Array Oper} {rest:List Oper} {op:Oper} {a:Act} {w:World} (ty t:TypeId) (k:Tmp) (c:Value) (ho:op.op=.binOp .eql ty (.tmp k) (.const c) t) (h:Hid (wpList P ops Q (op :: rest) a w)):wpList P ops Q (op :: rest) a w:=h
end
end plan
end Go.Proofs.YtdnegbkhndekpaaGreat
