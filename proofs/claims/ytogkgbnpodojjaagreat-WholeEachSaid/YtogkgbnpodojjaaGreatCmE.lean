/- Contracts and lemmas that claims of this seat share: IntRows, FieldRows, FormShape, PenMath, BitsLen, ItemMath, Cross, Late, Drift, RegionS, LateS, RowOps, Str, PlanPair, PlanThen, PlanReads, FormOpen. Each says its own conditions. -/
import Derived.Test.YtogkgbnpodojjaaGreatCmWord
import Derived.Deep.Slices
import Derived.Deep.Strs
import Derived.Lib.SmallJoins
import Derived.IntWalk
import Derived.Laws.Strings
import Derived.Laws.CopyOwn
import Derived.Lib.AppendZerosOnto
import Derived.Lib.AppendZeros
import Derived.Lib.Overlaps
import Derived.Laws.BytesArg
import Derived.Laws.Concat
import Derived.Test.YtogkgbnpodojjaaGreatCmA
import Derived.Test.YtogkgbnpodojjaaGreatCmB
import Derived.Test.YtogkgbnpodojjaaGreatCmC
set_option linter.unusedVariables false
namespace Go.Proofs.YtogkgbnpodojjaaGreat
open Go.Proofs.Tryz
namespace step
open Go.ChangeShapes Go.WideShapes Go.ChangeAt Go.RowKit Go.Deep
def Ins (w:World) (a:Option Addr) (l:List Int):Prop:=
 l=[]\/∃b off,a=some ⟨b,off,none⟩/\b<w.heap.size/\∀(i:Nat) (n:Int),l[i]?=some n->w.cell? ⟨b,off+i,none⟩=some (.int .i64 n)
theorem Ins.below {w w':World} {a:Option Addr} {l:List Int} (h:Ins w a l) (hb:Below w.heap.size w w'):Ins w' a l:=by
 rcases h with h | ⟨b,off,ha,hlt,hc⟩
 ·exact .inl h
 ·refine .inr ⟨b,off,ha,Nat.lt_of_lt_of_le hlt hb.size,fun i p hp=> ?_⟩;rw [hb.cell (p:=⟨b,off+i,none⟩) hlt];exact hc i p hp
theorem Ins.at {w:World} {a:Option Addr} {l:List Int} (h:Ins w a l) {i:Nat} (hi:i<l.length):
  ∃b off p,a=some ⟨b,off,none⟩/\b<w.heap.size/\l[i]?=some p/\w.cell? ⟨b,off+i,none⟩=some (.int .i64 p):=by
 rcases h with rfl | ⟨b,off,ha,hlt,hc⟩
 ·simp at hi
 ·have hp:=List.getElem?_eq_getElem hi;exact ⟨b,off,_,ha,hlt,hp,hc i _ hp⟩
def vU (n:Int):Prop:= -9223372036854775808<=n/\n<=9223372036854775807
section
variable {H:Type} {enc:TypeId×Value->H} {P:Program} {W:World}
def Fp (P:Program) (t:TypeId):Prop:=∃e,P.underlying t=some (.slice e)/\P.underlying e=some (.int .i64)/\P.cellsOf e=1
theorem Ce {t:TypeId} {v:Value} {fuel:Nat} {y:DataW H×List MemPlace} (hR:Fp P t)
  (hf:DataW.trod enc P W 0 (fun _=>true) true fuel t [v]=some y):
  ∃(a:Option Addr) (cap:Nat) (M:List Int),v=.slice a M.length cap/\Ins W a M/\(∀x∈M,vU x)/\M.length<=cap/\cap<=maxLen:=by
 obtain ⟨e,ht,he,hc⟩:=hR;rcases open_ints ht he hc hf with ⟨hcs,_⟩ | ⟨x,l,c,zs,hcs,_,hl,hm,hz,hx,hcell,hwz⟩
 ·exact ⟨none,0,[],by simpa using hcs,.inl rfl,by simp,Nat.le_refl _,by unfold maxLen;omega⟩
 ·simp only [if_true] at hz;have hlen:(zs.take l).length=l:=by simp;omega
  refine ⟨some x,c,zs.take l,by rw [hlen];simpa using hcs, ?_,fun y hy=>wf_i64 _ (hwz _ (List.mem_of_mem_take hy)),by rw [hlen];exact hl,hm⟩;by_cases h:l=0
  ·exact .inl (by subst h;rfl)
  ·right;obtain ⟨b,off,spot⟩:=x;have hspot:spot=none:=by simpa [Addr.add] using World.cell?_spot (hcell 0 om_)
   subst hspot;have hb:b<W.heap.size:=by
    have:=World.block_lt_of_cell? W _ (hcell 0 om_);simpa [Addr.add] using this
   refine ⟨b,off,rfl,hb,fun i n hi=> ?_⟩;have hil:i<l:=by have:=(List.getElem?_eq_some_iff.1 hi).1;omega
   have h1:=hcell i om_;rw [Addr.add_lit] at h1;rw [h1];have hi':i<zs.length:=by omega
   rw [List.getElem?_take,if_pos hil] at hi;simp [List.getD,hi]
end
theorem L9:Fp prog 55:=⟨_,underlying55,by kernel_rfl,by kernel_rfl⟩
end step
theorem t42{P:Prop}(h:P:=by
 rcases open_slice ht h with ⟨hcs,_⟩ | ⟨A,len,cap,m,n1,D,Pl,hcs,_⟩
 ·exact ⟨none,0,0,by simpa using hcs⟩
 ·exact ⟨_,_,_,by simpa using hcs⟩):P:=h
namespace field
open Go.ChangeShapes Go.WideShapes Go.ChangeAt Go.RowKit Go.Deep
def wK (P:Program) (t:TypeId):Prop:=∃(e:TypeId) (f0 f1 f2 f3 f4:Field),P.underlying t=some (.slice e)/\P.underlying e=some (.struct #[f0,f1,f2,f3,f4])/\oneCellFields P #[f0,f1,f2,f3,f4]=true/\P.cellsOf e=5/\P.underlying f0.type=some (.int .i64)/\P.underlying f1.type=some (.int .i64)/\P.underlying f2.type=some (.int .i64)/\P.underlying f3.type=some (.int .i64)/\P.underlying f4.type=some (.int .i64)
theorem uX {H:Type} {enc:TypeId×Value->H} {P:Program} {W:World} {t:TypeId} {v:Value} {n:Nat} {y:DataW H×List MemPlace} (hR:wK P t) (h:DataW.trod enc P W 0 (fun _=>true) true n t [v]=some y):∃a cap L,v=.slice a (List.length L) cap/\Fds W a L/\(∀p∈L,p.Good W)/\L.length<=cap/\cap<=maxLen:=by
 obtain ⟨e,f0,f1,f2,f3,f4,ht,he,hone,hC,u0,u1,u2,u3,u4⟩:=hR;have hv:∃a len cap,v=.slice a len cap:=by
  exact t42
 obtain ⟨a,len,cap,rfl⟩:=hv;obtain ⟨L,rfl,h1,h2,h3,h4⟩:=GY ht he hone hC u0 u1 u2 u3 u4 (W:=W) (enc:=enc) (d:=y.1) (pl:=y.2) ⟨n,by simpa [Value.cells] using h⟩;exact ⟨a,cap,L,rfl,h1,h2,h3,h4⟩
theorem Jr:wK prog 47:=⟨_,_,_,_,_,_,underlying47,underlying52,by kernel_rfl,by kernel_rfl,by kernel_rfl,by kernel_rfl,by kernel_rfl,by kernel_rfl,by kernel_rfl⟩
end field
theorem t105{P:Prop}(h:P:=by
 exact ⟨⟨x0,q1,c1,M1⟩,⟨trivial,a0,hr1,hM1,hl1,hc1⟩,by simpa using e0,rfl⟩):P:=h
namespace schema
open Go.ChangeShapes Go.WideShapes Go.ChangeAt Go.RowKit Go.Deep
structure Fm where
 (id:Int) (f:Option Addr) (fCap:Nat) (fL:List field.Fd)
instance:Inhabited Fm:=⟨⟨0,none,0,[]⟩⟩
structure Fm.Good (W:World) (p:Fm):Prop where
 unit:True
 bid: -9223372036854775808<=p.id/\p.id<=9223372036854775807
 rf:field.Fds W p.f p.fL
 mf:∀y∈p.fL,y.Good W
 cf:p.fL.length<=p.fCap
 df:p.fCap<=maxLen
theorem Fm.Good.below {W W':World} {p:Fm} (h:p.Good W) (hb:Below W.heap.size W W'):p.Good W':=⟨h.unit,h.bid,h.rf.below hb,fun y hy=>(h.mf y hy).below hb,h.cf,h.df⟩
section
variable {H:Type} {enc:TypeId×Value->H} {P:Program} {W:World}
theorem Fj {t0 t1:TypeId} {n:Nat} {v0 v1:Value} {y0 y1:DataW H×List MemPlace} (u0:P.underlying t0=some (.int .i64)) (u1:field.wK P t1)
  (h0:DataW.trod enc P W 0 (fun _=>true) true n t0 [v0]=some y0) (h1:DataW.trod enc P W 0 (fun _=>true) true n t1 [v1]=some y1):
  ∃p:Fm,p.Good W/\v0=.int .i64 p.id/\v1=.slice p.f p.fL.length p.fCap:=by
 obtain ⟨x0,e0,_,w0⟩:=DataW.trod_int u0 h0;have a0:=wf_i64 _ w0;obtain ⟨q1,c1,M1,rfl,hr1,hM1,hl1,hc1⟩:=field.uX u1 h1
 exact t105
def Fms (w:World) (a:Option Addr) (l:List Fm):Prop:=
 l=[]\/∃b off,a=some ⟨b,off,none⟩/\b<w.heap.size/\∀i p,l[i]?=some p->w.cell? ⟨b,off+i*2,none⟩=some (.int .i64 p.id)/\w.cell? ⟨b,off+i*2+1,none⟩=some (.slice p.f p.fL.length p.fCap)
theorem GZ {t e:TypeId} {f0 f1:Field} {a:Option Addr} {len cap:Nat} {d:DataW H} {pl:List MemPlace} (ht:P.underlying t=some (.slice e)) (he:P.underlying e=some (.struct #[f0,f1])) (hone:oneCellFields P #[f0,f1]=true) (hC:P.cellsOf e=2)
  (u0:P.underlying f0.type=some (.int .i64)) (u1:field.wK P f1.type)
  (h0:DataW.Trod enc P W 0 (fun _=>true) true t (.slice a len cap) d pl):∃l:List Fm,len=l.length/\Fms W a l/\(∀p∈l,p.Good W)/\len<=cap/\cap<=maxLen:=by
 obtain ⟨fuel,hf⟩:=h0;have hf2:DataW.trod enc P W 0 (fun _=>true) true fuel t [.slice a len cap]=some (d,pl):=by simpa [Value.cells] using hf
 rcases open_slice ht hf2 with ⟨hcs,_⟩ | ⟨A,len',cap',q,n,D,Pl,hcs,_,hlc,hcm,hm,hx0,hrow⟩
 ·exact t53
 ·simp at hcs;obtain ⟨rfl,rfl,rfl⟩:=hcs;simp only [if_true] at hm;have each:∀r,r<len->∃p:Fm,p.Good W/\W.cell? (A.add (r*2))=some (.int .i64 p.id)/\W.cell? (A.add (r*2+1))=some (.slice p.f p.fL.length p.fCap):=by
   intro r hr;obtain ⟨cs',h1,h2⟩:=hrow r om_;rw [hC] at h1;obtain ⟨_,hlen0,hcell⟩:=World.cells?_some h1;obtain ⟨ys,m,_,_,hl,hlen,hx⟩:=DataW.trod_struct he h2;rw [hC] at hl;match cs',hl with
   | [c0,c1],_=>
    have each:∀(i:Nat) (f:Field) (c:Value),#[f0,f1][i]?=some f->[c0,c1][i]?=some c->∃y,DataW.trod enc P W 0 (fun _=>true) true m f.type [c]=some y:=by
     intro i f c hi hc;obtain ⟨o,k⟩:=hone_of hone i f hi;have hi6:i<2:=by have:=(Array.getElem?_eq_some_iff.1 hi).1;simpa using this
     have h1:=hx i f hi;rw [o,k] at h1;have e:(([c0,c1].drop i).take 1)=[c]:=by
      rw [List.take_one];have:([c0,c1].drop i).head?=some c:=by
       rw [List.head?_drop];simpa using hc
      rw [this];rfl
     exact t80
    obtain ⟨y0,g0⟩:=each 0 f0 c0 rfl rfl;obtain ⟨y1,g1⟩:=each 1 f1 c1 rfl rfl;obtain ⟨p,hp,rfl,rfl⟩:=Fj u0 u1 g0 g1;have k0:=hcell 0 om_;have k1:=hcell 1 om_;rw [add_add] at k0 k1;exact ⟨p,hp,by simpa using k0,by simpa using k1⟩
  obtain ⟨y,hy⟩:=choose_lt each;refine ⟨(List.range len).map y,by simp, ?_, ?_,by omega,hcm⟩
  ·by_cases hz:len=0
   ·subst hz;exact .inl rfl
   ·right;obtain ⟨b,off,spot⟩:=A;have hc0:=(hy 0 om_).2.1;have hspot:spot=none:=by simpa [Addr.add] using World.cell?_spot hc0
    subst hspot;have hb:b<W.heap.size:=by
     exact t79
    refine ⟨b,off,rfl,hb,fun i p hp=> ?_⟩;have hi:i<len:=by have:=(List.getElem?_eq_some_iff.1 hp).1;simpa using this
    simp [hi] at hp;subst hp;obtain ⟨_,e50,e51⟩:=hy i hi;rw [Addr.add_lit] at e50 e51;exact ⟨e50,by rw [Nat.add_assoc];exact e51⟩
  ·exact t66
end
theorem Fms.below {w w':World} {a:Option Addr} {l:List Fm} (h:Fms w a l) (hb:Below w.heap.size w w'):Fms w' a l:=by
 rcases h with h | ⟨b,off,ha,hlt,hc⟩
 ·exact .inl h
 ·refine .inr ⟨b,off,ha,Nat.lt_of_lt_of_le hlt hb.size,fun i p hp=> ?_⟩;rw [hb.cell (p:=⟨b,off+i*2,none⟩) hlt,hb.cell (p:=⟨b,off+i*2+1,none⟩) hlt];exact hc i p hp
theorem Fms.at {w:World} {a:Option Addr} {l:List Fm} (h:Fms w a l) {i:Nat} (hi:i<l.length):
  ∃b off p,a=some ⟨b,off,none⟩/\b<w.heap.size/\l[i]?=some p/\w.cell? ⟨b,off+i*2,none⟩=some (.int .i64 p.id)/\w.cell? ⟨b,off+i*2+1,none⟩=some (.slice p.f p.fL.length p.fCap):=by
 rcases h with rfl | ⟨b,off,ha,hlt,hc⟩
 ·simp at hi
 ·have hp:=List.getElem?_eq_getElem hi;exact ⟨b,off,_,ha,hlt,hp,hc i _ hp⟩
def CY (P:Program) (t:TypeId):Prop:=∃(e:TypeId) (f0 f1:Field),P.underlying t=some (.slice e)/\P.underlying e=some (.struct #[f0,f1])/\oneCellFields P #[f0,f1]=true/\P.cellsOf e=2/\P.underlying f0.type=some (.int .i64)/\field.wK P f1.type
theorem Cc {H:Type} {enc:TypeId×Value->H} {P:Program} {W:World} {t:TypeId} {v:Value} {n:Nat} {y:DataW H×List MemPlace} (hR:CY P t) (h:DataW.trod enc P W 0 (fun _=>true) true n t [v]=some y):∃a cap L,v=.slice a (List.length L) cap/\Fms W a L/\(∀p∈L,p.Good W)/\L.length<=cap/\cap<=maxLen:=by
 obtain ⟨e,f0,f1,ht,he,hone,hC,u0,u1⟩:=hR;have hv:∃a len cap,v=.slice a len cap:=by
  exact t42
 obtain ⟨a,len,cap,rfl⟩:=hv;obtain ⟨L,rfl,h1,h2,h3,h4⟩:=GZ ht he hone hC u0 u1 (W:=W) (enc:=enc) (d:=y.1) (pl:=y.2) ⟨n,by simpa [Value.cells] using h⟩;exact ⟨a,cap,L,rfl,h1,h2,h3,h4⟩
end schema
namespace pen
def vb (x:Nat):List Nat:=if h:x<128 then [x] else (128+x % 128) :: vb (x / 128)
 termination_by x
 decreasing_by omega
def grp:Nat->Nat->List Nat->Nat×Nat×Nat
 | _,_,[]=>(0,0,5)
 | i,u,c :: r=>if i=9/\1<c then (0,0,4) else if 0<i/\c=0 then (0,0,4) else if c<128 then (u+c*128 ^ i,i+1,0) else grp (i+1) (u+(c - 128)*128 ^ i) r
def zig (n:Int):Nat:=if n<0 then (2*(-n - 1)+1).toNat else (2*n).toNat
def Lj (u:Nat):Int:=if u % 2=1 then -((u / 2:Nat):Int) - 1 else ((u / 2:Nat):Int)
def wb (x:Nat):List Nat:=[x / 16777216,x / 65536 % 256,x / 256 % 256,x % 256]
def nums (s:List UInt8):List Nat:=s.map UInt8.toNat
abbrev Piece:=Int×Int×List UInt8
def enc (p:Piece):List Nat:=
 if p.1=0 then [(p.2.1 % 256).toNat] else if p.1=1 then (if p.2.1<0 then [] else vb p.2.1.toNat) else if p.1=2 then vb (zig p.2.1) else if p.1=3 then wb (p.2.1 % 4294967296).toNat
 else vb p.2.2.length++nums p.2.2
abbrev Sight:=List Nat×Nat
def D7 (n:Nat) (s:Sight):List Nat×Sight:=if s.2≠0 then ([],s) else if s.1.length<n then ([],(s.1,5)) else (s.1.take n,(s.1.drop n,0))
def Ko (fits most:Nat) (s:Sight):Nat×Sight:=
 if s.2≠0 then (0,s) else if (grp 0 0 s.1).2.2≠0 then (0,(s.1,(grp 0 0 s.1).2.2)) else if fits<(grp 0 0 s.1).1 then (0,(s.1,4)) else if most<(grp 0 0 s.1).1 then (0,(s.1,7))
 else ((grp 0 0 s.1).1,(s.1.drop (grp 0 0 s.1).2.1,0))
def bY (most:Int) (s:Sight):Nat×Sight:=Ko 9223372036854775807 (max most 0).toNat s
def eInt (s:Sight):Int×Sight:=(Lj (Ko 18446744073709551615 18446744073709551615 s).1,(Ko 18446744073709551615 18446744073709551615 s).2)
def Jo (most:Int) (s:Sight):List Nat×Sight:=
 ((D7 (bY most s).1 (bY most s).2).1,if (D7 (bY most s).1 (bY most s).2).2.2≠0 then (s.1,(D7 (bY most s).1 (bY most s).2).2.2) else (D7 (bY most s).1 (bY most s).2).2)
end pen
theorem t113{P:Prop}(h:P:=by
 rw [IntWalk.wrap64_in (q:Int) om_,IntWalk.wrap64_in _ om_]):P:=h
namespace field
open Go.RowKit
theorem jO {p:Prop} [Decidable p] (h:¬p):decide p=false:=decide_eq_false h
theorem wrap_u8 {x:Int} {n:Nat} (h:x=(n:Int)) (hn:n<256):IntKind.u8.wrap x=(n:Int):=by subst h;simp [IntKind.wrap,IntKind.bits,IntKind.signed];omega
theorem qw {q:Nat} (a:Int) (h0:0<=a) (ha:a<=40) (hq:q<=8):wrap64 (a+wrap64 (q:Int))=a+(q:Int):=by
 exact t113
theorem IV {q:Nat} (hq:q<=8):wrap64 (wrap64 (q:Int))=(q:Int):=by
 exact t113
set_option maxRecDepth 1000000 in
set_option maxHeartbeats 4000000 in
theorem Ez (x:Nat) (hx:x<281474976710656) (w:World):
  Calls prog 112 #[.int .u64 (x:Int)] w fun e w'=>∃L:Nat,e=.returned (.int .i64 (L:Int))/\L<=64/\(L+7) / 8=wide x/\∃n,w'=w.drewN n:=by
 go_enter func112,ntmps112;generalize hT:ByteArray.mk _=T;have hs:T.size=256:=by rw [<-hT];decide+kernel
 have ht0:∀i:Fin 256,(T.data.getD i.val 0).toNat<=8/\((T.data.getD i.val 0).toNat=0↔i.val=0):=by rw [<-hT];decide+kernel
 have ht:∀(i:Nat) (h:i<T.size),i<256->(T[i]'h).toNat<=8/\((T[i]'h).toNat=0↔i=0):=fun i h hi=>by
  have:=ht0 ⟨i,hi⟩;have h':i<T.data.size:=h;simp only [Array.getD,h',dif_pos] at this;exact this
 have HT:=hid ht;have HS:=hid hs;have hT1:∀i:Nat,i<256->(i:Int)<T.size:=fun i hi=>by rw [hs];omega
 have HT1:=hid hT1;have HX:=hid hx;clear hT hs ht ht0 hT1 hx;by_cases c0:x<256
 ·have hw:wide x=if x=0 then 0 else 1:=by unfold wide;rw [if_pos c0]
  have HW:=hid hw;obtain ⟨y,hy⟩:∃y,Hid (x / 1=y):=⟨_,rfl⟩;have gV:y<256:=by have:=hy.o;have:=HX.o;omega
  have j0:(0:Int)<=(y:Int):=by omega
  have j1:=HT1.o y gV;have eY:¬(x:Int)≥4294967296:=by have:=HX.o;omega
  have nM:=jO eY;have mD:¬(x:Int)≥65536:=by have:=HX.o;omega
  have CU:=jO mD;have t256:¬(x:Int)≥256:=by have:=HX.o;omega
  have u256:=jO t256;have hwr:IntKind.u8.wrap ((x:Int))=(y:Int):=wrap_u8 (by have:=hy.o;omega) gV;clear hw;clear c0;go_wp2;go_ret;have b:=HT.o y (by have:=HS.o;omega) gV;refine ⟨0+(T[y]'(by have:=HS.o;omega)).toNat,iZ ((IV b.1).trans om_),by omega, ?_,0,rfl⟩;rw [HW.o];have:=hy.o;split <;> omega
 by_cases c1:x<65536
 ·have hw:wide x=2:=by have:=HX.o;unfold wide;rw [if_neg om_];rw [if_neg om_];rw [if_pos om_]
  have HW:=hid hw;obtain ⟨y,hy⟩:∃y,Hid (x / 256=y):=⟨_,rfl⟩;have gV:y<256:=by have:=hy.o;have:=HX.o;omega
  have j0:(0:Int)<=(y:Int):=by omega
  have j1:=HT1.o y gV;have eY:¬(x:Int)≥4294967296:=by have:=HX.o;omega
  have nM:=jO eY;have mD:¬(x:Int)≥65536:=by have:=HX.o;omega
  have CU:=jO mD;have t256:(x:Int)≥256:=by have:=HX.o;omega
  have hwr:IntKind.u8.wrap ((x:Int) / 256)=(y:Int):=wrap_u8 (by have:=hy.o;omega) gV;clear hw;clear c0 c1;go_wp2;go_ret;have b:=HT.o y (by have:=HS.o;omega) gV;refine ⟨8+(T[y]'(by have:=HS.o;omega)).toNat,iZ ((qw 8 om_ om_ b.1).trans om_),by omega, ?_,0,rfl⟩;rw [HW.o];have:=hy.o;omega
 by_cases c2:x<16777216
 ·have hw:wide x=3:=by have:=HX.o;unfold wide;rw [if_neg om_];rw [if_neg om_];rw [if_neg om_];rw [if_pos om_]
  have HW:=hid hw;obtain ⟨y,hy⟩:∃y,Hid (x / 65536=y):=⟨_,rfl⟩;have gV:y<256:=by have:=hy.o;have:=HX.o;omega
  have j0:(0:Int)<=(y:Int):=by omega
  have j1:=HT1.o y gV;have eY:¬(x:Int)≥4294967296:=by have:=HX.o;omega
  have nM:=jO eY;have mD:(x:Int)≥65536:=by have:=HX.o;omega
  have t256:¬(x:Int) / 65536≥256:=by have:=HX.o;omega
  have u256:=jO t256;have hwr:IntKind.u8.wrap ((x:Int) / 65536)=(y:Int):=wrap_u8 (by have:=hy.o;omega) gV;clear hw;clear c0 c1 c2;go_wp2;go_ret;have b:=HT.o y (by have:=HS.o;omega) gV;refine ⟨16+(T[y]'(by have:=HS.o;omega)).toNat,iZ ((qw 16 om_ om_ b.1).trans om_),by omega, ?_,0,rfl⟩;rw [HW.o];have:=hy.o;omega
 by_cases c3:x<4294967296
 ·have hw:wide x=4:=by have:=HX.o;unfold wide;rw [if_neg om_];rw [if_neg om_];rw [if_neg om_];rw [if_neg om_];rw [if_pos om_]
  have HW:=hid hw;obtain ⟨y,hy⟩:∃y,Hid (x / 16777216=y):=⟨_,rfl⟩;have gV:y<256:=by have:=hy.o;have:=HX.o;omega
  have j0:(0:Int)<=(y:Int):=by omega
  have j1:=HT1.o y gV;have eY:¬(x:Int)≥4294967296:=by have:=HX.o;omega
  have nM:=jO eY;have mD:(x:Int)≥65536:=by have:=HX.o;omega
  have t256:(x:Int) / 65536≥256:=by have:=HX.o;omega
  have hwr:IntKind.u8.wrap ((x:Int) / 65536 / 256)=(y:Int):=wrap_u8 (by have:=hy.o;omega) gV;clear hw;clear c0 c1 c2 c3;go_wp2;go_ret;have b:=HT.o y (by have:=HS.o;omega) gV;refine ⟨24+(T[y]'(by have:=HS.o;omega)).toNat,iZ ((qw 24 om_ om_ b.1).trans om_),by omega, ?_,0,rfl⟩;rw [HW.o];have:=hy.o;omega
 by_cases c4:x<1099511627776
 ·have hw:wide x=5:=by have:=HX.o;unfold wide;rw [if_neg om_];rw [if_neg om_];rw [if_neg om_];rw [if_neg om_];rw [if_neg om_];rw [if_pos om_]
  have HW:=hid hw;obtain ⟨y,hy⟩:∃y,Hid (x / 4294967296=y):=⟨_,rfl⟩;have gV:y<256:=by have:=hy.o;have:=HX.o;omega
  have j0:(0:Int)<=(y:Int):=by omega
  have j1:=HT1.o y gV;have eY:(x:Int)≥4294967296:=by have:=HX.o;omega
  have mD:¬(x:Int) / 4294967296≥65536:=by have:=HX.o;omega
  have CU:=jO mD;have t256:¬(x:Int) / 4294967296≥256:=by have:=HX.o;omega
  have u256:=jO t256;have hwr:IntKind.u8.wrap ((x:Int) / 4294967296)=(y:Int):=wrap_u8 (by have:=hy.o;omega) gV;clear hw;clear c0 c1 c2 c3 c4;go_wp2;go_ret;have b:=HT.o y (by have:=HS.o;omega) gV;refine ⟨32+(T[y]'(by have:=HS.o;omega)).toNat,iZ ((qw 32 om_ om_ b.1).trans om_),by omega, ?_,0,rfl⟩;rw [HW.o];have:=hy.o;omega
 have hw:wide x=6:=by have:=HX.o;unfold wide;rw [if_neg om_];rw [if_neg om_];rw [if_neg om_];rw [if_neg om_];rw [if_neg om_];rw [if_neg om_]
 have HW:=hid hw;obtain ⟨y,hy⟩:∃y,Hid (x / 1099511627776=y):=⟨_,rfl⟩;have gV:y<256:=by have:=hy.o;have:=HX.o;omega
 have j0:(0:Int)<=(y:Int):=by omega
 have j1:=HT1.o y gV;have eY:(x:Int)≥4294967296:=by have:=HX.o;omega
 have mD:¬(x:Int) / 4294967296≥65536:=by have:=HX.o;omega
 have CU:=jO mD;have t256:(x:Int) / 4294967296≥256:=by have:=HX.o;omega
 have hwr:IntKind.u8.wrap ((x:Int) / 4294967296 / 256)=(y:Int):=wrap_u8 (by have:=hy.o;omega) gV;clear hw;clear c0 c1 c2 c3 c4;go_wp2;go_ret;have b:=HT.o y (by have:=HS.o;omega) gV;refine ⟨40+(T[y]'(by have:=HS.o;omega)).toNat,iZ ((qw 40 om_ om_ b.1).trans om_),by omega, ?_,0,rfl⟩;rw [HW.o];have:=hy.o;omega
theorem len_any (x:Nat) (hx:x<281474976710656) (w:World):
  Calls prog 58 #[.int .u64 (x:Int)] w fun e w'=>∃L:Nat,e=.returned (.int .i64 (L:Int))/\L<=64/\(L+7) / 8=wide x/\∃n,w'=w.drewN n:=by
 have cl:=Ez x hx;have HX:=hid hx;clear hx;go_enter func58,ntmps58;go_wp2_with (go_at_call 112;(with_reducible refine (cl _).mono ?_);rintro e w' ⟨L,rfl,h1,h2,m,rfl⟩);go_ret;exact ⟨L,rfl,h1,h2,m,rfl⟩
end field
namespace item
open Go.RowKit
instance:DecidableEq It:=fun a b=>
 if h:a.key=b.key/\a.data.toList=b.data.toList then isTrue (by
  obtain ⟨n,⟨⟨s⟩⟩⟩:=a;obtain ⟨m,⟨⟨t⟩⟩⟩:=b;obtain ⟨h1,h2⟩:=h;simp only at h1 h2;rw [ByteArray.toList_eq,ByteArray.toList_eq] at h2;simp only at h2;subst h1 h2;rfl) else isFalse (by rintro rfl;simp at h)
def oD (L:List It) (i:Nat):Bool:=match L[i]? with
 | none=>true
 | some p=>decide (p.data.size<=64) && (i == 0 || match L[i - 1]? with | none=>true | some q=>decide (q.key<p.key))
def Right (L:List It):Prop:=∀i<L.length,oD L i=true
instance (L:List It):Decidable (Right L):=by unfold Right;exact inferInstance
def find (k:Nat) (L:List It):Option It:=L.find? (fun p=>p.key == k)
def data (o:Option It):ByteArray:=match o with | none=>⟨#[]⟩ | some p=>p.data
def put (L:List It) (x:It):List It:=L.filter (fun p=>decide (p.key<x.key))++x :: L.filter (fun p=>decide (x.key<p.key))
def fits (f i:Int):Prop:=0<=f/\f<=200/\0<=i/\i<=65535
instance (f i:Int):Decidable (fits f i):=by unfold fits;exact inferInstance
theorem iO (L:List It):Right L↔(∀p∈L,p.data.size<=64)/\L.Pairwise (fun a b=>a.key<b.key):=by
 constructor
 ·intro h;have h1:∀i (hi:i<L.length),(L[i]).data.size<=64:=by
   intro i hi;have:=h i hi;unfold oD at this;rw [List.getElem?_eq_getElem hi] at this;simp only [Bool.and_eq_true,decide_eq_true_eq] at this;exact this.1
  have h2:∀i (hi:i+1<L.length),(L[i]).key<(L[i+1]).key:=by
   intro i hi;have:=h (i+1) hi;unfold oD at this;rw [List.getElem?_eq_getElem hi] at this;simp only [Nat.add_sub_cancel,List.getElem?_eq_getElem (show i<L.length by omega),Bool.and_eq_true,decide_eq_true_eq,Bool.or_eq_true] at this;rcases this.2 with h | h
   ·simp at h
   ·exact h
  refine ⟨fun p hp=> ?_, ?_⟩
  ·obtain ⟨i,hi,rfl⟩:=List.mem_iff_getElem.1 hp;exact h1 i hi
  ·rw [List.pairwise_iff_getElem];intro i j hi hj hij;have key:∀d (hd:i+1+d<L.length),(L[i]).key<(L[i+1+d]).key:=by
    intro d;induction d with
    | zero=>intro hd;exact h2 i hd
    | succ d ih=>intro hd;exact Nat.lt_trans (ih om_) (h2 (i+1+d) hd)
   have:=key (j - i - 1) om_;simpa [show i+1+(j - i - 1)=j by omega] using this
 ·rintro ⟨h1,h2⟩ i hi;unfold oD;rw [List.getElem?_eq_getElem hi];simp only [Bool.and_eq_true,decide_eq_true_eq,Bool.or_eq_true];refine ⟨h1 _ (List.getElem_mem hi), ?_⟩;by_cases h0:i=0
  ·left;simp [h0]
  ·right;rw [List.getElem?_eq_getElem (show i - 1<L.length by omega)];exact decide_eq_true ((List.pairwise_iff_getElem.1 h2) (i - 1) i om_ hi om_)
theorem rH {L:List It} {f:It->Bool} {k:Nat} (h:∀p∈L,p.key=k->f p=true):find k (L.filter f)=find k L:=by
 unfold find;induction L with
 | nil=>rfl
 | cons p L ih=>
  have ih:=ih (fun q hq=>h q (List.mem_cons_of_mem _ hq));rw [List.filter_cons];by_cases hk:p.key=k
  ·rw [if_pos (h p (List.mem_cons_self ..) hk),List.find?_cons,List.find?_cons];simp [hk]
  ·have hk':(p.key == k)=false:=by rw [beq_eq_false_iff_ne];exact hk
   rw [List.find?_cons,hk'];by_cases hf:f p=true
   ·rw [if_pos hf,List.find?_cons,hk'];exact ih
   ·rw [if_neg hf];exact ih
def bK (L:List It):List It:=L.filter (fun p=>decide (p.key<16777216))
def sides (L:List It):List It:=L.filter (fun p=> !(decide (p.key<16777216)))
theorem aH {α:Type} {L:List α} {k:Nat} {p:α} (h:L[k]?=some p):L.take (k+1)=L.take k++[p]:=by
 rw [List.take_add_one,h];rfl
theorem lQ {α:Type} {L:List α} {f:α->Bool} {k:Nat} {p:α} (h:L[k]?=some p) (hf:f p=true):(L.take (k+1)).filter f=(L.take k).filter f++[p]:=by
 rw [aH h,List.filter_append];simp [hf]
theorem nR {α:Type} {L:List α} {f:α->Bool} {k:Nat} {p:α} (h:L[k]?=some p) (hf:f p=false):(L.take (k+1)).filter f=(L.take k).filter f:=by
 rw [aH h,List.filter_append];simp [hf]
theorem zL {α:Type} {L:List α} {f:α->Bool} {k:Nat} {p:α} (h:L[k]?=some p) (h0:(L.take k).find? f=none) (hf:f p=true):L.find? f=some p:=by
 rw [<-List.take_append_drop k L,List.find?_append,h0];have hk:=(List.getElem?_eq_some_iff.1 h).1;rw [List.drop_eq_getElem_cons hk,(List.getElem?_eq_some_iff.1 h).2];simp [hf]
theorem IG {α:Type} {L:List α} {f:α->Bool} {k:Nat} {p:α} (h:L[k]?=some p) (h0:(L.take k).find? f=none) (hf:f p=false):(L.take (k+1)).find? f=none:=by
 rw [aH h,List.find?_append,h0];simp [hf]
end item
namespace plan
open Go Go.RowKit
section
variable {P:Program} {md:Region.Mode} {Q:Exit->Act->World->Prop} {l:List Oper}
end
end plan
namespace plan
open Go Go.RowKit
section
variable {P:Program} {md:Region.Mode} {Q:Exit->Act->World->Prop} {l:List Oper}
end
end plan
namespace plan
open Go Go.RowKit
section
variable {P:Program} {md:Region.Mode} {Q:Exit->Act->World->Prop} {l:List Oper}
theorem dZ {S:World->Prop} {f:Nat} {listed:Array Bool} {a:Act} {w w1:World} (i:Nat) (o:Oper) (v:Value) (hi:l[i]?=some o) (hg:o.guard=none) (hS:S w1) (h:wpAnyH P md l.toArray (NoPanic Q) S f (listed.setIfInBounds i true) (a.put o.dst v) w1) (hr:Region.ready md l.toArray listed=[i]:=by kernel_rfl) (hv:(execOp a.eval o).run P w=.ok (.value v) w1:=by kernel_rfl):wpAnyH P md l.toArray (NoPanic Q) S (f+1) listed a w:=by
 refine every (by rw [hr];simp) fun j hj=> ?_
 rw [hr] at hj;obtain rfl:j=i:=by simpa using hj
 exact ⟨o,hi,hg,.inl ⟨v,w1,hv,hS,h⟩⟩
theorem gI {S:World->Prop} {listed:Array Bool} {a:Act} {w:World} (h:Q .normal a w) (hr:Region.ready md l.toArray listed=[]:=by kernel_rfl):wpAnyH P md l.toArray (NoPanic Q) S 0 listed a w:=⟨hr,NoPanic.normal h⟩
end
end plan
namespace plan
open Go Go.RowKit
section
variable {P:Program} {md:Region.Mode} {Q:Exit->Act->World->Prop} {l:List Oper}
theorem af {S:World->Prop} {f:Nat} {listed:Array Bool} {a:Act} {w:World} (i:Nat) (o:Oper) (v:Value) (hi:l[i]?=some o) (hv:∀w',S w'->(execOp a.eval o).run P w'=.ok (.value v) w') (hS:S w)
  (h:wpAnyH P md l.toArray (NoPanic Q) S f (listed.setIfInBounds i true) (a.put o.dst v) w) (hs:Region.noSelect l.toArray=true:=by kernel_rfl) (hf:Region.free md l.toArray listed i=true:=by kernel_rfl) (hr:(Region.ready md l.toArray listed).contains i=true:=by kernel_rfl) (hw:Region.wanted o (yielded l.toArray a.tmps)=true:=by kernel_rfl):wpAnyH P md l.toArray (NoPanic Q) S (f+1) listed a w:=
 wpAnyH_take (by simpa using hi) hs hf hr (fun c a' w' h=>h) (.inl ⟨hw,hv⟩) hS h
theorem dY {S:World->Prop} {f:Nat} {listed:Array Bool} {a:Act} {w:World} (i:Nat) (o:Oper) (F:FuncId) (args:Array Value) (hi:l[i]?=some o)
  (h:Calls P F args w fun e w'=>∃v,e=.returned v/\S w'/\wpAnyH P md l.toArray (NoPanic Q) S f (listed.setIfInBounds i true) (a.put o.dst v) w') (hr:Region.ready md l.toArray listed=[i]:=by kernel_rfl) (hw:Region.wanted o (yielded l.toArray a.tmps)=true:=by kernel_rfl) (hv:(execOp a.eval o).run P w=.ok (.enter F args) w:=by kernel_rfl):wpAnyH P md l.toArray (NoPanic Q) S (f+1) listed a w:=by
 refine wpAnyH_all hr si_ fun j hj=> ?_
 obtain rfl:j=i:=by simpa using hj
 have hi':l.toArray[j]?=some o:=by simpa using hi
 unfold wpOp;simp only [hi',hw,if_true,Oper.wp,hv,Oper.upon];refine .inl (h.mono ?_);rintro e w' ⟨v,rfl,hS,hR⟩;exact ⟨hS,hR⟩
theorem bU {S:World->Prop} {id:Nat} {a:Act} {w:World} (h:wpAnyH P .any l.toArray (NoPanic Q) S l.length (Array.replicate l.length false) a w.drew) (hmx:P.follows .mixedOrders=true:=by kernel_rfl):(Code.region id l.toArray true).wp P Q a w:=by
 refine wp_region_noPanic (wp_region_held (S:=S) hmx ?_)
 exact t116
end
end plan
namespace plan
open Go Go.RowKit
section
variable {P:Program} {md:Region.Mode} {Q:Exit->Act->World->Prop} {l:List Oper}
theorem Ar {S:World->Prop} {f:Nat} {listed:Array Bool} {a:Act} {w:World} (i:Nat) (o:Oper) (Pr:Value->World->Prop) (hi:l[i]?=some o) (hg:o.guard=none)
  (hv:∃v w1,(execOp a.eval o).run P w=.ok (.value v) w1/\Pr v w1) (hS:∀v w1,Pr v w1->S w1) (h:∀v w1,Pr v w1->wpAnyH P md l.toArray (NoPanic Q) S f (listed.setIfInBounds i true) (a.put o.dst v) w1) (hr:Region.ready md l.toArray listed=[i]:=by kernel_rfl):wpAnyH P md l.toArray (NoPanic Q) S (f+1) listed a w:=by
 obtain ⟨v,w1,h1,h2⟩:=hv;exact dZ i o v hi hg (hr:=hr) (hv:=h1) (hS v w1 h2) (h v w1 h2)
end
end plan
namespace rows
open Go.RowKit
variable {P:Program} {ops:Array Oper} {rest:List Oper} {o:Oper} {a:Act} {w:World} {Q:Exit->Act->World->Prop}
theorem But.setRow (w:World) (g:Nat) (cs:Array Value):But w.heap.size g w (w.setRow g cs):=
 ⟨rfl,rfl,rfl,by simp,fun k _ hk=>setRow_other w g k cs hk⟩
theorem lJ {b:Nat} {t:TypeId} {C:List Value} (h:Block w b t C) (D:List Value):Block (w.setRow b D.toArray) b t D:=setRow_heap w b C.toArray D.toArray t (0,0) h
theorem EN (w:World) (dT sT ty elem:TypeId) (i:TypeInfo) (sz:Nat) (hu:P.underlying dT=some (.slice elem)) (hi:P.info? elem=some i) (hsz:i.size=sz)
  (dp sp:Option Addr) (dLen dCap sLen sCap b off:Nat) (C:List Value) (t:TypeId) (hB:Block w b t C) (m:Nat) (hm:Nat.min sLen dLen=m) (cs:List Value) (hcl:cs.length=m*sz)
  (hpos:0<m->dp=some ⟨b,off,none⟩/\∃ad,sp=some ad/\∀j v,cs[j]?=some v->w.cell? (ad.add j)=some v) (hfit:off+cs.length<=C.length) (h1:∀v∈cs,v.oneCell'=true):
  ∃w',(Builtin.copy_ #[dT,sT] ty #[.slice dp dLen dCap,.slice sp sLen sCap]).run P w=.ok (goInt m) w'/\Block w' b t (splice C off cs)/\But w.heap.size b w w'/\w'.heap.size=w.heap.size:=by
 subst hsz;by_cases h0:m=0
 ·subst h0;obtain rfl:cs=[]:=List.eq_nil_of_length_eq_zero (by simpa using hcl);have hl:∀(x:Addr),(loadCells x 0).run P w=.ok #[] w:=fun x=>by simpa using run_loadCells_list (P:=P) w x [] si_
  refine ⟨w, ?_,by simpa [splice] using hB,But.refl _ _ _,rfl⟩;cases dp <;> cases sp <;> simp [Builtin.copy_,run_underlying hu,Builtin.lenOf,Builtin.firstCells,sizeOf,typeInfo,hi,hm,storeCells,hl]
 ·obtain ⟨rfl,ad,rfl,hc⟩:=hpos om_;have hl:=run_loadCells_list (P:=P) w ad cs hc;have hst:=run_storeCells_at P b off t cs 0 C.toArray w hB (by simpa using hfit) h1;refine ⟨_, ?_,lJ hB (splice C off cs),But.setRow _ _ _,by simp⟩;simp [Builtin.copy_,run_underlying hu,Builtin.lenOf,Builtin.firstCells,sizeOf,typeInfo,hi,hm,<-hcl,hl,hst,splice]
theorem aQ (hgd:o.guard=none) (d s:Operand) (dT sT:TypeId) (ho:o.op=.call { callee:=.builtin .copy,args:=#[d,s],argTypes:=#[dT,sT]})
  (elem:TypeId) (i:TypeInfo) (sz:Nat) (hu:P.underlying dT=some (.slice elem)) (hi:P.info? elem=some i) (hsz:i.size=sz)
  (dp sp:Option Addr) (dLen dCap sLen sCap:Nat) (hd:a.eval d=.slice dp dLen dCap) (hs:a.eval s=.slice sp sLen sCap) (b off:Nat) (C:List Value) (t:TypeId) (hB:Block w b t C)
  (m:Nat) (hm:Nat.min sLen dLen=m) (cs:List Value) (hcl:cs.length=m*sz)
  (hpos:0<m->dp=some ⟨b,off,none⟩/\∃ad,sp=some ad/\∀j v,cs[j]?=some v->w.cell? (ad.add j)=some v) (hfit:off+cs.length<=C.length) (h1:∀v∈cs,v.oneCell'=true)
  (h:∀w',Hid (Block w' b t (splice C off cs)/\But w.heap.size b w w'/\w'.heap.size=w.heap.size)->wpList P ops Q rest (a.put o.dst (goInt m)) w'):wpList P ops Q (o :: rest) a w:=by
 obtain ⟨w',hr,h2⟩:=EN (P:=P) w dT sT o.type elem i sz hu hi hsz dp sp dLen dCap sLen sCap b off C t hB m hm cs hcl hpos hfit h1;refine wpList_plain hgd fun K hK=> ?_
 unfold Oper.wp;simp [execOp,ho,resolve,invoke,builtin,hd,hs,hr,Result.andThen];exact hK _ _ (h w' (hid h2))
theorem vk (w:World) (t ty e:TypeId) (i:TypeInfo) (sz:Nat) (ht:P.underlying t=some (.slice e)) (hi:P.info? e=some i) (hsz:i.size=sz) (g sLen sCap:Nat) (C:List Value) (hB:Block w g e C)
  (sp:Option Addr) (m c:Nat) (cs:List Value) (hcl:cs.length=m*sz) (hpos:0<m->∃ad,sp=some ad/\∀j v,cs[j]?=some v->w.cell? (ad.add j)=some v) (h1:∀v∈cs,v.oneCell'=true)
  (hroom:sLen+m<=sCap) (hfit:sLen*sz+cs.length<=C.length):
  ∃w',(Builtin.append_ #[t,t] ty #[.slice (some ⟨g,0,none⟩) sLen sCap,.slice sp m c]).run P w=.ok (.slice (some ⟨g,0,none⟩) (sLen+m) sCap) w'/\Block w' g e (splice C (sLen*sz) cs)/\But w.heap.size g w w'/\w'.heap.size=w.heap.size:=by
 subst hsz;by_cases h0:m=0
 ·subst h0;obtain rfl:cs=[]:=List.eq_nil_of_length_eq_zero (by simpa using hcl);have hl:∀(x:Addr),(loadCells x 0).run P w=.ok #[] w:=fun x=>by simpa using run_loadCells_list (P:=P) w x [] si_
  have hr:sLen<=sCap:=by omega
  refine ⟨w, ?_,by simpa [splice] using hB,But.refl _ _ _,rfl⟩;cases sp <;> simp [Builtin.append_,run_underlying ht,Builtin.lenOf,Builtin.firstCells,sizeOf,typeInfo,hi,hr,storeCells,hl]
 ·obtain ⟨ad,rfl,hc⟩:=hpos om_;refine ⟨_,run_append_room (P:=P) w t ty e i ht hi g sLen sCap C.toArray hB ad m c cs hcl hc h1 hroom (by simpa using hfit), ?_,But.setRow _ _ _,by simp⟩;have:=lJ hB (splice C (sLen*i.size) cs);simpa [splice] using this
theorem dF (hgd:o.guard=none) (s x:Operand) (t:TypeId) (ho:o.op=.call { callee:=.builtin .append,args:=#[s,x],argTypes:=#[t,t]})
  (e:TypeId) (i:TypeInfo) (sz:Nat) (ht:P.underlying t=some (.slice e)) (hi:P.info? e=some i) (hsz:i.size=sz) (g sLen sCap:Nat) (hs:a.eval s=.slice (some ⟨g,0,none⟩) sLen sCap) (C:List Value) (hB:Block w g e C)
  (sp:Option Addr) (m c:Nat) (hx:a.eval x=.slice sp m c) (cs:List Value) (hcl:cs.length=m*sz) (hpos:0<m->∃ad,sp=some ad/\∀j v,cs[j]?=some v->w.cell? (ad.add j)=some v) (h1:∀v∈cs,v.oneCell'=true)
  (hroom:sLen+m<=sCap) (hfit:sLen*sz+cs.length<=C.length)
  (h:∀w',Hid (Block w' g e (splice C (sLen*sz) cs)/\But w.heap.size g w w'/\w'.heap.size=w.heap.size)->wpList P ops Q rest (a.put o.dst (.slice (some ⟨g,0,none⟩) (sLen+m) sCap)) w'):wpList P ops Q (o :: rest) a w:=by
 obtain ⟨w',hr,h2⟩:=vk (P:=P) w t o.type e i sz ht hi hsz g sLen sCap C hB sp m c cs hcl hpos h1 hroom hfit;refine wpList_plain hgd fun K hK=> ?_
 unfold Oper.wp;simp [execOp,ho,resolve,invoke,builtin,hs,hx,hr,Result.andThen];exact hK _ _ (h w' (hid h2))
theorem fB (hgd:o.guard=none) (s x:Operand) (t tn:TypeId) (ho:o.op=.call { callee:=.builtin .append,args:=#[s,x],argTypes:=#[t,tn]})
  (e:TypeId) (i:TypeInfo) (z:Value) (sz bytes:Nat) (ht:P.underlying t=some (.slice e)) (htn:P.underlying tn=some (.int .i64)) (hi:P.info? e=some i) (hz:i.zero=some z) (hsz:i.size=sz) (hby:i.bytes=bytes) (hzs:z.cells.size=sz) (h0z:0<sz)
  (g sLen sCap:Nat) (hs:a.eval s=.slice (some ⟨g,0,none⟩) sLen sCap) (k:Nat) (x0:Int) (hx:a.eval x=.int .i64 x0) (hk:x0=k) (h0:0<k) (C:List Value) (hB:Block w g e C) (hfit:sLen*sz<=C.length) (hg:sCap<sLen+k) (hcap:sLen<=sCap)
  (hbytes:(sLen+k)*bytes<=140737488355328) (h63:sLen+k<=maxLen)
  (h:∀G R w',Hid (Block w' w.heap.size e (C.take (sLen*sz)++R)/\R.length=(G - sLen)*sz/\sLen+k<=G/\G<=maxLen/\Below w.heap.size w w'/\w.heap.size<w'.heap.size)->
   wpList P ops Q rest (a.put o.dst (.slice (some ⟨w.heap.size,0,none⟩) (sLen+k) G)) w'):wpList P ops Q (o :: rest) a w:=by
 subst hk;subst hsz;subst hby;have hold:(Builtin.firstCells i.size sLen (.slice (some ⟨g,0,none⟩) sLen sCap)).run P w.drew=.ok (C.take (sLen*i.size)).toArray w.drew:=
  run_firstCells_some w.drew i.size sLen ⟨g,0,none⟩ sLen sCap _ (by rw [List.length_take];omega) (fun j v hj=>by
   rw [Addr.add_lit,Nat.zero_add];have hb:Block w.drew g e C:=hB;rw [hb.cell j];rw [List.getElem?_take] at hj;split at hj
   ·exact hj
   ·cases hj)
 have hf:=growslice_fits (bytes:=i.bytes) hg hbytes;have hr:=Lib.run_append_grow_zeros (P:=P) w t tn o.type e i z .i64 .i64 ht htn hi hz (some ⟨g,0,none⟩) sLen sCap (C.take (sLen*i.size)) hold k h0 h0z hg (by unfold maxLen at h63;omega) (by
  have:k*i.bytes<=(sLen+k)*i.bytes:=Nat.mul_le_mul_right _ om_;omega) hf
 refine Lib.wpList_append_run w hgd s x t tn ho _ _ hs hx _ _ hr (h _ (Builtin.zeroCells z.cells k++Builtin.zeroCells z.cells (grownCap w (sLen+k) sCap e - (sLen+k))).toList _ (hid ⟨?_, ?_,grownCap_ge w _ _ _,grownCap_le_maxLen w _ _ _ h63, ?_,by simp⟩))
 ·have:=heap_alloc_new w.drew (.cells ((C.take (sLen*i.size)).toArray++Builtin.zeroCells z.cells k++Builtin.zeroCells z.cells (grownCap w (sLen+k) sCap e - (sLen+k))) e);show _=_
  rw [show w.drew.heap.size=w.heap.size from rfl] at this;rw [this];simp
 ·have hge:=grownCap_ge w (sLen+k) sCap e;simp only [Array.toList_append,List.length_append,Array.length_toList,size_zeroCells,hzs];rw [<-Nat.add_mul];congr 1;omega
 ·exact ⟨rfl,rfl,rfl,by simp,fun j hj=>Go.heap_alloc_old w.drew _ hj⟩
theorem cu (hgd:o.guard=none) (x:Operand) (t:TypeId) (ho:o.op=.call { callee:=.builtin .clear,args:=#[x],argTypes:=#[t]})
  (e:TypeId) (i:TypeInfo) (z:Value) (sz:Nat) (ht:P.underlying t=some (.slice e)) (hi:P.info? e=some i) (hz:i.zero=some z) (hzs:z.cells.size=sz) (hz1:∀v∈z.cells.toList,v.oneCell'=true) (h0z:0<sz)
  (ap:Option Addr) (n c:Nat) (hx:a.eval x=.slice ap n c) (b off:Nat) (C:List Value) (bt:TypeId) (hB:Block w b bt C) (hp:0<n->ap=some ⟨b,off,none⟩) (hfit:off+n*sz<=C.length)
  (h:∀Z w',Hid (Z.length=n*sz/\Block w' b bt (splice C off Z)/\But w.heap.size b w w'/\w'.heap.size=w.heap.size)->wpList P ops Q rest (a.put o.dst (.tuple #[])) w'):wpList P ops Q (o :: rest) a w:=by
 subst hzs;have hrun:∃Z w',(Builtin.clear_ #[t] o.type #[.slice ap n c]).run P w=.ok (.tuple #[]) w'/\Z.length=n*z.cells.size/\Block w' b bt (splice C off Z)/\But w.heap.size b w w'/\w'.heap.size=w.heap.size:=by
  by_cases h0:n=0
  ·subst h0;refine ⟨[],w, ?_,by simp,by simpa [splice] using hB,But.refl _ _ _,rfl⟩;cases ap <;> simp [Builtin.clear_,run_underlying ht]
  ·obtain rfl:=hp om_;have hlen:(Builtin.zeroCells z.cells n).toList.length=n*z.cells.size:=by rw [Array.length_toList,size_zeroCells]
   have hone:∀v∈(Builtin.zeroCells z.cells n).toList,v.oneCell'=true:=by
    intro v hv;simp only [Builtin.zeroCells,Array.toList_map,List.mem_map] at hv;obtain ⟨j,_,rfl⟩:=hv;have hlt:j % z.cells.size<z.cells.size:=Nat.mod_lt _ h0z;rw [getElem!_pos z.cells _ hlt];exact hz1 _ si_
   have hst:=run_storeCells_at P b off bt (Builtin.zeroCells z.cells n).toList 0 C.toArray w hB (by simpa [hlen] using hfit) hone;refine ⟨_,_, ?_,hlen,lJ hB (splice C off (Builtin.zeroCells z.cells n).toList),But.setRow _ _ _,by simp⟩;have hn:n≠0:=h0;simp only [Nat.add_zero] at hst;simp [Builtin.clear_,run_underlying ht,zeroValue,typeInfo,hi,hz,hst,splice];first | done | (split <;> simp_all)
 obtain ⟨Z,w',hr,h2⟩:=hrun;refine wpList_plain hgd fun K hK=> ?_
 unfold Oper.wp;simp [execOp,ho,resolve,invoke,builtin,hx,hr,Result.andThen];exact hK _ _ (h Z w' (hid h2))
theorem eX {α:Type} (C:List α) (p:Nat) (V:List α) (hp:p<=C.length):(splice C p V).take (p+V.length)=C.take p++V:=by
 unfold splice;rw [<-List.append_assoc];have:(C.take p++V).length=p+V.length:=by simp;omega
 rw [<-this];exact List.take_left
theorem eU {α:Type} (C:List α) (p:Nat) (V:List α) (q:Nat) (hq:q<=p) (hp:p<=C.length):(splice C p V).take q=C.take q:=by
 unfold splice;rw [List.take_append_of_le_length (by simp;omega),List.take_take,Nat.min_eq_left hq]
theorem nI {α:Type} (C:List α) (p:Nat) (V:List α) (hp:p<=C.length):(splice C p V).drop p=V++C.drop (p+V.length):=by
 unfold splice;have h:(C.take p).length=p:=by simp;omega
 have h2:=List.drop_left (l₁:=C.take p) (l₂:=V++C.drop (p+V.length));rw [h] at h2;exact h2
theorem two {α:Type} (C:List α) (p:Nat) (V X2:List α) (hC:p+V.length+X2.length<=C.length):
  (splice (splice C (p+V.length) X2) p V).take (p+V.length+X2.length)=C.take p++V++X2:=by
 have hl:(splice C (p+V.length) X2).length=C.length:=length_splice _ _ _ hC;conv=>lhs;unfold splice
 have e1:(splice C (p+V.length) X2).take p=C.take p:=eU _ _ _ _ om_ om_;have e2:(splice C (p+V.length) X2).drop (p+V.length)=X2++C.drop (p+V.length+X2.length):=nI _ _ _ om_;unfold splice at e1 e2;rw [e1,e2];have h3:(C.take p++V++X2).length=p+V.length+X2.length:=by simp;omega
 rw [show C.take p++(V++(X2++C.drop (p+V.length+X2.length)))=(C.take p++V++X2)++C.drop (p+V.length+X2.length) by simp,<-h3];exact List.take_left
theorem two' {α:Type} (C:List α) (p:Nat) (V X2:List α) (hC:p+V.length+X2.length<=C.length):
  (splice (splice C p V) (p+V.length) X2).take (p+V.length+X2.length)=C.take p++V++X2:=by
 have hl:(splice C p V).length=C.length:=length_splice _ _ _ om_;rw [eX _ _ _ om_,eX _ _ _ om_]
theorem fJ {base sz n cap g:Nat} {C xs:List Value} {w:World} {t:TypeId} (hB:Block w g t C) (hb:base<=g) (hn:n<=cap) (hc:cap<=maxLen) (hl:C.length=cap*sz) (ht:C.take (n*sz)=xs):
  w.ownsRow base t sz (.slice (some ⟨g,0,none⟩) n cap) n xs:=by
 refine ⟨?_,.inr ⟨g,cap,C.toArray,rfl,hb,hB,hn,hc,by simpa using hl,by simpa using ht⟩⟩;rw [<-ht,List.length_take,hl];exact Nat.min_eq_left (Nat.mul_le_mul_right _ hn)
theorem bD {w w':World} {g:Nat} {v:Value} (h:But w.heap.size g w w') (hv:v.ownBlock=some g):w.grownBy w' v.ownBlock:=
 ⟨h.1,h.2.1,h.2.2.1,h.2.2.2.1,fun k hk hne=>h.2.2.2.2 k hk (fun e=>hne (by rw [hv,e]))⟩
theorem dw {w w':World} {row:Option Nat} (h:Below w.heap.size w w'):w.grownBy w' row:=⟨h.os,h.tape,h.output,h.size,fun k hk _=>h.block k hk⟩
theorem ji {P:Program} (w:World) (tS tR e:TypeId) (ht:P.underlying tS=some (.slice e)) (i:TypeInfo) (hi:P.info? e=some i) (a b:Addr) (la ca lb cb:Nat) (hne:a.block≠b.block)
  (tA tB:TypeId) (A B:List Value) (hA:Block w a.block tA A) (hB:Block w b.block tB B) (hl:B≠[]):
  (Extern.SlicesOverlaps.overlaps #[tS,tS] #[tR] #[.slice (some a) la ca,.slice (some b) lb cb]).run P w=.ok (.bool false) w:=by
 have hsA:w.shape? a.block=some (tA,A.length):=by
  have:w.heap[a.block]?=_:=hA;simp [World.shape?,this]
 have hsB:w.shape? b.block=some (tB,B.length):=by
  have:w.heap[b.block]?=_:=hB;simp [World.shape?,this]
 refine Lib.run_overlaps_apart w tS tR e ht i.size (fun w=>by simp [sizeOf,typeInfo,hi]) a b la ca lb cb hne tA tB A.length B.length hsA hsB (by cases B with | nil=>exact absurd rfl hl | cons x l=>simp) ?_ (hA.frozen A.length);obtain ⟨ab,ao,asp⟩:=a;have:w.heap[ab]?=_:=hA;simp [World.frozen?,this]
end rows
namespace texts
open Go.RowKit
def KG (l:List UInt8):ByteArray:=⟨l.toArray⟩
theorem EY (l:List UInt8):(KG l).size=l.length:=by simp [KG,ByteArray.size]
end texts
namespace plan
open Go Go.RowKit
section
variable {P:Program} {md:Region.Mode} {Q:Exit->Act->World->Prop} {l:List Oper}
theorem DC {S:World->Prop} {f:Nat} {listed:Array Bool} {a:Act} {w:World} (i:Nat) (o:Oper) (hi:l[i]?=some o) (hS:S w)
  (h:wpAnyH P md l.toArray (NoPanic Q) S f (listed.setIfInBounds i true) (a.put o.dst undef) w) (hs:Region.noSelect l.toArray=true:=by kernel_rfl) (hf:Region.free md l.toArray listed i=true:=by kernel_rfl) (hr:(Region.ready md l.toArray listed).contains i=true:=by kernel_rfl) (hw:Region.wanted o (yielded l.toArray a.tmps)=false:=by kernel_rfl):wpAnyH P md l.toArray (NoPanic Q) S (f+1) listed a w:=
 wpAnyH_take (by simpa using hi) hs hf hr (fun c a' w' h=>h) (.inr ⟨hw,rfl⟩) hS h
theorem gK {o:Oper} {a:Act} {w:World} {ty:TypeId} {x y:Operand} {g:Nat} {t:TypeId} {cs:List Value} {cells:Array Value} (ho:o.op=.store ty x y)
  (hb:Block w g t cs) (hl:cs.length=cells.size) (hs:(P.info? ty).map (·.size)=some cells.size) (h1:cells.all (·.oneCell')=true) (hx:a.eval x=.pointer (some ⟨g,0,none⟩):=by kernel_rfl) (hy:a.eval y=.agg cells:=by kernel_rfl):(execOp a.eval o).run P w=.ok .skip (w.setCells g 0 cells.toList):=by
 exact t99
end
end plan
namespace plan
open Go Go.RowKit
section
variable {P:Program} {md:Region.Mode} {Q:Exit->Act->World->Prop} {l:List Oper}
theorem thenS {S:World->Prop} {f:Nat} {listed:Array Bool} {a:Act} {w w1:World} (i:Nat) (o:Oper) (hi:l[i]?=some o) (hg:o.guard=none) (hd:o.dst=none)
  (hv:(execOp a.eval o).run P w=.ok .skip w1) (hS:S w1) (h:wpAnyH P md l.toArray (NoPanic Q) S f (listed.setIfInBounds i true) a w1) (hr:Region.ready md l.toArray listed=[i]:=by kernel_rfl):wpAnyH P md l.toArray (NoPanic Q) S (f+1) listed a w:=by
 refine wpAnyH_all hr si_ fun j hj=> ?_
 obtain rfl:j=i:=by simpa using hj
 have hi':l.toArray[j]?=some o:=by simpa using hi
 have hw:Region.wanted o (yielded l.toArray a.tmps)=true:=by unfold Region.wanted;rw [hg]
 unfold wpOp;have e:a.put o.dst undef=a:=by rw [hd];rfl
 simp only [hi',hw,if_true,Oper.wp,hv,Oper.upon];exact .inl ⟨hS,by rw [e];exact h⟩
end
end plan
namespace plan
open Go Go.RowKit
section
variable {P:Program} {md:Region.Mode} {Q:Exit->Act->World->Prop} {l:List Oper}
theorem Ho {S:World->Prop} {f:Nat} {listed:Array Bool} {a:Act} {w:World} (iB iC dB dC:Nat) (oB oC:Oper) (vB vC:Value)
  (hi:iB≠iC) (hd:dB≠dC) (lB:l[iB]?=some oB) (lC:l[iC]?=some oC) (sB:oB.dst=some dB) (sC:oC.dst=some dC)
  (eB:(execOp a.eval oB).run P w=.ok (.value vB) w) (eB':(execOp (a.put (some dC) vC).eval oB).run P w=.ok (.value vB) w)
  (eC:(execOp a.eval oC).run P w=.ok (.value vC) w) (eC':(execOp (a.put (some dB) vB).eval oC).run P w=.ok (.value vC) w) (hS:S w)
  (h:wpAnyH P md l.toArray (NoPanic Q) S f ((listed.setIfInBounds iB true).setIfInBounds iC true) ((a.put (some dB) vB).put (some dC) vC) w) (r0:Region.ready md l.toArray listed=[iB,iC]:=by kernel_rfl) (rB:Region.ready md l.toArray (listed.setIfInBounds iB true)=[iC]:=by kernel_rfl) (rC:Region.ready md l.toArray (listed.setIfInBounds iC true)=[iB]:=by kernel_rfl) (wB:Region.wanted oB (yielded l.toArray a.tmps)=true:=by kernel_rfl) (wC:Region.wanted oC (yielded l.toArray a.tmps)=true:=by kernel_rfl) (wB':Region.wanted oB (yielded l.toArray (a.put (some dC) vC).tmps)=true:=by kernel_rfl) (wC':Region.wanted oC (yielded l.toArray (a.put (some dB) vB).tmps)=true:=by kernel_rfl):
  wpAnyH P md l.toArray (NoPanic Q) S (f+2) listed a w:=by
 refine wpAnyH_all r0 si_ fun i hm=> ?_
 have hm':i=iB\/i=iC:=by simpa using hm
 rcases hm' with rfl | rfl
 ·have hi':l.toArray[i]?=some oB:=by simpa using lB
  unfold wpOp;simp only [hi',wB,if_true,Oper.wp,eB,Oper.upon];refine .inl ⟨hS, ?_⟩;rw [sB];refine wpAnyH_all rB si_ fun j hj=> ?_
  obtain rfl:j=iC:=by simpa using hj
  have hi':l.toArray[j]?=some oC:=by simpa using lC
  unfold wpOp;simp only [hi',wC',if_true,Oper.wp,eC',Oper.upon];refine .inl ⟨hS, ?_⟩;rw [sC];exact h
 ·have hi':l.toArray[i]?=some oC:=by simpa using lC
  unfold wpOp;simp only [hi',wC,if_true,Oper.wp,eC,Oper.upon];refine .inl ⟨hS, ?_⟩;rw [sC];refine wpAnyH_all rC si_ fun j hj=> ?_
  obtain rfl:j=iB:=by simpa using hj
  have hi':l.toArray[j]?=some oB:=by simpa using lB
  unfold wpOp;simp only [hi',wB',if_true,Oper.wp,eB',Oper.upon];refine .inl ⟨hS, ?_⟩;rw [sB,put_comm _ dC dB _ _ hd.symm,Array.setIfInBounds_comm _ _ hi.symm];exact h
theorem halt {P:Program} {Q:Exit->Act->World->Prop} {ops:Array Oper} {rest:List Oper} {op:Oper} {a:Act} {w:World} (ty t:TypeId) (k:Tmp) (c:Value) (ho:op.op=.binOp .eql ty (.tmp k) (.const c) t) (h:Hid (wpList P ops Q (op :: rest) a w)):wpList P ops Q (op :: rest) a w:=h
end
end plan
namespace schema
open Go.ChangeShapes Go.WideShapes Go.ChangeAt Go.RowKit Go.Deep
theorem KT:CY prog 22:=⟨_,_,_,underlying22,underlying49,by kernel_rfl,by kernel_rfl,by kernel_rfl,field.Jr⟩
end schema
end Go.Proofs.YtogkgbnpodojjaaGreat
