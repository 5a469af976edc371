/- Contracts and lemmas that claims of this seat share: FieldOpen, ValueOpen, FieldMath, ValueEq. Each says its own conditions. -/
import Derived.Test.YtogkgbnpodojjaaGreatCmWord
import Derived.Deep.Slices
import Derived.Deep.Strs
import Derived.Lib.SmallJoins
import Derived.Lib.AppendStr
import Derived.Laws.Strings
import Derived.Test.YtogkgbnpodojjaaGreatCmA
set_option linter.unusedVariables false
namespace Go.Proofs.YtogkgbnpodojjaaGreat
open Go.Proofs.Tryz
theorem t80{P:Prop}(h:P:=by
 rw [e] at h1;have hy:ys[i]?=some (ys[i]'(by rw [hlen];exact hi6)):=List.getElem?_eq_getElem _;exact ⟨_,h1.trans hy⟩):P:=h
theorem t79{P:Prop}(h:P:=by
 have:=World.block_lt_of_cell? W _ hc0;simpa [Addr.add] using this):P:=h
theorem t66{P:Prop}(h:P:=by
 intro p hp;obtain ⟨i,hi,rfl⟩:=List.mem_map.1 hp;exact (hy i (List.mem_range.1 hi)).1):P:=h
theorem t53{P:Prop}(h:P:=by
 simp at hcs;obtain ⟨rfl,rfl,rfl⟩:=hcs;exact ⟨[],rfl,.inl rfl,by simp,Nat.le_refl _,by unfold maxLen;omega⟩):P:=h
namespace field
open Go.ChangeShapes Go.WideShapes Go.ChangeAt Go.RowKit Go.Deep
structure Fd where
 (id:Int) (kind:Int) (lo:Int) (hi:Int) (most:Int)
instance:Inhabited Fd:=⟨⟨0,0,0,0,0⟩⟩
structure Fd.Good (W:World) (p:Fd):Prop where
 unit:True
 bid: -9223372036854775808<=p.id/\p.id<=9223372036854775807
 bkind: -9223372036854775808<=p.kind/\p.kind<=9223372036854775807
 blo: -9223372036854775808<=p.lo/\p.lo<=9223372036854775807
 bhi: -9223372036854775808<=p.hi/\p.hi<=9223372036854775807
 bmost: -9223372036854775808<=p.most/\p.most<=9223372036854775807
theorem Fd.Good.below {W W':World} {p:Fd} (h:p.Good W) (hb:Below W.heap.size W W'):p.Good W':=⟨h.unit,h.bid,h.bkind,h.blo,h.bhi,h.bmost⟩
section
variable {H:Type} {enc:TypeId×Value->H} {P:Program} {W:World}
theorem yY {t0 t1 t2 t3 t4:TypeId} {n:Nat} {v0 v1 v2 v3 v4:Value} {y0 y1 y2 y3 y4:DataW H×List MemPlace} (u0:P.underlying t0=some (.int .i64)) (u1:P.underlying t1=some (.int .i64)) (u2:P.underlying t2=some (.int .i64)) (u3:P.underlying t3=some (.int .i64)) (u4:P.underlying t4=some (.int .i64))
  (h0:DataW.trod enc P W 0 (fun _=>true) true n t0 [v0]=some y0) (h1:DataW.trod enc P W 0 (fun _=>true) true n t1 [v1]=some y1) (h2:DataW.trod enc P W 0 (fun _=>true) true n t2 [v2]=some y2) (h3:DataW.trod enc P W 0 (fun _=>true) true n t3 [v3]=some y3) (h4:DataW.trod enc P W 0 (fun _=>true) true n t4 [v4]=some y4):
  ∃p:Fd,p.Good W/\v0=.int .i64 p.id/\v1=.int .i64 p.kind/\v2=.int .i64 p.lo/\v3=.int .i64 p.hi/\v4=.int .i64 p.most:=by
 obtain ⟨x0,e0,_,w0⟩:=DataW.trod_int u0 h0;have a0:=wf_i64 _ w0;obtain ⟨x1,e1,_,w1⟩:=DataW.trod_int u1 h1;have a1:=wf_i64 _ w1;obtain ⟨x2,e2,_,w2⟩:=DataW.trod_int u2 h2;have a2:=wf_i64 _ w2;obtain ⟨x3,e3,_,w3⟩:=DataW.trod_int u3 h3;have a3:=wf_i64 _ w3;obtain ⟨x4,e4,_,w4⟩:=DataW.trod_int u4 h4;have a4:=wf_i64 _ w4;exact ⟨⟨x0,x1,x2,x3,x4⟩,⟨trivial,a0,a1,a2,a3,a4⟩,by simpa using e0,by simpa using e1,by simpa using e2,by simpa using e3,by simpa using e4⟩
def Fds (w:World) (a:Option Addr) (l:List Fd):Prop:=
 l=[]\/∃b off,a=some ⟨b,off,none⟩/\b<w.heap.size/\∀i p,l[i]?=some p->w.cell? ⟨b,off+i*5,none⟩=some (.int .i64 p.id)/\w.cell? ⟨b,off+i*5+1,none⟩=some (.int .i64 p.kind)/\w.cell? ⟨b,off+i*5+2,none⟩=some (.int .i64 p.lo)/\w.cell? ⟨b,off+i*5+3,none⟩=some (.int .i64 p.hi)/\w.cell? ⟨b,off+i*5+4,none⟩=some (.int .i64 p.most)
theorem GY {t e:TypeId} {f0 f1 f2 f3 f4:Field} {a:Option Addr} {len cap:Nat} {d:DataW H} {pl:List MemPlace} (ht:P.underlying t=some (.slice e)) (he:P.underlying e=some (.struct #[f0,f1,f2,f3,f4])) (hone:oneCellFields P #[f0,f1,f2,f3,f4]=true) (hC:P.cellsOf e=5)
  (u0:P.underlying f0.type=some (.int .i64)) (u1:P.underlying f1.type=some (.int .i64)) (u2:P.underlying f2.type=some (.int .i64)) (u3:P.underlying f3.type=some (.int .i64)) (u4:P.underlying f4.type=some (.int .i64))
  (h0:DataW.Trod enc P W 0 (fun _=>true) true t (.slice a len cap) d pl):∃l:List Fd,len=l.length/\Fds W a l/\(∀p∈l,p.Good W)/\len<=cap/\cap<=maxLen:=by
 obtain ⟨fuel,hf⟩:=h0;have hf2:DataW.trod enc P W 0 (fun _=>true) true fuel t [.slice a len cap]=some (d,pl):=by simpa [Value.cells] using hf
 rcases open_slice ht hf2 with ⟨hcs,_⟩ | ⟨A,len',cap',q,n,D,Pl,hcs,_,hlc,hcm,hm,hx0,hrow⟩
 ·exact t53
 ·simp at hcs;obtain ⟨rfl,rfl,rfl⟩:=hcs;simp only [if_true] at hm;have each:∀r,r<len->∃p:Fd,p.Good W/\W.cell? (A.add (r*5))=some (.int .i64 p.id)/\W.cell? (A.add (r*5+1))=some (.int .i64 p.kind)/\W.cell? (A.add (r*5+2))=some (.int .i64 p.lo)/\W.cell? (A.add (r*5+3))=some (.int .i64 p.hi)/\W.cell? (A.add (r*5+4))=some (.int .i64 p.most):=by
   intro r hr;obtain ⟨cs',h1,h2⟩:=hrow r om_;rw [hC] at h1;obtain ⟨_,hlen0,hcell⟩:=World.cells?_some h1;obtain ⟨ys,m,_,_,hl,hlen,hx⟩:=DataW.trod_struct he h2;rw [hC] at hl;match cs',hl with
   | [c0,c1,c2,c3,c4],_=>
    have each:∀(i:Nat) (f:Field) (c:Value),#[f0,f1,f2,f3,f4][i]?=some f->[c0,c1,c2,c3,c4][i]?=some c->∃y,DataW.trod enc P W 0 (fun _=>true) true m f.type [c]=some y:=by
     intro i f c hi hc;obtain ⟨o,k⟩:=hone_of hone i f hi;have hi6:i<5:=by have:=(Array.getElem?_eq_some_iff.1 hi).1;simpa using this
     have h1:=hx i f hi;rw [o,k] at h1;have e:(([c0,c1,c2,c3,c4].drop i).take 1)=[c]:=by
      rw [List.take_one];have:([c0,c1,c2,c3,c4].drop i).head?=some c:=by
       rw [List.head?_drop];simpa using hc
      rw [this];rfl
     exact t80
    obtain ⟨y0,g0⟩:=each 0 f0 c0 rfl rfl;obtain ⟨y1,g1⟩:=each 1 f1 c1 rfl rfl;obtain ⟨y2,g2⟩:=each 2 f2 c2 rfl rfl;obtain ⟨y3,g3⟩:=each 3 f3 c3 rfl rfl;obtain ⟨y4,g4⟩:=each 4 f4 c4 rfl rfl;obtain ⟨p,hp,rfl,rfl,rfl,rfl,rfl⟩:=yY u0 u1 u2 u3 u4 g0 g1 g2 g3 g4;have k0:=hcell 0 om_;have k1:=hcell 1 om_;have k2:=hcell 2 om_;have k3:=hcell 3 om_;have k4:=hcell 4 om_;rw [add_add] at k0 k1 k2 k3 k4;exact ⟨p,hp,by simpa using k0,by simpa using k1,by simpa using k2,by simpa using k3,by simpa using k4⟩
  obtain ⟨y,hy⟩:=choose_lt each;refine ⟨(List.range len).map y,by simp, ?_, ?_,by omega,hcm⟩
  ·by_cases hz:len=0
   ·subst hz;exact .inl rfl
   ·right;obtain ⟨b,off,spot⟩:=A;have hc0:=(hy 0 om_).2.1;have hspot:spot=none:=by simpa [Addr.add] using World.cell?_spot hc0
    subst hspot;have hb:b<W.heap.size:=by
     exact t79
    refine ⟨b,off,rfl,hb,fun i p hp=> ?_⟩;have hi:i<len:=by have:=(List.getElem?_eq_some_iff.1 hp).1;simpa using this
    simp [hi] at hp;subst hp;obtain ⟨_,e50,e51,e52,e53,e54⟩:=hy i hi;rw [Addr.add_lit] at e50 e51 e52 e53 e54;exact ⟨e50,by rw [Nat.add_assoc];exact e51,by rw [Nat.add_assoc];exact e52,by rw [Nat.add_assoc];exact e53,by rw [Nat.add_assoc];exact e54⟩
  ·exact t66
end
theorem Fds.below {w w':World} {a:Option Addr} {l:List Fd} (h:Fds w a l) (hb:Below w.heap.size w w'):Fds w' a l:=by
 rcases h with h | ⟨b,off,ha,hlt,hc⟩
 ·exact .inl h
 ·refine .inr ⟨b,off,ha,Nat.lt_of_lt_of_le hlt hb.size,fun i p hp=> ?_⟩;rw [hb.cell (p:=⟨b,off+i*5,none⟩) hlt,hb.cell (p:=⟨b,off+i*5+1,none⟩) hlt,hb.cell (p:=⟨b,off+i*5+2,none⟩) hlt,hb.cell (p:=⟨b,off+i*5+3,none⟩) hlt,hb.cell (p:=⟨b,off+i*5+4,none⟩) hlt];exact hc i p hp
theorem Fds.at {w:World} {a:Option Addr} {l:List Fd} (h:Fds w a l) {i:Nat} (hi:i<l.length):
  ∃b off p,a=some ⟨b,off,none⟩/\b<w.heap.size/\l[i]?=some p/\w.cell? ⟨b,off+i*5,none⟩=some (.int .i64 p.id)/\w.cell? ⟨b,off+i*5+1,none⟩=some (.int .i64 p.kind)/\w.cell? ⟨b,off+i*5+2,none⟩=some (.int .i64 p.lo)/\w.cell? ⟨b,off+i*5+3,none⟩=some (.int .i64 p.hi)/\w.cell? ⟨b,off+i*5+4,none⟩=some (.int .i64 p.most):=by
 rcases h with rfl | ⟨b,off,ha,hlt,hc⟩
 ·simp at hi
 ·have hp:=List.getElem?_eq_getElem hi;exact ⟨b,off,_,ha,hlt,hp,hc i _ hp⟩
end field
section
structure zF_ (f:field.Fd) where
def zF (f:field.Fd):zF_ f:=⟨⟩
instance (f:field.Fd) (m:zF_ f):CoeDep (zF_ f) m (List Value):=⟨[.int .i64 f.id,.int .i64 f.kind,.int .i64 f.lo,.int .i64 f.hi,.int .i64 f.most]⟩
instance (f:field.Fd) (m:zF_ f):CoeDep (zF_ f) m (Array Value):=⟨#[.int .i64 f.id,.int .i64 f.kind,.int .i64 f.lo,.int .i64 f.hi,.int .i64 f.most]⟩
instance (f:field.Fd) (m:zF_ f):CoeDep (zF_ f) m Value:=⟨.agg #[.int .i64 f.id,.int .i64 f.kind,.int .i64 f.lo,.int .i64 f.hi,.int .i64 f.most]⟩
end
namespace field
open Go.ChangeShapes Go.WideShapes Go.ChangeAt Go.RowKit Go.Deep
structure Va where
 (n:Int) (s:ByteArray)
instance:Inhabited Va:=⟨⟨0,⟨#[]⟩⟩⟩
structure Va.Good (W:World) (p:Va):Prop where
 unit:True
 bn: -9223372036854775808<=p.n/\p.n<=9223372036854775807
theorem Va.Good.below {W W':World} {p:Va} (h:p.Good W) (hb:Below W.heap.size W W'):p.Good W':=⟨h.unit,h.bn⟩
section
variable {H:Type} {enc:TypeId×Value->H} {P:Program} {W:World}
theorem FI {t0 t1:TypeId} {n:Nat} {v0 v1:Value} {y0 y1:DataW H×List MemPlace} (u0:P.underlying t0=some (.int .i64)) (u1:P.underlying t1=some .string)
  (h0:DataW.trod enc P W 0 (fun _=>true) true n t0 [v0]=some y0) (h1:DataW.trod enc P W 0 (fun _=>true) true n t1 [v1]=some y1):
  ∃p:Va,p.Good W/\v0=.int .i64 p.n/\v1=.string p.s:=by
 obtain ⟨x0,e0,_,w0⟩:=DataW.trod_int u0 h0;have a0:=wf_i64 _ w0;obtain ⟨x1,e1,_⟩:=DataW.trod_string u1 h1;exact ⟨⟨x0,x1⟩,⟨trivial,a0⟩,by simpa using e0,by simpa using e1⟩
def Vas (w:World) (a:Option Addr) (l:List Va):Prop:=
 l=[]\/∃b off,a=some ⟨b,off,none⟩/\b<w.heap.size/\∀i p,l[i]?=some p->w.cell? ⟨b,off+i*2,none⟩=some (.int .i64 p.n)/\w.cell? ⟨b,off+i*2+1,none⟩=some (.string p.s)
end
theorem Vas.below {w w':World} {a:Option Addr} {l:List Va} (h:Vas w a l) (hb:Below w.heap.size w w'):Vas w' a l:=by
 rcases h with h | ⟨b,off,ha,hlt,hc⟩
 ·exact .inl h
 ·refine .inr ⟨b,off,ha,Nat.lt_of_lt_of_le hlt hb.size,fun i p hp=> ?_⟩;rw [hb.cell (p:=⟨b,off+i*2,none⟩) hlt,hb.cell (p:=⟨b,off+i*2+1,none⟩) hlt];exact hc i p hp
theorem Vas.at {w:World} {a:Option Addr} {l:List Va} (h:Vas w a l) {i:Nat} (hi:i<l.length):
  ∃b off p,a=some ⟨b,off,none⟩/\b<w.heap.size/\l[i]?=some p/\w.cell? ⟨b,off+i*2,none⟩=some (.int .i64 p.n)/\w.cell? ⟨b,off+i*2+1,none⟩=some (.string p.s):=by
 rcases h with rfl | ⟨b,off,ha,hlt,hc⟩
 ·simp at hi
 ·have hp:=List.getElem?_eq_getElem hi;exact ⟨b,off,_,ha,hlt,hp,hc i _ hp⟩
end field
section
structure zV_ (v:field.Va) where
def zV (v:field.Va):zV_ v:=⟨⟩
instance (v:field.Va) (m:zV_ v):CoeDep (zV_ v) m (List Value):=⟨[.int .i64 v.n,.string v.s]⟩
instance (v:field.Va) (m:zV_ v):CoeDep (zV_ v) m (Array Value):=⟨#[.int .i64 v.n,.string v.s]⟩
instance (v:field.Va) (m:zV_ v):CoeDep (zV_ v) m Value:=⟨.agg #[.int .i64 v.n,.string v.s]⟩
end
section
structure zS_ (v:Int) (a:Option Addr) (n c:Nat) where
def zS (v:Int) (a:Option Addr) (n c:Nat):zS_ v a n c:=⟨⟩
instance (v:Int) (a:Option Addr) (n c:Nat) (m:zS_ v a n c):CoeDep (zS_ v a n c) m (List Value):=⟨[.int .i64 v,.slice a n c]⟩
instance (v:Int) (a:Option Addr) (n c:Nat) (m:zS_ v a n c):CoeDep (zS_ v a n c) m (Array Value):=⟨#[.int .i64 v,.slice a n c]⟩
instance (v:Int) (a:Option Addr) (n c:Nat) (m:zS_ v a n c):CoeDep (zS_ v a n c) m Value:=⟨.agg #[.int .i64 v,.slice a n c]⟩
end
namespace field
open Go.RowKit
def bytesOf (s:ByteArray):List Nat:=s.data.toList.map UInt8.toNat
theorem bytesOf_length (s:ByteArray):(bytesOf s).length=s.size:=by unfold bytesOf;rw [List.length_map,Array.length_toList];rfl
theorem dO (s:ByteArray):∀x∈bytesOf s,x<256:=by
 intro x hx;obtain ⟨b,_,rfl⟩:=List.mem_map.1 hx;exact b.toNat_lt
theorem gW (s:ByteArray):strOf (bytesOf s)=s:=by
 obtain ⟨l⟩:=s;unfold strOf strOfNums bytesOf;congr 1;apply Array.ext';simp [List.map_map,Function.comp_def]
theorem gy {xs:List Nat} (h:∀x∈xs,x<256):bytesOf (strOf xs)=xs:=by
 unfold strOf strOfNums bytesOf;simp only [List.map_map];conv=>rhs;rw [<-List.map_id xs]
 apply List.map_congr_left;intro x hx;have:=h x hx;simp [UInt8.toNat_ofNat',Nat.mod_eq_of_lt this]
theorem vI (xs:List Nat):(strOf xs).size=xs.length:=by unfold strOf;rw [strOfNums_size];simp
theorem vH (s:ByteArray):Lib.strCells s=(bytesOf s).map fun x:Nat=>Value.int .u8 (x:Int):=by
 simp [Lib.strCells,bytesOf,List.map_map,Function.comp_def]
def Fd.Right (f:Fd):Prop:=
 (0<=f.id/\f.id<=255)/\((f.kind=1/\f.lo<=f.hi/\ -1099511627776<=f.lo/\f.hi<=1099511627776/\f.most=0)\/(f.kind=2/\(f.lo=0/\f.hi=0)/\f.most=0)\/
  (f.kind=3/\(f.lo=0/\f.hi=0)/\1<=f.most/\f.most<=1000)\/(f.kind=4/\(f.lo=0/\f.hi=0)/\0<=f.most/\f.most<=32))
instance (f:Fd):Decidable f.Right:=by unfold Fd.Right;infer_instance
def Fd.great (f:Fd):Int:=if f.kind=1 then f.hi else if f.kind=2 then 1 else if f.kind=3 then f.most - 1 else 0
def Fd.long (f:Fd):Int:=if f.kind=4 then f.most else 0
def Fd.Has (f:Fd) (v:Va):Prop:=f.Right/\(f.lo<=v.n/\v.n<=f.great)/\(v.s.size:Int)<=f.long
instance (f:Fd) (v:Va):Decidable (f.Has v):=by unfold Fd.Has;infer_instance
def Fd.Wider (f g:Fd):Prop:=f.Right/\g.Right/\f.kind=g.kind/\g.lo<=f.lo/\f.hi<=g.hi/\f.most<=g.most
instance (f g:Fd):Decidable (f.Wider g):=by unfold Fd.Wider;infer_instance
def wide (n:Nat):Nat:=if n=0 then 0 else if n<256 then 1 else if n<65536 then 2 else if n<16777216 then 3 else if n<4294967296 then 4 else if n<1099511627776 then 5 else 6
theorem tX (n:Nat):wide n<=6:=by
 unfold wide;repeat' split
 all_goals omega
theorem Jk {n:Nat} (hn:n<281474976710656):n<256 ^ wide n:=by
 unfold wide;repeat' split
 all_goals first | omega | (simp;omega)
def Fd.size (f:Fd):Nat:=if f.Right then (if f.kind=4 then 1+f.most.toNat else wide (f.great - f.lo).toNat) else 0
theorem Fd.size_le (f:Fd):f.size<=33:=by
 unfold Fd.size;split
 ·rename_i h;unfold Fd.Right at h;have:=tX (f.great - f.lo).toNat;split <;> omega
 ·omega
def digits (k n:Nat):List Nat:=(List.range k).map fun p=>n / 256 ^ (k - 1 - p) % 256
theorem digits_length (k n:Nat):(digits k n).length=k:=by simp [digits]
theorem Ec (k n:Nat):∀x∈digits k n,x<256:=by
 intro x hx;obtain ⟨p,_,rfl⟩:=List.mem_map.1 hx;exact Nat.mod_lt _ om_
theorem rF (k n:Nat):digits (k+1) n=digits k (n / 256)++[n % 256]:=by
 unfold digits;rw [List.range_succ,List.map_append];congr 1
 ·apply List.map_congr_left;intro p hp;have hp:=List.mem_range.1 hp;rw [show k+1 - 1 - p=(k - 1 - p)+1 by omega,Nat.pow_succ,Nat.mul_comm,<-Nat.div_div_eq_div_mul]
 ·simp
def num (xs:List Nat):Nat:=xs.foldl (fun a x=>256*a+x) 0
theorem qx (xs:List Nat) (x:Nat):num (xs++[x])=256*num xs+x:=by simp [num,List.foldl_append]
theorem uS:∀(k n:Nat),num (digits k n)=n % 256 ^ k
 | 0,n=>by simp [digits,num,Nat.mod_one]
 | k+1,n=>by
  rw [rF,qx,uS k,Nat.pow_succ,Nat.mul_comm (256 ^ k) 256,Nat.mod_mul];omega
theorem Cb:∀(k:Nat) (xs:List Nat),xs.length=k->(∀x∈xs,x<256)->num xs<256 ^ k
 | 0,xs,h,_=>by
  obtain rfl:=List.eq_nil_of_length_eq_zero h;simp [num]
 | k+1,xs,h,hx=>by
  have hne:xs≠[]:=by intro h0;simp [h0] at h
  have hd:=List.dropLast_concat_getLast hne;have hl:xs.dropLast.length=k:=by simp [h]
  have h1:=Cb k xs.dropLast hl (fun x hm=>hx x ((List.dropLast_sublist xs).subset hm));have h2:=hx _ (List.getLast_mem hne);rw [<-hd,qx,Nat.pow_succ];omega
theorem uo:∀(k:Nat) (xs:List Nat),xs.length=k->(∀x∈xs,x<256)->digits k (num xs)=xs
 | 0,xs,h,_=>by
  obtain rfl:=List.eq_nil_of_length_eq_zero h;simp [digits]
 | k+1,xs,h,hx=>by
  have hne:xs≠[]:=by intro h0;simp [h0] at h
  have hd:=List.dropLast_concat_getLast hne;have hl:xs.dropLast.length=k:=by simp [h]
  have h1:=uo k xs.dropLast hl (fun x hm=>hx x ((List.dropLast_sublist xs).subset hm));have h2:=hx _ (List.getLast_mem hne);conv=>lhs;rw [<-hd,qx]
  rw [rF,show (256*num xs.dropLast+xs.getLast hne) / 256=num xs.dropLast by omega,show (256*num xs.dropLast+xs.getLast hne) % 256=xs.getLast hne by omega,h1];exact hd
def Fd.lu (f:Fd) (v:Va):Int:=if ¬f.Right then 2 else if ¬f.Has v then 16 else 0
def Fd.bZ (f:Fd) (v:Va):List Nat:=if ¬f.Has v then [] else if f.kind=4 then v.s.size :: bytesOf v.s else digits f.size (v.n - f.lo).toNat
structure Tk where
 (n:Int) (s:List Nat) (c:Nat) (e:Int)
def Fd.take (f:Fd) (xs:List Nat):Tk:=
 if ¬f.Right then ⟨0,[],0,2⟩ else if f.kind=4 then
  (if xs.length<1 then ⟨0,[],0,5⟩ else if f.most<(xs.getD 0 0:Nat) then ⟨0,[],0,16⟩ else if xs.length<1+xs.getD 0 0 then ⟨0,[],0,5⟩ else ⟨0,(xs.drop 1).take (xs.getD 0 0),1+xs.getD 0 0,0⟩)
 else if xs.length<f.size then ⟨0,[],0,5⟩ else if f.great - f.lo<(num (xs.take f.size):Nat) then ⟨0,[],0,16⟩ else ⟨f.lo+(num (xs.take f.size):Nat),[],f.size,0⟩
theorem Fd.Right.span {f:Fd} (h:f.Right):f.lo<=f.great/\f.great - f.lo<=2199023255552/\ -1099511627776<=f.lo/\f.lo<=1099511627776/\0<=f.long/\f.long<=32:=by
 unfold Fd.Right at h;unfold Fd.great Fd.long;obtain ⟨_,h⟩:=h;rcases h with h | h | h | h <;> obtain ⟨h1,h2⟩:=h <;> rw [h1] <;> simp <;> omega
theorem Fd.Dw (f:Fd) (v:Va):∀x∈f.bZ v,x<256:=by
 unfold Fd.bZ;split
 ·simp
 ·rename_i h;have h':f.Has v:=Classical.not_not.1 h;obtain ⟨hr,_,h3⟩:=h';have:=hr.span;split
  ·intro x hx;rcases List.mem_cons.1 hx with rfl | hx
   ·omega
   ·exact dO _ x hx
  ·exact Ec _ _
theorem Fd.lF {f:Fd} {v:Va} (h:f.Has v) (more:List Nat):f.take (f.bZ v++more)=⟨v.n,bytesOf v.s,(f.bZ v).length,0⟩/\(f.bZ v).length<=f.size:=by
 have hh:=h;obtain ⟨hr,⟨h1,h2⟩,h3⟩:=h;have hs:=hr.span;have hL:f.bZ v=if f.kind=4 then v.s.size :: bytesOf v.s else digits f.size (v.n - f.lo).toNat:=by unfold Fd.bZ;rw [if_neg (show ¬¬f.Has v from fun h=>h hh)]
 rw [hL];unfold Fd.take;rw [if_neg (show ¬¬f.Right from fun h=>h hr)];by_cases hk:f.kind=4
 ·have hr':=hr;unfold Fd.Right at hr';have hg:f.great=0/\f.long=f.most:=by simp [Fd.great,Fd.long,hk]
  have hv:v.n=0:=by omega
  have hb:=bytesOf_length v.s;rw [if_pos hk,if_pos hk];simp only [List.cons_append,List.length_cons,List.getD_cons_zero,List.length_append,List.drop_succ_cons,List.drop_zero];rw [if_neg om_,if_neg om_,if_neg om_];refine ⟨?_, ?_⟩
  ·rw [hv,List.take_append_of_le_length om_,List.take_of_length_le om_,hb];congr 1;omega
  ·unfold Fd.size;rw [if_pos hr,if_pos hk];omega
 ·rw [if_neg hk,if_neg hk];have hl:f.long=0:=by simp [Fd.long,hk]
  have hse:bytesOf v.s=[]:=List.eq_nil_of_length_eq_zero (by rw [bytesOf_length];omega);have hsz:f.size=wide (f.great - f.lo).toNat:=by unfold Fd.size;rw [if_pos hr,if_neg hk]
  have hw:=Jk (n:=(f.great - f.lo).toNat) om_;rw [<-hsz] at hw;have ht:(digits f.size (v.n - f.lo).toNat++more).take f.size=digits f.size (v.n - f.lo).toNat:=by
   rw [List.take_append_of_le_length (by rw [digits_length];omega),List.take_of_length_le (by rw [digits_length];omega)]
  have hn:num (digits f.size (v.n - f.lo).toNat)=(v.n - f.lo).toNat:=by rw [uS,Nat.mod_eq_of_lt om_]
  rw [ht,hn,List.length_append,digits_length,if_neg om_,if_neg om_,hse];refine ⟨?_,by omega⟩;congr 1;omega
theorem Fd.jS {f:Fd} {xs:List Nat} (hx:∀x∈xs,x<256) (h:(f.take xs).e=0):
  f.Has ⟨(f.take xs).n,strOf (f.take xs).s⟩/\(f.take xs).c<=xs.length/\f.bZ ⟨(f.take xs).n,strOf (f.take xs).s⟩=xs.take (f.take xs).c:=by
 have hx':∀x∈(f.take xs).s,x<256:=by
  unfold Fd.take;split
  ·simp
  ·split
   ·split
    ·simp
    ·split
     ·simp
     ·split
      ·simp
      ·intro x hm;exact hx x (List.mem_of_mem_drop (List.mem_of_mem_take hm))
   ·split
    ·simp
    ·split <;> simp
 by_cases hr:f.Right;case neg=>simp [Fd.take,hr] at h
 have hs:=hr.span;by_cases hk:f.kind=4
 ·have hr':=hr;unfold Fd.Right at hr';have hg:f.great=0/\f.long=f.most:=by simp [Fd.great,Fd.long,hk]
  by_cases h1:xs.length<1
  ·unfold Fd.take at h;rw [if_neg (show ¬¬f.Right from fun h=>h hr),if_pos hk,if_pos h1] at h;simp at h
  by_cases h2:f.most<(xs.getD 0 0:Nat)
  ·unfold Fd.take at h;rw [if_neg (show ¬¬f.Right from fun h=>h hr),if_pos hk,if_neg h1,if_pos h2] at h;simp at h
  by_cases h3:xs.length<1+xs.getD 0 0
  ·unfold Fd.take at h;rw [if_neg (show ¬¬f.Right from fun h=>h hr),if_pos hk,if_neg h1,if_neg h2,if_pos h3] at h;simp at h
  have ht:f.take xs=⟨0,(xs.drop 1).take (xs.getD 0 0),1+xs.getD 0 0,0⟩:=by
   unfold Fd.take;rw [if_neg (show ¬¬f.Right from fun h=>h hr),if_pos hk,if_neg h1,if_neg h2,if_neg h3]
  rw [ht] at hx' ⊢;simp only at hx' ⊢;have hsl:(strOf ((xs.drop 1).take (xs.getD 0 0))).size=xs.getD 0 0:=by rw [vI,List.length_take,List.length_drop];omega
  have hH:f.Has ⟨0,strOf ((xs.drop 1).take (xs.getD 0 0))⟩:=by
   refine ⟨hr,⟨by simp only;omega,by simp only;omega⟩, ?_⟩;simp only;rw [hsl];omega
  refine ⟨hH,by omega, ?_⟩;unfold Fd.bZ;rw [if_neg (show ¬¬f.Has _ from fun h=>h hH),if_pos hk];simp only;rw [hsl,gy hx'];cases xs with
  | nil=>simp at h1
  | cons y ys=>simp [Nat.add_comm 1]
 ·by_cases h1:xs.length<f.size
  ·unfold Fd.take at h;rw [if_neg (show ¬¬f.Right from fun h=>h hr),if_neg hk,if_pos h1] at h;simp at h
  by_cases h2:f.great - f.lo<(num (xs.take f.size):Nat)
  ·unfold Fd.take at h;rw [if_neg (show ¬¬f.Right from fun h=>h hr),if_neg hk,if_neg h1,if_pos h2] at h;simp at h
  have ht:f.take xs=⟨f.lo+(num (xs.take f.size):Nat),[],f.size,0⟩:=by
   unfold Fd.take;rw [if_neg (show ¬¬f.Right from fun h=>h hr),if_neg hk,if_neg h1,if_neg h2]
  rw [ht];simp only;have hH:f.Has ⟨f.lo+(num (xs.take f.size):Nat),strOf []⟩:=by
   refine ⟨hr,⟨by simp only;omega,by simp only;omega⟩, ?_⟩;simp only;rw [vI];simp;omega
  refine ⟨hH,by omega, ?_⟩;unfold Fd.bZ;rw [if_neg (show ¬¬f.Has _ from fun h=>h hH),if_neg hk];simp only;rw [show (f.lo+(num (xs.take f.size):Nat) - f.lo).toNat=num (xs.take f.size) by omega];exact uo _ _ (by rw [List.length_take];omega) (fun x hm=>hx x (List.mem_of_mem_take hm))
theorem Fd.Wider.has {f g:Fd} {v:Va} (h:f.Wider g) (hv:f.Has v):g.Has v:=by
 obtain ⟨h1,h2,h3,h4,h5,h6⟩:=h;obtain ⟨_,⟨h7,h8⟩,h9⟩:=hv;refine ⟨h2,⟨by omega, ?_⟩, ?_⟩
 ·unfold Fd.great at h8 ⊢;rw [<-h3];split <;> rename_i hk
  ·simp [hk] at h8;omega
  ·simp only [hk,if_false] at h8;split <;> rename_i hk2
   ·simp [hk2] at h8;omega
   ·simp only [hk2,if_false] at h8;split <;> rename_i hk3
    ·simp [hk3] at h8;omega
    ·simp only [hk3,if_false] at h8;omega
 ·unfold Fd.long at h9 ⊢;rw [<-h3];split <;> rename_i hk
  ·simp [hk] at h9;omega
  ·simp only [hk,if_false] at h9;omega
end field
namespace record
open Go.RowKit
open field (Va)
instance:DecidableEq Va:=fun a b=>
 if h:a.n=b.n/\a.s.toList=b.s.toList then isTrue (by
  obtain ⟨n,⟨⟨s⟩⟩⟩:=a;obtain ⟨m,⟨⟨t⟩⟩⟩:=b;obtain ⟨h1,h2⟩:=h;simp only at h1 h2;rw [ByteArray.toList_eq,ByteArray.toList_eq] at h2;simp only at h2;subst h1 h2;rfl) else isFalse (by rintro rfl;simp at h)
theorem Ll {n m:Int} {s t:ByteArray}:(⟨n,s⟩:Va)=⟨m,t⟩↔n=m/\s.toList=t.toList:=by
 constructor
 ·intro h;cases h;exact ⟨rfl,rfl⟩
 ·rintro ⟨rfl,h⟩;obtain ⟨⟨s⟩⟩:=s;obtain ⟨⟨t⟩⟩:=t;rw [ByteArray.toList_eq,ByteArray.toList_eq] at h;simp only at h;subst h;rfl
end record
end Go.Proofs.YtogkgbnpodojjaaGreat
