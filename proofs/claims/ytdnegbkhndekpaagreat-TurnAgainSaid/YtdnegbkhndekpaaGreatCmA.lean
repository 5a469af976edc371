/- Contracts and lemmas that claims of this seat share: Kit, Open, FieldOpen, ValueOpen, Arr, FieldMath, Tail, FieldRight, Perm, Plan, PlanMore, Append, Ret0, Line, Sym, Four, RowOps. Each says its own conditions. -/
import Derived.Test.YtdnegbkhndekpaaGreatCmWord
import Derived.Test.YtdnegbkhndekpaaGreatRows
import Derived.WalkKit
import Derived.BigQuiet
import Derived.ProofKit
import Derived.OpenShut
import Derived.ShutString
import Derived.ChangeOld
import Derived.Below
import Derived.SizedLaws
import Derived.Deep.Slices
import Derived.Deep.Strs
import Derived.Lib.SmallJoins
import Derived.Deep.MidRow
import Derived.Deep.WholeRow
import Derived.Laws.OwnMore
import Derived.Lib.AppendStr
import Derived.StillTail
import Derived.Deep.RegionHeld3
import Derived.Deep.QuietTactic
import Derived.Laws.StructEq
import Derived.Deep.Upon
import Derived.Laws.CopyOwn
import Derived.Lib.AppendZerosOnto
import Derived.Lib.AppendZeros
import Derived.Lib.Overlaps
set_option linter.unusedVariables false
namespace Go.Proofs.YtdnegbkhndekpaaGreat
open Go.Proofs.Tryz
section
open Go.RowKit
theorem hid {p:Prop} (h:p):Hid p:=h
theorem je {k:IntKind} {a b:Int} (h:a=b):Ending.returned (.int k a)=.returned (.int k b):=by rw [h]
theorem bP {a b:Bool} (h:a=b):Ending.returned (.bool a)=.returned (.bool b):=by rw [h]
def Quiet (v:Value) (w:World) (e:Ending) (w':World):Prop:=e=.returned v/\∃n,w'=w.drewN n
theorem below_drewN {B:Nat} {a w:World} (h:Below B a w) (n:Nat):Below B a (w.drewN n):=
 ⟨h.os,h.tape,h.output,h.size,h.block⟩
theorem _root_.Go.World.ownsRow.drewN {w:World} {base e size n:Nat} {v:Value} {xs:List Value} (h:w.ownsRow base e size v n xs) (m:Nat):(w.drewN m).ownsRow base e size v n xs:=h
def Reads (k:IntKind) (w:World) (a:Option Addr) (len:Nat) (xs:List Nat):Prop:=
 xs.length=len/\(len=0\/∃b off,a=some ⟨b,off,none⟩/\b<w.heap.size/\∀i,i<len->w.cell? ⟨b,off+i,none⟩=some (.int k ((xs.getD i 0:Nat):Int)))
theorem Reads.at {k:IntKind} {w:World} {a:Option Addr} {len:Nat} {xs:List Nat} (h:Reads k w a len xs) {i:Nat} (hi:i<len):
  ∃b off,a=some ⟨b,off,none⟩/\b<w.heap.size/\∀i,i<len->w.cell? ⟨b,off+i,none⟩=some (.int k ((xs.getD i 0:Nat):Int)):=by
 rcases h.2 with h | h
 ·omega
 ·exact h
theorem Reads.below {k:IntKind} {w w':World} {a:Option Addr} {len:Nat} {xs:List Nat} (h:Reads k w a len xs) (hb:Below w.heap.size w w'):Reads k w' a len xs:=by
 refine ⟨h.1, ?_⟩;rcases h.2 with h | ⟨b,off,ha,hlt,hc⟩
 ·exact .inl h
 ·exact .inr ⟨b,off,ha,Nat.lt_of_lt_of_le hlt hb.size,fun i hi=>by rw [hb.cell (p:=⟨b,off+i,none⟩) hlt];exact hc i hi⟩
theorem Reads.drewN {k:IntKind} {w:World} {a:Option Addr} {len:Nat} {xs:List Nat} (h:Reads k w a len xs) (n:Nat):Reads k (w.drewN n) a len xs:=
 h.below (below_drewN (Below.refl _ _) n)
theorem Reads.nil {k:IntKind} {w:World} {a:Option Addr}:Reads k w a 0 []:=⟨rfl,.inl rfl⟩
theorem Reads.own {k:IntKind} {w:World} {base e n:Nat} {a:Option Addr} {cap:Nat} {xs:List Nat} (h:w.ownsRow base e 1 (.slice a n cap) n (xs.map fun x:Nat=>Value.int k (x:Int))):
  Reads k w a n xs:=by
 obtain ⟨hl,hr⟩:=h;simp at hl;refine ⟨hl, ?_⟩;rcases hr with ⟨hv,h0⟩ | ⟨g,cap',cur,hv,_,hg,_,_,_,htake⟩
 ·exact .inl h0
 ·cases hv
  refine .inr ⟨g,0,rfl,(Array.getElem?_eq_some_iff.1 hg).1,fun i hi=> ?_⟩;rw [Nat.zero_add,cell_of_row w g i cur e (0,0) hg];have h2:(cur.toList.take (n*1))[i]?=((xs.map fun x:Nat=>Value.int k (x:Int)))[i]?:=by rw [htake]
  rw [List.getElem?_take,if_pos om_,List.getElem?_map] at h2;rw [Array.getElem?_toList] at h2;rw [h2,List.getD_eq_getElem?_getD,List.getElem?_eq_getElem om_];simp
end
section
open Go.ChangeShapes Go.WideShapes Go.ChangeAt Go.RowKit
open Go.ChangeMaps (open_string shut_string)
theorem own:ownKnob prog.godebug=none:=by kernel_rfl
theorem laidOut:laidOutB prog=true:=by kernel_rfl
def Yes (w:World) (e:Ending) (w':World):Prop:=e=.returned (.bool true)/\Below w.heap.size w w'
theorem wf_i64 (n:Int) (h:(Lit.int .i64 n).wf=true): -9223372036854775808<=n/\n<=9223372036854775807:=by
 simp [Lit.wf,IntKind.min,IntKind.max,IntKind.signed,IntKind.bits] at h;omega
theorem aB {w:World} {base e size n:Nat} {v:Value} {xs:List Value} (h:w.ownsRow base e size v n xs):∃a cap,v=.slice a n cap/\n<=cap:=by
 rcases h.2 with ⟨hv,h0⟩ | ⟨g,cap,cur,hv,hb,hg,h1,h2,_⟩
 ·exact ⟨none,0,by rw [hv,h0],by omega⟩
 ·exact ⟨_,cap,hv,h1⟩
def strOf (xs:List Nat):ByteArray:=strOfNums (xs.map fun x:Nat=>(x:Int))
theorem Reads.str {P:Program} {w:World} {a:Option Addr} {len:Nat} {xs:List Nat} (h:Reads .u8 w a len xs) (src e:TypeId) (hs:P.underlying src=some (.slice e)) (he:P.underlying e=some (.int .u8)) (cap:Nat):
  ∀dst,P.underlying dst=some .string->(convert src dst (.slice a len cap)).run P w=.ok (.string (strOf xs)) w:=by
 intro dst hd;by_cases h0:len=0
 ·subst h0;obtain rfl:xs=[]:=List.eq_nil_of_length_eq_zero h.1;cases a with
  | none=>exact run_convert_bytes_nil w src e hs he 0 cap dst hd
  | some x=>
   rw [run_convert_bytes_string w src dst e _ 0 cap hs he hd];exact run_bytesToString w x 0 cap [] (by simpa using run_loadCells_list (P:=P) w x [] (fun j v hj=>by simp at hj))
 ·obtain ⟨b,off,rfl,_,hc⟩:=h.at (i:=0) om_;refine run_convert_bytes_arg w src e hs he b off len cap _ (by simpa using h.1) (fun i hi=> ?_) dst hd;rw [hc i hi];have:i<xs.length:=by rw [h.1];exact hi
  simp [List.getD,this]
end
theorem t132{P:Prop}(h:P:=by
 have:=World.block_lt_of_cell? W _ hc0;simpa [Addr.add] using this):P:=h
theorem t119{P:Prop}(h:P:=by
 intro p hp;obtain ⟨i,hi,rfl⟩:=List.mem_map.1 hp;exact (hy i (List.mem_range.1 hi)).1):P:=h
theorem t95{P:Prop}(h:P:=by
 simp at hcs;obtain ⟨rfl,rfl,rfl⟩:=hcs;exact ⟨[],rfl,.inl rfl,by simp,Nat.le_refl _,by unfold maxLen;omega⟩):P:=h
theorem t92{P:Prop}(h:P:=by
 rw [e] at h1;have hy:ys[i]?=some (ys[i]'(by rw [hlen];exact hi6)):=List.getElem?_eq_getElem _;exact ⟨_,h1.trans hy⟩):P:=h
theorem t61{P:Prop}(h:P:=by
 rcases h with rfl | ⟨b,off,ha,hlt,hc⟩
 ·simp at hi
 ·have hp:=List.getElem?_eq_getElem hi;exact ⟨b,off,_,ha,hlt,hp,hc i _ hp⟩):P:=h
namespace field
open Go.ChangeShapes Go.WideShapes Go.ChangeAt Go.RowKit Go.Deep
structure Fd where
 (id:Int) (kind:Int) (lo:Int) (hi:Int) (most:Int)
instance:Inhabited Fd:=⟨⟨0,0,0,0,0⟩⟩
structure Fd.Good (W:World) (p:Fd):Prop where
 unit:True
 bid: -9223372036854775808<=p.id/\p.id<=9223372036854775807
 bkind: -9223372036854775808<=p.kind/\p.kind<=9223372036854775807
 blo: -9223372036854775808<=p.lo/\p.lo<=9223372036854775807
 bhi: -9223372036854775808<=p.hi/\p.hi<=9223372036854775807
 bmost: -9223372036854775808<=p.most/\p.most<=9223372036854775807
theorem Fd.Good.below {W W':World} {p:Fd} (h:p.Good W) (hb:Below W.heap.size W W'):p.Good W':=⟨h.unit,h.bid,h.bkind,h.blo,h.bhi,h.bmost⟩
section
variable {H:Type} {enc:TypeId×Value->H} {P:Program} {W:World}
theorem Bl {t0 t1 t2 t3 t4:TypeId} {n:Nat} {v0 v1 v2 v3 v4:Value} {y0 y1 y2 y3 y4:DataW H×List MemPlace} (u0:P.underlying t0=some (.int .i64)) (u1:P.underlying t1=some (.int .i64)) (u2:P.underlying t2=some (.int .i64)) (u3:P.underlying t3=some (.int .i64)) (u4:P.underlying t4=some (.int .i64))
  (h0:DataW.trod enc P W 0 (fun _=>true) true n t0 [v0]=some y0) (h1:DataW.trod enc P W 0 (fun _=>true) true n t1 [v1]=some y1) (h2:DataW.trod enc P W 0 (fun _=>true) true n t2 [v2]=some y2) (h3:DataW.trod enc P W 0 (fun _=>true) true n t3 [v3]=some y3) (h4:DataW.trod enc P W 0 (fun _=>true) true n t4 [v4]=some y4):
  ∃p:Fd,p.Good W/\v0=.int .i64 p.id/\v1=.int .i64 p.kind/\v2=.int .i64 p.lo/\v3=.int .i64 p.hi/\v4=.int .i64 p.most:=by
 obtain ⟨x0,e0,_,w0⟩:=DataW.trod_int u0 h0;have a0:=wf_i64 _ w0;obtain ⟨x1,e1,_,w1⟩:=DataW.trod_int u1 h1;have a1:=wf_i64 _ w1;obtain ⟨x2,e2,_,w2⟩:=DataW.trod_int u2 h2;have a2:=wf_i64 _ w2;obtain ⟨x3,e3,_,w3⟩:=DataW.trod_int u3 h3;have a3:=wf_i64 _ w3;obtain ⟨x4,e4,_,w4⟩:=DataW.trod_int u4 h4;have a4:=wf_i64 _ w4;exact ⟨⟨x0,x1,x2,x3,x4⟩,⟨trivial,a0,a1,a2,a3,a4⟩,by simpa using e0,by simpa using e1,by simpa using e2,by simpa using e3,by simpa using e4⟩
def Fds (w:World) (a:Option Addr) (l:List Fd):Prop:=
 l=[]\/∃b off,a=some ⟨b,off,none⟩/\b<w.heap.size/\∀i p,l[i]?=some p->w.cell? ⟨b,off+i*5,none⟩=some (.int .i64 p.id)/\w.cell? ⟨b,off+i*5+1,none⟩=some (.int .i64 p.kind)/\w.cell? ⟨b,off+i*5+2,none⟩=some (.int .i64 p.lo)/\w.cell? ⟨b,off+i*5+3,none⟩=some (.int .i64 p.hi)/\w.cell? ⟨b,off+i*5+4,none⟩=some (.int .i64 p.most)
theorem Ht {t e:TypeId} {f0 f1 f2 f3 f4:Field} {a:Option Addr} {len cap:Nat} {d:DataW H} {pl:List MemPlace} (ht:P.underlying t=some (.slice e)) (he:P.underlying e=some (.struct #[f0,f1,f2,f3,f4])) (hone:oneCellFields P #[f0,f1,f2,f3,f4]=true) (hC:P.cellsOf e=5)
  (u0:P.underlying f0.type=some (.int .i64)) (u1:P.underlying f1.type=some (.int .i64)) (u2:P.underlying f2.type=some (.int .i64)) (u3:P.underlying f3.type=some (.int .i64)) (u4:P.underlying f4.type=some (.int .i64))
  (h0:DataW.Trod enc P W 0 (fun _=>true) true t (.slice a len cap) d pl):∃l:List Fd,len=l.length/\Fds W a l/\(∀p∈l,p.Good W)/\len<=cap/\cap<=maxLen:=by
 obtain ⟨fuel,hf⟩:=h0;have hf2:DataW.trod enc P W 0 (fun _=>true) true fuel t [.slice a len cap]=some (d,pl):=by simpa [Value.cells] using hf
 rcases open_slice ht hf2 with ⟨hcs,_⟩ | ⟨A,len',cap',q,n,D,Pl,hcs,_,hlc,hcm,hm,hx0,hrow⟩
 ·exact t95
 ·simp at hcs;obtain ⟨rfl,rfl,rfl⟩:=hcs;simp only [if_true] at hm;have each:∀r,r<len->∃p:Fd,p.Good W/\W.cell? (A.add (r*5))=some (.int .i64 p.id)/\W.cell? (A.add (r*5+1))=some (.int .i64 p.kind)/\W.cell? (A.add (r*5+2))=some (.int .i64 p.lo)/\W.cell? (A.add (r*5+3))=some (.int .i64 p.hi)/\W.cell? (A.add (r*5+4))=some (.int .i64 p.most):=by
   intro r hr;obtain ⟨cs',h1,h2⟩:=hrow r om_;rw [hC] at h1;obtain ⟨_,hlen0,hcell⟩:=World.cells?_some h1;obtain ⟨ys,m,_,_,hl,hlen,hx⟩:=DataW.trod_struct he h2;rw [hC] at hl;match cs',hl with
   | [c0,c1,c2,c3,c4],_=>
    have each:∀(i:Nat) (f:Field) (c:Value),#[f0,f1,f2,f3,f4][i]?=some f->[c0,c1,c2,c3,c4][i]?=some c->∃y,DataW.trod enc P W 0 (fun _=>true) true m f.type [c]=some y:=by
     intro i f c hi hc;obtain ⟨o,k⟩:=hone_of hone i f hi;have hi6:i<5:=by have:=(Array.getElem?_eq_some_iff.1 hi).1;simpa using this
     have h1:=hx i f hi;rw [o,k] at h1;have e:(([c0,c1,c2,c3,c4].drop i).take 1)=[c]:=by
      rw [List.take_one];have:([c0,c1,c2,c3,c4].drop i).head?=some c:=by
       rw [List.head?_drop];simpa using hc
      rw [this];rfl
     exact t92
    obtain ⟨y0,g0⟩:=each 0 f0 c0 rfl rfl;obtain ⟨y1,g1⟩:=each 1 f1 c1 rfl rfl;obtain ⟨y2,g2⟩:=each 2 f2 c2 rfl rfl;obtain ⟨y3,g3⟩:=each 3 f3 c3 rfl rfl;obtain ⟨y4,g4⟩:=each 4 f4 c4 rfl rfl;obtain ⟨p,hp,rfl,rfl,rfl,rfl,rfl⟩:=Bl u0 u1 u2 u3 u4 g0 g1 g2 g3 g4;have k0:=hcell 0 om_;have k1:=hcell 1 om_;have k2:=hcell 2 om_;have k3:=hcell 3 om_;have k4:=hcell 4 om_;rw [add_add] at k0 k1 k2 k3 k4;exact ⟨p,hp,by simpa using k0,by simpa using k1,by simpa using k2,by simpa using k3,by simpa using k4⟩
  obtain ⟨y,hy⟩:=choose_lt each;refine ⟨(List.range len).map y,by simp, ?_, ?_,by omega,hcm⟩
  ·by_cases hz:len=0
   ·subst hz;exact .inl rfl
   ·right;obtain ⟨b,off,spot⟩:=A;have hc0:=(hy 0 om_).2.1;have hspot:spot=none:=by simpa [Addr.add] using World.cell?_spot hc0
    subst hspot;have hb:b<W.heap.size:=by
     exact t132
    refine ⟨b,off,rfl,hb,fun i p hp=> ?_⟩;have hi:i<len:=by have:=(List.getElem?_eq_some_iff.1 hp).1;simpa using this
    simp [hi] at hp;subst hp;obtain ⟨_,e50,e51,e52,e53,e54⟩:=hy i hi;rw [Addr.add_lit] at e50 e51 e52 e53 e54;exact ⟨e50,by rw [Nat.add_assoc];exact e51,by rw [Nat.add_assoc];exact e52,by rw [Nat.add_assoc];exact e53,by rw [Nat.add_assoc];exact e54⟩
  ·exact t119
end
theorem Fds.below {w w':World} {a:Option Addr} {l:List Fd} (h:Fds w a l) (hb:Below w.heap.size w w'):Fds w' a l:=by
 rcases h with h | ⟨b,off,ha,hlt,hc⟩
 ·exact .inl h
 ·refine .inr ⟨b,off,ha,Nat.lt_of_lt_of_le hlt hb.size,fun i p hp=> ?_⟩;rw [hb.cell (p:=⟨b,off+i*5,none⟩) hlt,hb.cell (p:=⟨b,off+i*5+1,none⟩) hlt,hb.cell (p:=⟨b,off+i*5+2,none⟩) hlt,hb.cell (p:=⟨b,off+i*5+3,none⟩) hlt,hb.cell (p:=⟨b,off+i*5+4,none⟩) hlt];exact hc i p hp
theorem Fds.at {w:World} {a:Option Addr} {l:List Fd} (h:Fds w a l) {i:Nat} (hi:i<l.length):
  ∃b off p,a=some ⟨b,off,none⟩/\b<w.heap.size/\l[i]?=some p/\w.cell? ⟨b,off+i*5,none⟩=some (.int .i64 p.id)/\w.cell? ⟨b,off+i*5+1,none⟩=some (.int .i64 p.kind)/\w.cell? ⟨b,off+i*5+2,none⟩=some (.int .i64 p.lo)/\w.cell? ⟨b,off+i*5+3,none⟩=some (.int .i64 p.hi)/\w.cell? ⟨b,off+i*5+4,none⟩=some (.int .i64 p.most):=by
 exact t61
end field
section
structure zF_ (f:field.Fd) where
def zF (f:field.Fd):zF_ f:=⟨⟩
instance (f:field.Fd) (m:zF_ f):CoeDep (zF_ f) m (List Value):=⟨[.int .i64 f.id,.int .i64 f.kind,.int .i64 f.lo,.int .i64 f.hi,.int .i64 f.most]⟩
instance (f:field.Fd) (m:zF_ f):CoeDep (zF_ f) m (Array Value):=⟨#[.int .i64 f.id,.int .i64 f.kind,.int .i64 f.lo,.int .i64 f.hi,.int .i64 f.most]⟩
instance (f:field.Fd) (m:zF_ f):CoeDep (zF_ f) m Value:=⟨.agg #[.int .i64 f.id,.int .i64 f.kind,.int .i64 f.lo,.int .i64 f.hi,.int .i64 f.most]⟩
end
namespace field
open Go.ChangeShapes Go.WideShapes Go.ChangeAt Go.RowKit Go.Deep
structure Va where
 (n:Int) (s:ByteArray)
instance:Inhabited Va:=⟨⟨0,⟨#[]⟩⟩⟩
structure Va.Good (W:World) (p:Va):Prop where
 unit:True
 bn: -9223372036854775808<=p.n/\p.n<=9223372036854775807
theorem Va.Good.below {W W':World} {p:Va} (h:p.Good W) (hb:Below W.heap.size W W'):p.Good W':=⟨h.unit,h.bn⟩
section
variable {H:Type} {enc:TypeId×Value->H} {P:Program} {W:World}
theorem Be {t0 t1:TypeId} {n:Nat} {v0 v1:Value} {y0 y1:DataW H×List MemPlace} (u0:P.underlying t0=some (.int .i64)) (u1:P.underlying t1=some .string)
  (h0:DataW.trod enc P W 0 (fun _=>true) true n t0 [v0]=some y0) (h1:DataW.trod enc P W 0 (fun _=>true) true n t1 [v1]=some y1):
  ∃p:Va,p.Good W/\v0=.int .i64 p.n/\v1=.string p.s:=by
 obtain ⟨x0,e0,_,w0⟩:=DataW.trod_int u0 h0;have a0:=wf_i64 _ w0;obtain ⟨x1,e1,_⟩:=DataW.trod_string u1 h1;exact ⟨⟨x0,x1⟩,⟨trivial,a0⟩,by simpa using e0,by simpa using e1⟩
def Vas (w:World) (a:Option Addr) (l:List Va):Prop:=
 l=[]\/∃b off,a=some ⟨b,off,none⟩/\b<w.heap.size/\∀i p,l[i]?=some p->w.cell? ⟨b,off+i*2,none⟩=some (.int .i64 p.n)/\w.cell? ⟨b,off+i*2+1,none⟩=some (.string p.s)
theorem Gi {t e:TypeId} {f0 f1:Field} {a:Option Addr} {len cap:Nat} {d:DataW H} {pl:List MemPlace} (ht:P.underlying t=some (.slice e)) (he:P.underlying e=some (.struct #[f0,f1])) (hone:oneCellFields P #[f0,f1]=true) (hC:P.cellsOf e=2)
  (u0:P.underlying f0.type=some (.int .i64)) (u1:P.underlying f1.type=some .string)
  (h0:DataW.Trod enc P W 0 (fun _=>true) true t (.slice a len cap) d pl):∃l:List Va,len=l.length/\Vas W a l/\(∀p∈l,p.Good W)/\len<=cap/\cap<=maxLen:=by
 obtain ⟨fuel,hf⟩:=h0;have hf2:DataW.trod enc P W 0 (fun _=>true) true fuel t [.slice a len cap]=some (d,pl):=by simpa [Value.cells] using hf
 rcases open_slice ht hf2 with ⟨hcs,_⟩ | ⟨A,len',cap',q,n,D,Pl,hcs,_,hlc,hcm,hm,hx0,hrow⟩
 ·simp at hcs;obtain ⟨rfl,rfl,rfl⟩:=hcs;exact ⟨[],rfl,.inl rfl,by simp,Nat.le_refl _,by unfold maxLen;omega⟩
 ·simp at hcs;obtain ⟨rfl,rfl,rfl⟩:=hcs;simp only [if_true] at hm;have each:∀r,r<len->∃p:Va,p.Good W/\W.cell? (A.add (r*2))=some (.int .i64 p.n)/\W.cell? (A.add (r*2+1))=some (.string p.s):=by
   intro r hr;obtain ⟨cs',h1,h2⟩:=hrow r om_;rw [hC] at h1;obtain ⟨_,hlen0,hcell⟩:=World.cells?_some h1;obtain ⟨ys,m,_,_,hl,hlen,hx⟩:=DataW.trod_struct he h2;rw [hC] at hl;match cs',hl with
   | [c0,c1],_=>
    have each:∀(i:Nat) (f:Field) (c:Value),#[f0,f1][i]?=some f->[c0,c1][i]?=some c->∃y,DataW.trod enc P W 0 (fun _=>true) true m f.type [c]=some y:=by
     intro i f c hi hc;obtain ⟨o,k⟩:=hone_of hone i f hi;have hi6:i<2:=by have:=(Array.getElem?_eq_some_iff.1 hi).1;simpa using this
     have h1:=hx i f hi;rw [o,k] at h1;have e:(([c0,c1].drop i).take 1)=[c]:=by
      rw [List.take_one];have:([c0,c1].drop i).head?=some c:=by
       rw [List.head?_drop];simpa using hc
      rw [this];rfl
     rw [e] at h1;have hy:ys[i]?=some (ys[i]'(by rw [hlen];exact hi6)):=List.getElem?_eq_getElem _;exact ⟨_,h1.trans hy⟩
    obtain ⟨y0,g0⟩:=each 0 f0 c0 rfl rfl;obtain ⟨y1,g1⟩:=each 1 f1 c1 rfl rfl;obtain ⟨p,hp,rfl,rfl⟩:=Be u0 u1 g0 g1;have k0:=hcell 0 om_;have k1:=hcell 1 om_;rw [add_add] at k0 k1;exact ⟨p,hp,by simpa using k0,by simpa using k1⟩
  obtain ⟨y,hy⟩:=choose_lt each;refine ⟨(List.range len).map y,by simp, ?_, ?_,by omega,hcm⟩
  ·by_cases hz:len=0
   ·subst hz;exact .inl rfl
   ·right;obtain ⟨b,off,spot⟩:=A;have hc0:=(hy 0 om_).2.1;have hspot:spot=none:=by simpa [Addr.add] using World.cell?_spot hc0
    subst hspot;have hb:b<W.heap.size:=by
     have:=World.block_lt_of_cell? W _ hc0;simpa [Addr.add] using this
    refine ⟨b,off,rfl,hb,fun i p hp=> ?_⟩;have hi:i<len:=by have:=(List.getElem?_eq_some_iff.1 hp).1;simpa using this
    simp [hi] at hp;subst hp;obtain ⟨_,e50,e51⟩:=hy i hi;rw [Addr.add_lit] at e50 e51;exact ⟨e50,by rw [Nat.add_assoc];exact e51⟩
  ·intro p hp;obtain ⟨i,hi,rfl⟩:=List.mem_map.1 hp;exact (hy i (List.mem_range.1 hi)).1
end
theorem Vas.below {w w':World} {a:Option Addr} {l:List Va} (h:Vas w a l) (hb:Below w.heap.size w w'):Vas w' a l:=by
 rcases h with h | ⟨b,off,ha,hlt,hc⟩
 ·exact .inl h
 ·refine .inr ⟨b,off,ha,Nat.lt_of_lt_of_le hlt hb.size,fun i p hp=> ?_⟩;rw [hb.cell (p:=⟨b,off+i*2,none⟩) hlt,hb.cell (p:=⟨b,off+i*2+1,none⟩) hlt];exact hc i p hp
theorem Vas.at {w:World} {a:Option Addr} {l:List Va} (h:Vas w a l) {i:Nat} (hi:i<l.length):
  ∃b off p,a=some ⟨b,off,none⟩/\b<w.heap.size/\l[i]?=some p/\w.cell? ⟨b,off+i*2,none⟩=some (.int .i64 p.n)/\w.cell? ⟨b,off+i*2+1,none⟩=some (.string p.s):=by
 rcases h with rfl | ⟨b,off,ha,hlt,hc⟩
 ·simp at hi
 ·have hp:=List.getElem?_eq_getElem hi;exact ⟨b,off,_,ha,hlt,hp,hc i _ hp⟩
end field
section
structure zV_ (v:field.Va) where
def zV (v:field.Va):zV_ v:=⟨⟩
instance (v:field.Va) (m:zV_ v):CoeDep (zV_ v) m (List Value):=⟨[.int .i64 v.n,.string v.s]⟩
instance (v:field.Va) (m:zV_ v):CoeDep (zV_ v) m (Array Value):=⟨#[.int .i64 v.n,.string v.s]⟩
instance (v:field.Va) (m:zV_ v):CoeDep (zV_ v) m Value:=⟨.agg #[.int .i64 v.n,.string v.s]⟩
end
section
structure zS_ (v:Int) (a:Option Addr) (n c:Nat) where
def zS (v:Int) (a:Option Addr) (n c:Nat):zS_ v a n c:=⟨⟩
instance (v:Int) (a:Option Addr) (n c:Nat) (m:zS_ v a n c):CoeDep (zS_ v a n c) m (List Value):=⟨[.int .i64 v,.slice a n c]⟩
instance (v:Int) (a:Option Addr) (n c:Nat) (m:zS_ v a n c):CoeDep (zS_ v a n c) m (Array Value):=⟨#[.int .i64 v,.slice a n c]⟩
instance (v:Int) (a:Option Addr) (n c:Nat) (m:zS_ v a n c):CoeDep (zS_ v a n c) m Value:=⟨.agg #[.int .i64 v,.slice a n c]⟩
end
theorem t63{P:Prop}(h:P:=by
 simp only [results,h];simp at hp;simp [hp,asAddr,run_loadVar_mid w b o ty cs d hc hu hd hi]):P:=h
section
open Go.RowKit
def Block (w:World) (b:Nat) (t:TypeId) (cs:List Value):Prop:=w.heap[b]?=some (.cells cs.toArray t (0,0))
theorem Block.lt {w:World} {b:Nat} {t:TypeId} {cs:List Value} (h:Block w b t cs):b<w.heap.size:=(Array.getElem?_eq_some_iff.1 h).1
theorem Block.cell {w:World} {b:Nat} {t:TypeId} {cs:List Value} (h:Block w b t cs) (j:Nat):w.cell? ⟨b,j,none⟩=cs[j]?:=by
 rw [cell_of_row w b j cs.toArray t (0,0) h];simp
theorem Block.frozen {w:World} {b:Nat} {t:TypeId} {cs:List Value} (h:Block w b t cs) (j:Nat):w.frozen? ⟨b,j,none⟩=false:=frozen_of_row w b j cs.toArray t h
theorem Block.range {w:World} {b:Nat} {t:TypeId} {cs:List Value} (h:Block w b t cs) (o:Nat) (vs:List Value) (hv:∀j v,vs[j]?=some v->cs[o+j]?=some v):w.rangeAt b o vs:=
 fun j v hj=>by rw [h.cell];exact hv j v hj
theorem Block.whole {w:World} {b:Nat} {t:TypeId} {cs:List Value} (h:Block w b t cs):w.rangeAt b 0 cs:=h.range 0 cs (fun j v hj=>by rw [Nat.zero_add];exact hj)
theorem Block.there {w:World} {b:Nat} {t:TypeId} {cs:List Value} (h:Block w b t cs) (o n:Nat) (hn:o+n<=cs.length):w.there b o n:=
 fun j hj=>⟨by rw [h.cell,List.getElem?_eq_getElem om_];rfl,h.frozen _⟩
theorem Block.setCell {w:World} {b:Nat} {t:TypeId} {cs:List Value} (h:Block w b t cs) (j:Nat) (v:Value):Block (w.setCell ⟨b,j,none⟩ v) b t (cs.set j v):=by
 have:=heap_setCell_same w b j cs.toArray t v h;unfold Block;rw [this];simp
def put (cs:List Value):Nat->List Value->List Value
 | _,[]=>cs
 | o,v :: r=>put (cs.set o v) (o+1) r
theorem Je (A X C Y:List Value) (h:X.length=Y.length):put (A++X++C) A.length Y=A++Y++C:=by
 induction Y generalizing A X with
 | nil=>obtain rfl:X=[]:=List.eq_nil_of_length_eq_zero (by simpa using h);rfl
 | cons y r ih=>
  cases X with
  | nil=>simp at h
  | cons x X=>
   have e:(A++x :: X++C).set A.length y=(A++[y])++X++C:=by simp
   have:=ih (A++[y]) X (by simpa using h);rw [put,e,show A.length+1=(A++[y]).length by simp,this];simp
theorem fZ (X Y:List Value) (h:X.length=Y.length):put X 0 Y=Y:=by
 have:=Je [] X [] Y h;simpa using this
theorem Block.setCells {b:Nat} {t:TypeId}:∀ {vs:List Value} {o:Nat} {w:World} {cs:List Value},Block w b t cs->Block (w.setCells b o vs) b t (put cs o vs)
 | [],_,_,_,h=>h
 | v :: r,o,w,cs,h=>Block.setCells (vs:=r) (o:=o+1) (h.setCell o v)
theorem Block.alloc {w:World} {b:Nat} {t:TypeId} {cs:List Value} (h:Block w b t cs) (ob:Obj):Block (w.alloc ob) b t cs:=(Below.heap_alloc w ob b h.lt).trans h
theorem Block.new (w:World) (t:TypeId) (cs:List Value):Block (w.alloc (.cells cs.toArray t)) w.heap.size t cs:=heap_alloc_last w _
theorem Block.drewN {w:World} {b:Nat} {t:TypeId} {cs:List Value} (h:Block w b t cs) (n:Nat):Block (w.drewN n) b t cs:=h
theorem Block.below {w w':World} {b B:Nat} {t:TypeId} {cs:List Value} (h:Block w b t cs) (hb:Below B w w') (hB:b<B):Block w' b t cs:=(hb.block b hB).trans h
theorem Block.later {w w':World} {b:Nat} {t:TypeId} {cs:List Value} (h:Block w b t cs) (hb:Below w.heap.size w w'):Block w' b t cs:=h.below hb h.lt
theorem Block.apart {w:World} {b:Nat} {t:TypeId} {cs:List Value} (h:Block w b t cs) (g o:Nat) (v:Value) (hg:b≠g):Block (w.setCell ⟨g,o,none⟩ v) b t cs:=
 (Below.heap_setCell w ⟨g,o,none⟩ v b hg).trans h
theorem fO (g:Nat):∀(vs:List Value) (o:Nat) (w:World) (k:Nat),k≠g->(w.setCells g o vs).heap[k]?=w.heap[k]?
 | [],_,_,_,_=>rfl
 | v :: r,o,w,k,h=>(fO g r (o+1) _ k h).trans (Below.heap_setCell w ⟨g,o,none⟩ v k h)
theorem size_setCells (g:Nat):∀(vs:List Value) (o:Nat) (w:World),(w.setCells g o vs).heap.size=w.heap.size
 | [],_,_=>rfl
 | v :: r,o,w=>(size_setCells g r (o+1) _).trans si_
theorem gZ (g:Nat):∀(vs:List Value) (o:Nat) (w:World),(w.setCells g o vs).os=w.os/\(w.setCells g o vs).tape=w.tape/\(w.setCells g o vs).output=w.output
 | [],_,_=>⟨rfl,rfl,rfl⟩
 | v :: r,o,w=>gZ g r (o+1) (w.setCell ⟨g,o,none⟩ v)
theorem Block.kZ {w:World} {b:Nat} {t:TypeId} {cs:List Value} (h:Block w b t cs) (g o:Nat) (vs:List Value) (hg:b≠g):Block (w.setCells g o vs) b t cs:=
 (fO g vs o w b hg).trans h
theorem below_setCells {B g:Nat} {a w:World} (h:Below B a w) (hg:B<=g) (o:Nat) (vs:List Value):Below B a (w.setCells g o vs):=
 h.trans ⟨(gZ g vs o w).1,(gZ g vs o w).2.1,(gZ g vs o w).2.2,by rw [size_setCells];exact Nat.le_refl _,fun k hk=>fO g vs o w k om_⟩
theorem ax {P:Program} {w:World} {ops:Array Oper} {rest:List Oper} {op:Oper} {a:Act} {Q:Exit->Act->World->Prop} (hgd:op.guard=none) (ty:TypeId) (x y:Operand) (ho:op.op=.store ty x y)
  (b o:Nat) (cells:Array Value) (hx:a.eval x=.pointer (some ⟨b,o,none⟩)) (hy:a.eval y=.agg cells)
  (ht:w.there b o cells.size) (hi:(P.info? ty).map (·.size)=some cells.size) (h1:cells.all (·.oneCell')=true)
  (h:∀w',Hid (w.setCells b o cells.toList=w')->wpList P ops Q rest (a.put op.dst undef) w'):wpList P ops Q (op :: rest) a w:=
 wpList_store_mid hgd ty x y ho b o cells hx hy ht hi h1 (h _ rfl)
theorem aO {fn:Func} {p:Tmp} {ty:TypeId} {tmps:Array Value} {P:Program} {w:World} {b o:Nat} {cs:List Value} {d:TypeDesc} (h:fn.results=#[.cell p ty])
  (hp:tmps.getD p undef=.pointer (some ⟨b,o,none⟩)) (hc:w.rangeAt b o cs) (hu:P.underlying ty=some d) (hd:d.isRow=true) (hi:(P.info? ty).map (·.size)=some cs.length):
  (results fn tmps).run P w=.ok (.agg cs.toArray) w:=by
 exact t63
theorem aK {w w':World} {base e size n:Nat} {v:Value} {xs:List Value} (h:w.ownsRow base e size v n xs) (hb:Below w.heap.size w w'):w'.ownsRow base e size v n xs:=by
 refine ⟨h.1, ?_⟩;rcases h.2 with h0 | ⟨g,cap,cur,hv,h1,hg,h2,h3,h4,h5⟩
 ·exact .inl h0
 ·exact .inr ⟨g,cap,cur,hv,h1,(hb.block g (Array.getElem?_eq_some_iff.1 hg).1).trans hg,h2,h3,h4,h5⟩
def But (B g:Nat) (w w':World):Prop:=
 w'.os=w.os/\w'.tape=w.tape/\w'.output=w.output/\w.heap.size<=w'.heap.size/\∀k,k<B->k≠g->w'.heap[k]?=w.heap[k]?
theorem But.refl (B g:Nat) (w:World):But B g w w:=⟨rfl,rfl,rfl,Nat.le_refl _,fun _ _ _=>rfl⟩
theorem But.trans {B g:Nat} {a b c:World} (h:But B g a b) (k:But B g b c):But B g a c:=
 ⟨k.1.trans h.1,k.2.1.trans h.2.1,k.2.2.1.trans h.2.2.1,Nat.le_trans h.2.2.2.1 k.2.2.2.1,fun j h1 h2=>(k.2.2.2.2 j h1 h2).trans (h.2.2.2.2 j h1 h2)⟩
theorem Below.but {B g:Nat} {a b:World} (h:Below B a b):But B g a b:=⟨h.os,h.tape,h.output,h.size,fun k hk _=>h.block k hk⟩
theorem But.below {B B' g:Nat} {a b:World} (h:But B g a b) (hB:B'<=B) (hg:B'<=g):Below B' a b:=⟨h.1,h.2.1,h.2.2.1,h.2.2.2.1,fun k hk=>h.2.2.2.2 k om_ om_⟩
theorem But.mono {B B' g:Nat} {a b:World} (h:But B g a b) (hB:B'<=B):But B' g a b:=⟨h.1,h.2.1,h.2.2.1,h.2.2.2.1,fun k hk hg=>h.2.2.2.2 k om_ hg⟩
theorem But.setCells {B g:Nat} {a w:World} (h:But B g a w) (o:Nat) (vs:List Value):But B g a (w.setCells g o vs):=
 h.trans ⟨(gZ g vs o w).1,(gZ g vs o w).2.1,(gZ g vs o w).2.2,by rw [size_setCells];exact Nat.le_refl _,fun k _ hg=>fO g vs o w k hg⟩
theorem But.setCell {B g:Nat} {a w:World} (h:But B g a w) (o:Nat) (v:Value):But B g a (w.setCell ⟨g,o,none⟩ v):=h.setCells o [v]
theorem But.step {B g:Nat} {a w w':World} (h:But B g a w) (k:Below w.heap.size w w') (hB:B<=w.heap.size):But B g a w':=h.trans (Below.but (k.mono hB))
theorem But.drewN {B g:Nat} {a w:World} (h:But B g a w) (n:Nat):But B g a (w.drewN n):=h
theorem Block.but {w w':World} {b B g:Nat} {t:TypeId} {cs:List Value} (h:Block w b t cs) (hb:But B g w w') (hB:b<B) (hg:b≠g):Block w' b t cs:=(hb.2.2.2.2 b hB hg).trans h
theorem Reads.but {k:IntKind} {w w':World} {b off len B g:Nat} {xs:List Nat} (h:Reads k w (some ⟨b,off,none⟩) len xs) (hb:But B g w w') (hB:b<B) (hg:b≠g):Reads k w' (some ⟨b,off,none⟩) len xs:=by
 refine ⟨h.1, ?_⟩;rcases h.2 with h | ⟨b',off',ha,hlt,hc⟩
 ·exact .inl h
 ·cases ha
  refine .inr ⟨b,off,rfl,Nat.lt_of_lt_of_le hlt hb.2.2.2.1,fun i hi=> ?_⟩;rw [World.cell?_of_block (w:=w) (hb.2.2.2.2 b hB hg)];exact hc i hi
theorem Block.reads {k:IntKind} {w:World} {b:Nat} {t:TypeId} {cs:List Value} (h:Block w b t cs) (o:Nat) (xs:List Nat) (hx:∀i,i<xs.length->cs[o+i]?=some (.int k ((xs.getD i 0:Nat):Int))) (n:Nat) (hn:xs.length=n):Reads k w (some ⟨b,o,none⟩) n xs:=
 ⟨hn,.inr ⟨b,o,rfl,h.lt,fun i hi=>by rw [h.cell];exact hx i om_⟩⟩
end
namespace field
open Go.RowKit
def bytesOf (s:ByteArray):List Nat:=s.data.toList.map UInt8.toNat
theorem bytesOf_length (s:ByteArray):(bytesOf s).length=s.size:=by unfold bytesOf;rw [List.length_map,Array.length_toList];rfl
theorem jG (s:ByteArray):∀x∈bytesOf s,x<256:=by
 intro x hx;obtain ⟨b,_,rfl⟩:=List.mem_map.1 hx;exact b.toNat_lt
theorem jK (s:ByteArray):strOf (bytesOf s)=s:=by
 obtain ⟨l⟩:=s;unfold strOf strOfNums bytesOf;congr 1;apply Array.ext';simp [List.map_map,Function.comp_def]
theorem jJ {xs:List Nat} (h:∀x∈xs,x<256):bytesOf (strOf xs)=xs:=by
 unfold strOf strOfNums bytesOf;simp only [List.map_map];conv=>rhs;rw [<-List.map_id xs]
 apply List.map_congr_left;intro x hx;have:=h x hx;simp [UInt8.toNat_ofNat',Nat.mod_eq_of_lt this]
theorem oz (xs:List Nat):(strOf xs).size=xs.length:=by unfold strOf;rw [strOfNums_size];simp
theorem vO (s:ByteArray):Lib.strCells s=(bytesOf s).map fun x:Nat=>Value.int .u8 (x:Int):=by
 simp [Lib.strCells,bytesOf,List.map_map,Function.comp_def]
def Fd.Right (f:Fd):Prop:=
 (0<=f.id/\f.id<=255)/\((f.kind=1/\f.lo<=f.hi/\ -1099511627776<=f.lo/\f.hi<=1099511627776/\f.most=0)\/(f.kind=2/\(f.lo=0/\f.hi=0)/\f.most=0)\/
  (f.kind=3/\(f.lo=0/\f.hi=0)/\1<=f.most/\f.most<=1000)\/(f.kind=4/\(f.lo=0/\f.hi=0)/\0<=f.most/\f.most<=32))
instance (f:Fd):Decidable f.Right:=by unfold Fd.Right;infer_instance
def Fd.great (f:Fd):Int:=if f.kind=1 then f.hi else if f.kind=2 then 1 else if f.kind=3 then f.most - 1 else 0
def Fd.long (f:Fd):Int:=if f.kind=4 then f.most else 0
def Fd.Has (f:Fd) (v:Va):Prop:=f.Right/\(f.lo<=v.n/\v.n<=f.great)/\(v.s.size:Int)<=f.long
instance (f:Fd) (v:Va):Decidable (f.Has v):=by unfold Fd.Has;infer_instance
def Fd.Wider (f g:Fd):Prop:=f.Right/\g.Right/\f.kind=g.kind/\g.lo<=f.lo/\f.hi<=g.hi/\f.most<=g.most
instance (f g:Fd):Decidable (f.Wider g):=by unfold Fd.Wider;infer_instance
def wide (n:Nat):Nat:=if n=0 then 0 else if n<256 then 1 else if n<65536 then 2 else if n<16777216 then 3 else if n<4294967296 then 4 else if n<1099511627776 then 5 else 6
theorem sG (n:Nat):wide n<=6:=by
 unfold wide;repeat' split
 all_goals omega
theorem Hu {n:Nat} (h:0<n) (hn:n<281474976710656):wide n=wide (n / 256)+1:=by
 unfold wide;repeat' split
 all_goals omega
theorem Il {n:Nat} (hn:n<281474976710656):n<256 ^ wide n:=by
 unfold wide;repeat' split
 all_goals first | omega | (simp;omega)
def Fd.size (f:Fd):Nat:=if f.Right then (if f.kind=4 then 1+f.most.toNat else wide (f.great - f.lo).toNat) else 0
theorem Fd.size_le (f:Fd):f.size<=33:=by
 unfold Fd.size;split
 ·rename_i h;unfold Fd.Right at h;have:=sG (f.great - f.lo).toNat;split <;> omega
 ·omega
def digits (k n:Nat):List Nat:=(List.range k).map fun p=>n / 256 ^ (k - 1 - p) % 256
theorem digits_length (k n:Nat):(digits k n).length=k:=by simp [digits]
theorem Fa (k n:Nat):∀x∈digits k n,x<256:=by
 intro x hx;obtain ⟨p,_,rfl⟩:=List.mem_map.1 hx;exact Nat.mod_lt _ om_
theorem uQ (k n:Nat):digits (k+1) n=digits k (n / 256)++[n % 256]:=by
 unfold digits;rw [List.range_succ,List.map_append];congr 1
 ·apply List.map_congr_left;intro p hp;have hp:=List.mem_range.1 hp;rw [show k+1 - 1 - p=(k - 1 - p)+1 by omega,Nat.pow_succ,Nat.mul_comm,<-Nat.div_div_eq_div_mul]
 ·simp
theorem BL (k n:Nat):digits (k+1) n=(n / 256 ^ k % 256) :: digits k n:=by
 unfold digits;rw [List.range_succ_eq_map,List.map_cons,List.map_map];congr 1;apply List.map_congr_left;intro p hp;simp only [Function.comp];rw [show k+1 - 1 - Nat.succ p=k - 1 - p by omega]
def num (xs:List Nat):Nat:=xs.foldl (fun a x=>256*a+x) 0
theorem sD (xs:List Nat) (x:Nat):num (xs++[x])=256*num xs+x:=by simp [num,List.foldl_append]
theorem xI:∀(k n:Nat),num (digits k n)=n % 256 ^ k
 | 0,n=>by simp [digits,num,Nat.mod_one]
 | k+1,n=>by
  rw [uQ,sD,xI k,Nat.pow_succ,Nat.mul_comm (256 ^ k) 256,Nat.mod_mul];omega
theorem CZ:∀(k:Nat) (xs:List Nat),xs.length=k->(∀x∈xs,x<256)->num xs<256 ^ k
 | 0,xs,h,_=>by
  obtain rfl:=List.eq_nil_of_length_eq_zero h;simp [num]
 | k+1,xs,h,hx=>by
  have hne:xs≠[]:=by intro h0;simp [h0] at h
  have hd:=List.dropLast_concat_getLast hne;have hl:xs.dropLast.length=k:=by simp [h]
  have h1:=CZ k xs.dropLast hl (fun x hm=>hx x ((List.dropLast_sublist xs).subset hm));have h2:=hx _ (List.getLast_mem hne);rw [<-hd,sD,Nat.pow_succ];omega
theorem vS:∀(k:Nat) (xs:List Nat),xs.length=k->(∀x∈xs,x<256)->digits k (num xs)=xs
 | 0,xs,h,_=>by
  obtain rfl:=List.eq_nil_of_length_eq_zero h;simp [digits]
 | k+1,xs,h,hx=>by
  have hne:xs≠[]:=by intro h0;simp [h0] at h
  have hd:=List.dropLast_concat_getLast hne;have hl:xs.dropLast.length=k:=by simp [h]
  have h1:=vS k xs.dropLast hl (fun x hm=>hx x ((List.dropLast_sublist xs).subset hm));have h2:=hx _ (List.getLast_mem hne);conv=>lhs;rw [<-hd,sD]
  rw [uQ,show (256*num xs.dropLast+xs.getLast hne) / 256=num xs.dropLast by omega,show (256*num xs.dropLast+xs.getLast hne) % 256=xs.getLast hne by omega,h1];exact hd
def Fd.oV (f:Fd) (v:Va):Int:=if ¬f.Right then 2 else if ¬f.Has v then 16 else 0
def Fd.dA (f:Fd) (v:Va):List Nat:=if ¬f.Has v then [] else if f.kind=4 then v.s.size :: bytesOf v.s else digits f.size (v.n - f.lo).toNat
structure Tk where
 (n:Int) (s:List Nat) (c:Nat) (e:Int)
def Fd.take (f:Fd) (xs:List Nat):Tk:=
 if ¬f.Right then ⟨0,[],0,2⟩ else if f.kind=4 then
  (if xs.length<1 then ⟨0,[],0,5⟩ else if f.most<(xs.getD 0 0:Nat) then ⟨0,[],0,16⟩ else if xs.length<1+xs.getD 0 0 then ⟨0,[],0,5⟩ else ⟨0,(xs.drop 1).take (xs.getD 0 0),1+xs.getD 0 0,0⟩)
 else if xs.length<f.size then ⟨0,[],0,5⟩ else if f.great - f.lo<(num (xs.take f.size):Nat) then ⟨0,[],0,16⟩ else ⟨f.lo+(num (xs.take f.size):Nat),[],f.size,0⟩
theorem Fd.Right.span {f:Fd} (h:f.Right):f.lo<=f.great/\f.great - f.lo<=2199023255552/\ -1099511627776<=f.lo/\f.lo<=1099511627776/\0<=f.long/\f.long<=32:=by
 unfold Fd.Right at h;unfold Fd.great Fd.long;obtain ⟨_,h⟩:=h;rcases h with h | h | h | h <;> obtain ⟨h1,h2⟩:=h <;> rw [h1] <;> simp <;> omega
theorem Fd.DR (f:Fd) (v:Va):∀x∈f.dA v,x<256:=by
 unfold Fd.dA;split
 ·simp
 ·rename_i h;have h':f.Has v:=Classical.not_not.1 h;obtain ⟨hr,_,h3⟩:=h';have:=hr.span;split
  ·intro x hx;rcases List.mem_cons.1 hx with rfl | hx
   ·omega
   ·exact jG _ x hx
  ·exact Fa _ _
theorem Fd.ny {f:Fd} {v:Va} (h:f.Has v) (more:List Nat):f.take (f.dA v++more)=⟨v.n,bytesOf v.s,(f.dA v).length,0⟩/\(f.dA v).length<=f.size:=by
 have hh:=h;obtain ⟨hr,⟨h1,h2⟩,h3⟩:=h;have hs:=hr.span;have hL:f.dA v=if f.kind=4 then v.s.size :: bytesOf v.s else digits f.size (v.n - f.lo).toNat:=by unfold Fd.dA;rw [if_neg (show ¬¬f.Has v from fun h=>h hh)]
 rw [hL];unfold Fd.take;rw [if_neg (show ¬¬f.Right from fun h=>h hr)];by_cases hk:f.kind=4
 ·have hr':=hr;unfold Fd.Right at hr';have hg:f.great=0/\f.long=f.most:=by simp [Fd.great,Fd.long,hk]
  have hv:v.n=0:=by omega
  have hb:=bytesOf_length v.s;rw [if_pos hk,if_pos hk];simp only [List.cons_append,List.length_cons,List.getD_cons_zero,List.length_append,List.drop_succ_cons,List.drop_zero];rw [if_neg om_,if_neg om_,if_neg om_];refine ⟨?_, ?_⟩
  ·rw [hv,List.take_append_of_le_length om_,List.take_of_length_le om_,hb];congr 1;omega
  ·unfold Fd.size;rw [if_pos hr,if_pos hk];omega
 ·rw [if_neg hk,if_neg hk];have hl:f.long=0:=by simp [Fd.long,hk]
  have hse:bytesOf v.s=[]:=List.eq_nil_of_length_eq_zero (by rw [bytesOf_length];omega);have hsz:f.size=wide (f.great - f.lo).toNat:=by unfold Fd.size;rw [if_pos hr,if_neg hk]
  have hw:=Il (n:=(f.great - f.lo).toNat) om_;rw [<-hsz] at hw;have ht:(digits f.size (v.n - f.lo).toNat++more).take f.size=digits f.size (v.n - f.lo).toNat:=by
   rw [List.take_append_of_le_length (by rw [digits_length];omega),List.take_of_length_le (by rw [digits_length];omega)]
  have hn:num (digits f.size (v.n - f.lo).toNat)=(v.n - f.lo).toNat:=by rw [xI,Nat.mod_eq_of_lt om_]
  rw [ht,hn,List.length_append,digits_length,if_neg om_,if_neg om_,hse];refine ⟨?_,by omega⟩;congr 1;omega
theorem Fd.vZ {f:Fd} {xs:List Nat} (hx:∀x∈xs,x<256) (h:(f.take xs).e=0):
  f.Has ⟨(f.take xs).n,strOf (f.take xs).s⟩/\(f.take xs).c<=xs.length/\f.dA ⟨(f.take xs).n,strOf (f.take xs).s⟩=xs.take (f.take xs).c:=by
 have hx':∀x∈(f.take xs).s,x<256:=by
  unfold Fd.take;split
  ·simp
  ·split
   ·split
    ·simp
    ·split
     ·simp
     ·split
      ·simp
      ·intro x hm;exact hx x (List.mem_of_mem_drop (List.mem_of_mem_take hm))
   ·split
    ·simp
    ·split <;> simp
 by_cases hr:f.Right;case neg=>simp [Fd.take,hr] at h
 have hs:=hr.span;by_cases hk:f.kind=4
 ·have hr':=hr;unfold Fd.Right at hr';have hg:f.great=0/\f.long=f.most:=by simp [Fd.great,Fd.long,hk]
  by_cases h1:xs.length<1
  ·unfold Fd.take at h;rw [if_neg (show ¬¬f.Right from fun h=>h hr),if_pos hk,if_pos h1] at h;simp at h
  by_cases h2:f.most<(xs.getD 0 0:Nat)
  ·unfold Fd.take at h;rw [if_neg (show ¬¬f.Right from fun h=>h hr),if_pos hk,if_neg h1,if_pos h2] at h;simp at h
  by_cases h3:xs.length<1+xs.getD 0 0
  ·unfold Fd.take at h;rw [if_neg (show ¬¬f.Right from fun h=>h hr),if_pos hk,if_neg h1,if_neg h2,if_pos h3] at h;simp at h
  have ht:f.take xs=⟨0,(xs.drop 1).take (xs.getD 0 0),1+xs.getD 0 0,0⟩:=by
   unfold Fd.take;rw [if_neg (show ¬¬f.Right from fun h=>h hr),if_pos hk,if_neg h1,if_neg h2,if_neg h3]
  rw [ht] at hx' ⊢;simp only at hx' ⊢;have hsl:(strOf ((xs.drop 1).take (xs.getD 0 0))).size=xs.getD 0 0:=by rw [oz,List.length_take,List.length_drop];omega
  have hH:f.Has ⟨0,strOf ((xs.drop 1).take (xs.getD 0 0))⟩:=by
   refine ⟨hr,⟨by simp only;omega,by simp only;omega⟩, ?_⟩;simp only;rw [hsl];omega
  refine ⟨hH,by omega, ?_⟩;unfold Fd.dA;rw [if_neg (show ¬¬f.Has _ from fun h=>h hH),if_pos hk];simp only;rw [hsl,jJ hx'];cases xs with
  | nil=>simp at h1
  | cons y ys=>simp [Nat.add_comm 1]
 ·by_cases h1:xs.length<f.size
  ·unfold Fd.take at h;rw [if_neg (show ¬¬f.Right from fun h=>h hr),if_neg hk,if_pos h1] at h;simp at h
  by_cases h2:f.great - f.lo<(num (xs.take f.size):Nat)
  ·unfold Fd.take at h;rw [if_neg (show ¬¬f.Right from fun h=>h hr),if_neg hk,if_neg h1,if_pos h2] at h;simp at h
  have ht:f.take xs=⟨f.lo+(num (xs.take f.size):Nat),[],f.size,0⟩:=by
   unfold Fd.take;rw [if_neg (show ¬¬f.Right from fun h=>h hr),if_neg hk,if_neg h1,if_neg h2]
  rw [ht];simp only;have hH:f.Has ⟨f.lo+(num (xs.take f.size):Nat),strOf []⟩:=by
   refine ⟨hr,⟨by simp only;omega,by simp only;omega⟩, ?_⟩;simp only;rw [oz];simp;omega
  refine ⟨hH,by omega, ?_⟩;unfold Fd.dA;rw [if_neg (show ¬¬f.Has _ from fun h=>h hH),if_neg hk];simp only;rw [show (f.lo+(num (xs.take f.size):Nat) - f.lo).toNat=num (xs.take f.size) by omega];exact vS _ _ (by rw [List.length_take];omega) (fun x hm=>hx x (List.mem_of_mem_take hm))
theorem Fd.Wider.has {f g:Fd} {v:Va} (h:f.Wider g) (hv:f.Has v):g.Has v:=by
 obtain ⟨h1,h2,h3,h4,h5,h6⟩:=h;obtain ⟨_,⟨h7,h8⟩,h9⟩:=hv;refine ⟨h2,⟨by omega, ?_⟩, ?_⟩
 ·unfold Fd.great at h8 ⊢;rw [<-h3];split <;> rename_i hk
  ·simp [hk] at h8;omega
  ·simp only [hk,if_false] at h8;split <;> rename_i hk2
   ·simp [hk2] at h8;omega
   ·simp only [hk2,if_false] at h8;split <;> rename_i hk3
    ·simp [hk3] at h8;omega
    ·simp only [hk3,if_false] at h8;omega
 ·unfold Fd.long at h9 ⊢;rw [<-h3];split <;> rename_i hk
  ·simp [hk] at h9;omega
  ·simp only [hk,if_false] at h9;omega
end field
theorem t134{P:Prop}(h:P:=by
 have h1:=hall e he hb;rw [heq,getD_both hun] at h1;cases h1):P:=h
theorem t121{P:Prop}(h:P:=by
 have:k=n:=by simpa using hk
 subst this;exact ⟨by simpa [Region.lexHead] using hB,h⟩):P:=h
theorem t108{P:Prop}(h:P:=by
 rcases Nat.lt_or_ge j n with h | h
 ·exact h
 ·exact absurd hj (oP hs hc hn inv hm _ i rfl hin hun j h)):P:=h
theorem t106{P:Prop}(h:P:=by
 rcases Nat.lt_or_ge j n with h | h
 ·exact h
 ·exact absurd hj (tail_waits hs hc hn inv _ i rfl hin hun j h)):P:=h
theorem t94{P:Prop}(h:P:=by
 refine hfree k ok hk hki ?_ hno;by_cases hjk:j=k
 ·subst hjk;exact hjun
 ·rw [getD_set_ne true hjk] at hun;exact hun):P:=h
theorem t93{P:Prop}(h:P:=by
 refine ⟨hjn, ?_⟩;by_cases hji:j=i
 ·subst hji;exact hy.qOp hi H
 ·have:=hdone _ _ H j (ready_mono hj hji);omega):P:=h
namespace tail
open Go
section
variable {P:Program} {ops:Array Oper} {md:Region.Mode} {C:World->Prop}
def Az (P:Program) (md:Region.Mode) (ops:Array Oper) (C:World->Prop) (n:Nat) (L:Array Bool->Act->Prop):Nat->Array Bool->Act->Prop
 | 0,listed,a=>L listed a
 | f+1,listed,a=>
  Region.ready md ops listed≠[]/\∀i∈Region.ready md ops listed,i<n/\qOp P ops C i (Az P md ops C n L f (listed.setIfInBounds i true)) a
theorem pU {n g:Nat} {L:Array Bool->Act->Prop} {Q':Exit->Act->World->Prop} (hL:∀listed a w,C w->L listed a->wpAny P md ops Q' g listed a w):
  ∀(f:Nat) (listed:Array Bool) (a:Act) (w:World),C w->Az P md ops C n L f listed a->wpAny P md ops Q' (f+g) listed a w
 | 0,listed,a,w,hw,h=>by rw [Nat.zero_add];exact hL _ _ _ hw h
 | f+1,listed,a,w,hw,h=>by
  rw [show f+1+g=(f+g)+1 by omega];exact ⟨fun h0=>absurd h0 h.1,fun i hi=>wpOp_of_qOp hw (fun a' w' hw' h'=>pU hL f _ a' w' hw' h') (h.2 i hi).2⟩
theorem Cm {n i:Nat} {oi:Oper} {v:Value} {L:Array Bool->Act->Prop} (hi:ops[i]?=some oi) (hsel:∀(j:Nat) (o:Oper) cs b,ops[j]?=some o->o.op≠ .select cs b)
  (hs:Region.sinkB md ops n=true) (hc:Region.chainB md ops n=true) (hn:n<ops.size) (hin:i<n)
  (hdone:∀listed a,L listed a->∀j∈Region.ready md ops listed,n<=j):
  ∀(f:Nat) (listed:Array Bool) (a:Act),HeadInv md ops n listed->
   (∀j oj,ops[j]?=some oj->j≠i->listed.getD j true=false->(∀e∈oj.after,Region.binds md e=true->e.on≠i)->oi.apart ops oj=true)->
   i∈Region.ready md ops listed->YieldsIn P ops C oi v a->
   Az P md ops C n L f (listed.setIfInBounds i true) (a.put oi.dst v)->Az P md ops C n L (f+1) listed a:=by
 intro f;induction f with
 | zero=>
  intro listed a inv _ hr hy H;have hun:=(mem_ready.1 hr).1;refine ⟨fun h=>(by rw [h] at hr;cases hr),fun j hj=> ?_⟩;have hjn:j<n:=by
   exact t106
  exact t93
 | succ f ih=>
  intro listed a inv hfree hr hy H;have hun:=(mem_ready.1 hr).1;refine ⟨fun h=>(by rw [h] at hr;cases hr),fun j hj=> ?_⟩;have hjn:j<n:=by
   exact t106
  refine ⟨hjn, ?_⟩;by_cases hji:j=i
  ·subst hji;exact hy.qOp hi H
  ·have h1:=(H.2 j (ready_mono hj hji)).2;obtain ⟨hjun,oj,hoj,hall⟩:=mem_ready.1 hj;have hnot:∀e∈oj.after,Region.binds md e=true->e.on≠i:=fun e he hb heq=>by
    exact t134
   have h2:=qOp_put hoj (hfree j oj hoj hji hjun hnot) (fun cs b=>hsel i oi cs b hi) (fun cs b=>hsel j oj cs b hoj) hy h1;have hfree':∀k ok,ops[k]?=some ok->k≠i->(listed.setIfInBounds j true).getD k true=false->
     (∀e∈ok.after,Region.binds md e=true->e.on≠i)->oi.apart ops ok=true:=fun k ok hk hki hun hno=>by
    exact t94
   refine qOp_mono (fun a' h3=>ih (listed.setIfInBounds j true) a' (inv.set hj hjn) hfree' (ready_mono hr (Ne.symm hji)) h3.1 ?_) h2;rw [Array.setIfInBounds_comm _ _ hji];exact h3.2
theorem BO {n g:Nat} {Lq:Act->Prop} (hsel:Region.noSelect ops=true) (hs:Region.sinkB md ops n=true) (hc:Region.chainB md ops n=true) (hn:n<ops.size):
  ∀(l:List Oper) (k:Nat) (listed:Array Bool) (a:Act),(∀j,j<l.length->l[j]?=ops[k+j]?)->k+l.length=n->HeadInv md ops n listed->
  Region.lexHead md ops g l.length k listed=true->wpQuiet P ops C Lq l a->
  Az P md ops C n (fun listed' a'=>Region.seqB md ops g n listed'=true/\Lq a') l.length listed a
 | [],k,listed,a,_,hk,_,hB,h=>by
  exact t121
 | o :: l,k,listed,a,hl,hk,inv,hB,h=>by
  have h0:ops[k]?=some o:=by simpa using (hl 0 si_).symm
  simp only [List.length_cons,Region.lexHead,Bool.and_eq_true] at hB;obtain ⟨⟨hr,hf⟩,hB'⟩:=hB;have hkn:k<n:=by simp only [List.length_cons] at hk;omega
  have hr':k∈Region.ready md ops listed:=by simpa using hr
  have hst:qOp P ops C k (wpQuiet P ops C Lq l) a:=by unfold qOp;simp only [h0];exact h
  obtain ⟨v,hy,hK⟩:=yieldsIn_of_qOp h0 hst;exact Cm h0 (Region.noSelect_spec hsel) hs hc hn hkn (fun listed' a' hL=>seqB_ready hL.1) l.length listed a inv (Region.free_spec h0 hf) hr' hy
   (BO hsel hs hc hn l (k+1) _ _ (fun j hj=>by have:=hl (j+1) (by simp;omega);simpa [Nat.add_assoc,Nat.add_comm 1 j] using this) (by simp only [List.length_cons] at hk;omega) (inv.set hr' hkn) hB' hK)
theorem region {id:Nat} {Q:Exit->Act->World->Prop} {a:Act} {w:World} {l:List Oper} (n:Nat) (hm:P.follows .mixedOrders=true) (hB:Region.lexTailB .any l.toArray n=true)
  (h:wpQuiet P l.toArray (fun w'=>∃n,w'=w.drewN n) (fun a'=>∀w',(∃n,w'=w.drewN n)->wpList P l.toArray Q (l.drop n) a' w') (l.take n) a):(Code.region id l.toArray true).wp P Q a w:=by
 simp only [Region.lexTailB,Bool.and_eq_true,decide_eq_true_eq] at hB;obtain ⟨⟨⟨⟨hsel,hn⟩,hs⟩,hc⟩,hlex⟩:=hB;have hn':n<l.length:=by simpa using hn
 have htl:(l.take n).length=n:=by simp;omega
 have hdl:(l.drop n).length=l.toArray.size - n:=by simp
 have inv0:HeadInv .any l.toArray n (Array.replicate l.toArray.size false):=
  ⟨by simp,fun j oj _ hl=>(by rw [getD_replicate_false] at hl;cases hl),fun t _ ht=>getD_in (by simpa using ht) (getD_replicate_false _ _)⟩
 have H:=BO (md:=.any) (g:=l.toArray.size - n) hsel hs hc hn (l.take n) 0 _ a (fun j hj=>by
  have hj':j<n:=by rw [htl] at hj;exact hj
  simp [hj']) (by simpa using htl) inv0 (by rw [htl];exact hlex) h
 refine wp_region_any hm ?_;have:=pU (C:=fun w'=>∃n,w'=w.drewN n) (Q':=Q) (g:=l.toArray.size - n) (fun listed a' w' hw' hL=>by
  have:=wpAny_of_seq (md:=.any) (Q':=Q) (l.drop n) n listed a' w' (fun j=>by simp [List.getElem?_drop]) (by rw [hdl];exact hL.1) (hL.2 w' hw');rwa [hdl] at this) _ _ _ _ ⟨1,rfl⟩ H
 rw [htl,show n+(l.toArray.size - n)=l.toArray.size by omega] at this;exact this
def rP (md:Region.Mode) (ops:Array Oper) (m n:Nat):Bool:=
 (List.range n).all fun i=>decide (i<m) || (List.range (n+1)).any fun j=>decide (i<j) && Region.waitsFor md ops j i
theorem oP {m n:Nat} {listed:Array Bool} (hs:rP md ops m n=true) (hc:Region.chainB md ops n=true) (hn:n<ops.size) (inv:HeadInv md ops n listed)
  (hm:∀i,i<m->listed.getD i true=true):
  ∀(d i:Nat),n - i=d->i<n->listed.getD i true=false->∀t,n<=t->t∉Region.ready md ops listed:=by
 intro d;induction d using Nat.strongRecOn with
 | _ d ih=>
  intro i hd hi hun t ht hr;obtain ⟨_,ot,hot,hall⟩:=mem_ready.1 hr;have htlt:t<ops.size:=(Array.getElem?_eq_some_iff.1 hot).1;by_cases htn:t=n
  ·subst htn;have h1:=List.all_eq_true.1 hs i (List.mem_range.2 hi);have hnm:¬i<m:=fun h=>by rw [hm i h] at hun;cases hun
   simp only [Bool.or_eq_true,decide_eq_true_eq,hnm,false_or] at h1;obtain ⟨j,hj,hj2⟩:=List.any_eq_true.1 h1;simp only [Bool.and_eq_true,decide_eq_true_eq] at hj2;obtain ⟨oj,hoj,e,he,hb,hon⟩:=Region.waitsFor_spec hj2.2;have hjle:j<=t:=by have:=List.mem_range.1 hj;omega
   by_cases hjt:j=t
   ·subst hjt;have:oj=ot:=Option.some.inj (hoj.symm.trans hot);subst this;have h2:=hall e he hb;rw [hon,getD_both hun] at h2;cases h2
   ·cases hl:listed.getD j false with
    | true=>
     have h2:=inv.closed j oj hoj hl e he hb;rw [hon,getD_both hun] at h2;cases h2
    | false=>
     have hjs:j<listed.size:=by rw [inv.size];omega
     exact ih (t - j) om_ j rfl om_ (getD_in hjs hl) t (Nat.le_refl _) hr
  ·have h1:=List.all_eq_true.1 hc t (List.mem_range.2 htlt);simp only [Bool.or_eq_true,decide_eq_true_eq] at h1;rcases h1 with h1 | h1
   ·omega
   ·obtain ⟨o',ho',e,he,hb,hon⟩:=Region.waitsFor_spec h1;have:o'=ot:=Option.some.inj (ho'.symm.trans hot);subst this;have h2:=hall e he hb;rw [hon,getD_both (inv.tail (t - 1) om_ om_)] at h2;cases h2
theorem uV {m n i:Nat} {oi:Oper} {v:Value} {L:Array Bool->Act->Prop} (hi:ops[i]?=some oi) (hsel:∀(j:Nat) (o:Oper) cs b,ops[j]?=some o->o.op≠ .select cs b)
  (hs:rP md ops m n=true) (hc:Region.chainB md ops n=true) (hn:n<ops.size) (hin:i<n)
  (hdone:∀listed a,L listed a->∀j∈Region.ready md ops listed,n<=j):
  ∀(f:Nat) (listed:Array Bool) (a:Act),HeadInv md ops n listed->(∀i,i<m->listed.getD i true=true)->
   (∀j oj,ops[j]?=some oj->j≠i->listed.getD j true=false->(∀e∈oj.after,Region.binds md e=true->e.on≠i)->oi.apart ops oj=true)->
   i∈Region.ready md ops listed->YieldsIn P ops C oi v a->
   Az P md ops C n L f (listed.setIfInBounds i true) (a.put oi.dst v)->Az P md ops C n L (f+1) listed a:=by
 intro f;induction f with
 | zero=>
  intro listed a inv hm _ hr hy H;have hun:=(mem_ready.1 hr).1;refine ⟨fun h=>(by rw [h] at hr;cases hr),fun j hj=> ?_⟩;have hjn:j<n:=by
   exact t108
  exact t93
 | succ f ih=>
  intro listed a inv hm hfree hr hy H;have hun:=(mem_ready.1 hr).1;refine ⟨fun h=>(by rw [h] at hr;cases hr),fun j hj=> ?_⟩;have hjn:j<n:=by
   exact t108
  refine ⟨hjn, ?_⟩;by_cases hji:j=i
  ·subst hji;exact hy.qOp hi H
  ·have h1:=(H.2 j (ready_mono hj hji)).2;obtain ⟨hjun,oj,hoj,hall⟩:=mem_ready.1 hj;have hnot:∀e∈oj.after,Region.binds md e=true->e.on≠i:=fun e he hb heq=>by
    exact t134
   have h2:=qOp_put hoj (hfree j oj hoj hji hjun hnot) (fun cs b=>hsel i oi cs b hi) (fun cs b=>hsel j oj cs b hoj) hy h1;have hfree':∀k ok,ops[k]?=some ok->k≠i->(listed.setIfInBounds j true).getD k true=false->
     (∀e∈ok.after,Region.binds md e=true->e.on≠i)->oi.apart ops ok=true:=fun k ok hk hki hun hno=>by
    exact t94
   have hm':∀k,k<m->(listed.setIfInBounds j true).getD k true=true:=fun k hk=>by
    by_cases hjk:j=k
    ·subst hjk;rw [hm j hk] at hjun;cases hjun
    ·rw [getD_set_ne true hjk];exact hm k hk
   refine qOp_mono (fun a' h3=>ih (listed.setIfInBounds j true) a' (inv.set hj hjn) hm' hfree' (ready_mono hr (Ne.symm hji)) h3.1 ?_) h2;rw [Array.setIfInBounds_comm _ _ hji];exact h3.2
theorem qQ {m n g:Nat} {Lq:Act->Prop} (hsel:Region.noSelect ops=true) (hs:rP md ops m n=true) (hc:Region.chainB md ops n=true) (hn:n<ops.size):
  ∀(l:List Oper) (k:Nat) (listed:Array Bool) (a:Act),(∀j,j<l.length->l[j]?=ops[k+j]?)->k+l.length=n->m<=k->HeadInv md ops n listed->(∀i,i<m->listed.getD i true=true)->
  Region.lexHead md ops g l.length k listed=true->wpQuiet P ops C Lq l a->
  Az P md ops C n (fun listed' a'=>Region.seqB md ops g n listed'=true/\Lq a') l.length listed a
 | [],k,listed,a,_,hk,_,_,_,hB,h=>by
  exact t121
 | o :: l,k,listed,a,hl,hk,hmk,inv,hm,hB,h=>by
  have h0:ops[k]?=some o:=by simpa using (hl 0 si_).symm
  simp only [List.length_cons,Region.lexHead,Bool.and_eq_true] at hB;obtain ⟨⟨hr,hf⟩,hB'⟩:=hB;have hkn:k<n:=by simp only [List.length_cons] at hk;omega
  have hr':k∈Region.ready md ops listed:=by simpa using hr
  have hst:qOp P ops C k (wpQuiet P ops C Lq l) a:=by unfold qOp;simp only [h0];exact h
  obtain ⟨v,hy,hK⟩:=yieldsIn_of_qOp h0 hst;have hm':∀i,i<m->(listed.setIfInBounds k true).getD i true=true:=fun i hi=>by
   rw [getD_set_ne true om_];exact hm i hi
  exact uV h0 (Region.noSelect_spec hsel) hs hc hn hkn (fun listed' a' hL=>seqB_ready hL.1) l.length listed a inv hm (Region.free_spec h0 hf) hr' hy
   (qQ hsel hs hc hn l (k+1) _ _ (fun j hj=>by have:=hl (j+1) (by simp;omega);simpa [Nat.add_assoc,Nat.add_comm 1 j] using this) (by simp only [List.length_cons] at hk;omega) om_ (inv.set hr' hkn) hm' hB' hK)
theorem qj {Q:Exit->Act->World->Prop}:∀(fuel:Nat) (listed:Array Bool) (a:Act) (w:World),wpAny P md ops Q fuel listed a w->wpAnyH P md ops Q (fun _=>True) fuel listed a w
 | 0,_,_,_,h=>h
 | fuel+1,_,_,_,h=>⟨h.1,fun i hi=>wpOp_mono (fun a' w' h'=>⟨trivial,qj fuel _ a' w' h'⟩) (h.2 i hi)⟩
def zN (o:Oper):Bool:=o.guard.isNone && match o.op with | .move _=>true | _=>false
theorem GY {o:Oper} (h:zN o=true) (a:Act) (w:World):∃v,(execOp a.eval o).run P w=.ok (.value v) w/\∀w',(execOp a.eval o).run P w'=.ok (.value v) w':=by
 unfold zN at h;simp only [Bool.and_eq_true] at h;obtain ⟨_,h2⟩:=h;split at h2
 ·rename_i x hx;exact ⟨a.eval x,by simp [execOp,hx],fun w'=>by simp [execOp,hx]⟩
 ·cases h2
def pz (md:Region.Mode) (ops:Array Oper) (F:Nat->Array Bool->Bool):Nat->Nat->Array Bool->Bool
 | 0,k,listed=>F k listed
 | f+1,k,listed=>(Region.ready md ops listed).contains k && Region.free md ops listed k && ((ops[k]?).map zN == some true) && pz md ops F f (k+1) (listed.setIfInBounds k true)
theorem uz {m n:Nat} {Q:Exit->Act->World->Prop} {Lq:Act->Prop} {F:Nat->Array Bool->Bool} {w:World} (hsel:Region.noSelect ops=true) (hmn:m<=n) (hn:n<ops.size) (hC:C w)
  (hQ:∀c a a' w,Q (.panic c) a w->Q (.panic c) a' w) (g:Nat)
  (hK:∀listed a,HeadInv md ops n listed->(∀i,i<m->listed.getD i true=true)->F m listed=true->Lq a->wpAny P md ops Q g listed a w):
  ∀(l:List Oper) (k:Nat) (listed:Array Bool) (a:Act),(∀j,j<l.length->l[j]?=ops[k+j]?)->k+l.length=m->HeadInv md ops n listed->(∀i,i<k->listed.getD i true=true)->
  pz md ops F l.length k listed=true->wpQuiet P ops C Lq l a->wpAnyH P md ops Q (fun _=>True) (l.length+g) listed a w
 | [],k,listed,a,_,hk,inv,hm,hB,h=>by
  have:k=m:=by simpa using hk
  subst this;simp only [List.length_nil,Nat.zero_add];exact qj _ _ _ _ (hK _ _ inv hm (by simpa [pz] using hB) h)
 | o :: l,k,listed,a,hl,hk,inv,hm,hB,h=>by
  have h0:ops[k]?=some o:=by simpa using (hl 0 si_).symm
  simp only [List.length_cons,pz,Bool.and_eq_true] at hB;obtain ⟨⟨⟨hr,hf⟩,hmv⟩,hB'⟩:=hB;rw [h0] at hmv;have hmv':zN o=true:=by simpa using hmv
  have hkn:k<n:=by simp only [List.length_cons] at hk;omega
  have hr':k∈Region.ready md ops listed:=by simpa using hr
  have hst:qOp P ops C k (wpQuiet P ops C Lq l) a:=by unfold qOp;simp only [h0];exact h
  obtain ⟨v,hy,hK'⟩:=yieldsIn_of_qOp h0 hst;have hyI:YieldsIf P ops (fun _=>True) o v a:=by
   rcases hy with ⟨hw,hv⟩ | hy
   ·obtain ⟨u,hu,hu'⟩:=GY (P:=P) hmv' a w;have h3:=hv w hC;unfold Oper.quietAt at h3;rw [hu] at h3;simp only [Oper.quietUpon] at h3;exact .inl ⟨hw,fun w' _=>by rw [hu' w',h3.2]⟩
   ·exact .inr hy
  rw [show (o :: l).length+g=(l.length+g)+1 from by simp only [List.length_cons];omega];refine wpAnyH_take h0 hsel hf hr (fun c a w h=>hQ c _ _ w h) hyI trivial ?_;refine uz hsel hmn hn hC hQ g hK l (k+1) _ _ (fun j hj=>by have:=hl (j+1) (by simp;omega);simpa [Nat.add_assoc,Nat.add_comm 1 j] using this) (by simp only [List.length_cons] at hk;omega) (inv.set hr' hkn) ?_ hB' hK';intro i hi;by_cases h:k=i
  ·subst h;have hks:k<listed.size:=by rw [inv.size];omega
   simp [hks]
  ·rw [getD_set_ne true h];exact hm i om_
def uS (md:Region.Mode) (ops:Array Oper) (m n:Nat):Bool:=
 Region.noSelect ops && decide (n<ops.size) && decide (m<=n) && rP md ops m n && Region.chainB md ops n && pz md ops (fun k listed=>Region.lexHead md ops (ops.size - n) (n - m) k listed) m 0 (Array.replicate ops.size false)
theorem lS {Q:Act->Prop}:∀(l l':List Oper) (a:Act),wpQuiet P ops C Q (l++l') a->wpQuiet P ops C (wpQuiet P ops C Q l') l a
 | [],_,_,h=>h
 | o :: l,l',a,h=>by
  simp only [List.cons_append,wpQuiet] at h ⊢;split
  ·rename_i hw;simp only [hw,if_true] at h;exact Oper.quiet_mono (fun a' h'=>lS l l' a' h') h
  ·rename_i hw;simp only [hw] at h;exact lS l l' _ h
theorem BZ {id:Nat} {Q:Exit->Act->World->Prop} {a:Act} {w:World} {l:List Oper} (m n:Nat)
  (h:wpQuiet P l.toArray (fun w'=>∃n,w'=w.drewN n) (fun a'=>∀w',(∃n,w'=w.drewN n)->wpList P l.toArray (NoPanic Q) (l.drop n) a' w') (l.take n) a) (hmx:P.follows .mixedOrders=true:=by kernel_rfl) (hB:uS .any l.toArray m n=true:=by kernel_rfl):(Code.region id l.toArray true).wp P Q a w:=by
 simp only [uS,Bool.and_eq_true,decide_eq_true_eq] at hB;obtain ⟨⟨⟨⟨⟨hsel,hn⟩,hmn⟩,hs⟩,hc⟩,hlex⟩:=hB;have hn':n<l.length:=by simpa using hn
 have htl:(l.take n).length=n:=by simp;omega
 have hdl:(l.drop n).length=l.toArray.size - n:=by simp
 have hsz:l.toArray.size=l.length:=by simp
 have inv0:HeadInv .any l.toArray n (Array.replicate l.toArray.size false):=
  ⟨by simp,fun j oj _ hl=>(by rw [getD_replicate_false] at hl;cases hl),fun t _ ht=>getD_in (by simpa using ht) (getD_replicate_false _ _)⟩
 have hsplit:l.take n=l.take m++(l.take n).drop m:=by
  have h2:=List.take_append_drop m (l.take n);rw [List.take_take,Nat.min_eq_left hmn] at h2;exact h2.symm
 rw [hsplit] at h;have h1:=lS _ _ _ h;have hml:(l.take m).length=m:=by simp;omega
 have hdl2:((l.take n).drop m).length=n - m:=by simp;omega
 refine wp_region_noPanic (wp_region_held (S:=fun _=>True) hmx ?_);have key:=uz (md:=.any) (C:=fun w'=>∃n,w'=w.drewN n) (w:={ w with drawn:=w.drawn+1}) (Q:=NoPanic Q)
  (F:=fun k listed=>Region.lexHead .any l.toArray (l.toArray.size - n) (n - m) k listed) (g:=(n - m)+(l.toArray.size - n)) hsel hmn hn ⟨1,rfl⟩ (fun c a a' w h=>h)
  (fun listed a inv hm hF hL=>by
   have H:=qQ (md:=.any) (g:=l.toArray.size - n) hsel hs hc hn ((l.take n).drop m) m listed a (fun j hj=>by
    rw [hdl2] at hj;rw [List.getElem?_drop,List.getElem?_take,if_pos om_];simp) (by rw [hdl2];omega) (Nat.le_refl _) inv hm (by rw [hdl2];exact hF) hL
   have:=pU (C:=fun w'=>∃n,w'=w.drewN n) (Q':=NoPanic Q) (g:=l.toArray.size - n) (fun listed a' w' hw' hL=>by
    have:=wpAny_of_seq (md:=.any) (Q':=NoPanic Q) (l.drop n) n listed a' w' (fun j=>by simp [List.getElem?_drop]) (by rw [hdl];exact hL.1) (hL.2 w' hw');rwa [hdl] at this) _ _ _ { w with drawn:=w.drawn+1} ⟨1,rfl⟩ H
   rwa [hdl2] at this)
  (l.take m) 0 _ a (fun j hj=>by
   rw [hml] at hj;rw [List.getElem?_take,if_pos hj];simp) (by rw [hml];omega) inv0 (fun i hi=>by omega) (by rw [hml];exact hlex) h1
 rw [hml] at key;rwa [show m+(n - m+(l.toArray.size - n))=l.toArray.size from by omega] at key
end
end tail
theorem t176{P:Prop}(h:P:=by
 have h2':lo≥ -1099511627776:=h2;clear h
 exact t5):P:=h
theorem t174{P:Prop}(h:P:=by
 rcases h with hn | ⟨⟨rfl,rfl⟩,hn⟩
 ·exact t5
 ·exact t5):P:=h
theorem t96{P:Prop}(h:P:=by
 go_enter func107,ntmps107;go_wp2;go_ret;exact ⟨rfl,rfl⟩):P:=h
theorem t65{P:Prop}(h:P:=by
 go_wp2;go_ret;exact ⟨rfl,aC _ _⟩):P:=h
theorem t5{P:Prop}(h:P:=by
 go_enter func96,ntmps96;go_wp2_with (first
  | (go_at_call 107;(with_reducible refine hw0.mono ?_);rintro e w' ⟨rfl,rfl⟩;clear hw0)
  | (go_at_call 107;(with_reducible refine (fU _ _ _ _ hn).mono ?_);rintro e w' ⟨rfl,rfl⟩)
  | (go_at_call 129;(with_reducible refine (dM _ _ _ _).mono ?_);rintro e w1 ⟨rfl,hb1⟩;have hk1:=HS.o w1 hb1)
  | (go_at_call 129;(with_reducible refine (eG _ _ _ _ _ hn _).mono ?_);rintro e w1 ⟨rfl,hb1⟩;have hk1:=HS.o w1 hb1))
 go_ret;exact ⟨rfl,HB.o _ ba_⟩):P:=h
namespace field
open Go.RowKit
def Gives (v:Value) (w:World) (e:Ending) (w':World):Prop:=e=.returned v/\Below w.heap.size w w'
theorem aC (w:World) (d:Obj):Below w.heap.size w (w.alloc d):=(Below.refl _ _).alloc (Nat.le_refl _) _
theorem five (f:Fd) (w w':World) (hb:Below (w.alloc (.cells (zF f) 26)).heap.size (w.alloc (.cells (zF f) 26)) w'):(w'.cell? ⟨w.heap.size,0,none⟩=some (.int .i64 f.id)/\w'.cell? ⟨w.heap.size,1,none⟩=some (.int .i64 f.kind)/\w'.cell? ⟨w.heap.size,2,none⟩=some (.int .i64 f.lo)/\w'.cell? ⟨w.heap.size,3,none⟩=some (.int .i64 f.hi)/\w'.cell? ⟨w.heap.size,4,none⟩=some (.int .i64 f.most)):=by
 have hB:=(Block.new w 26 (zF f)).later hb;exact ⟨hB.cell 0,hB.cell 1,hB.cell 2,hB.cell 3,hB.cell 4⟩
theorem lU (f:Fd) (w w':World) (hb:Below (w.alloc (.cells (zF f) 26)).heap.size (w.alloc (.cells (zF f) 26)) w'):Below w.heap.size w w':=((Below.refl _ _).alloc (Nat.le_refl _) _).trans (hb.mono si_)
theorem nT (n lo hi:Int) (w:World) (h1:lo<=n) (h2:n<=hi):Calls prog 107 #[.int .i64 n,.int .i64 lo,.int .i64 hi] w fun e w'=>e=.returned (.bool true)/\w=w':=by
 exact t96
theorem fU (n lo hi:Int) (w:World) (h:n<lo\/hi<n):Calls prog 107 #[.int .i64 n,.int .i64 lo,.int .i64 hi] w fun e w'=>e=.returned (.bool false)/\w=w':=by
 by_cases h1:n<lo
 ·clear h
  exact t96
 ·have h2:hi<n:=by omega
  have h3:lo<=n:=by omega
  have hd:decide (n<=hi)=false:=decide_eq_false om_;clear h h1
  exact t96
theorem dM (i k m:Int) (w:World):Calls prog 129 #[.agg #[.int .i64 i,.int .i64 k,.int .i64 0,.int .i64 0,.int .i64 m]] w (Gives (.bool true) w):=by
 unfold Gives;go_enter func129,ntmps129
 exact t65
theorem eG (i k lo hi m:Int) (h:lo≠0\/hi≠0) (w:World):Calls prog 129 #[.agg #[.int .i64 i,.int .i64 k,.int .i64 lo,.int .i64 hi,.int .i64 m]] w (Gives (.bool false) w):=by
 unfold Gives;by_cases h1:lo=0
 ·have h2:(hi == 0)=false:=by rw [beq_eq_false_iff_ne];omega
  subst h1;clear h;go_enter func129,ntmps129
  exact t65
 ·have h2:(lo == 0)=false:=by rw [beq_eq_false_iff_ne];omega
  clear h h1;go_enter func129,ntmps129
  exact t65
theorem tY (f:Fd) (h:f.Right) (w:World):Calls prog 96 #[zF f] w (Gives (.bool true) w):=by
 have HB:=hid (lU f w);have HS:=hid (five f w);obtain ⟨i,k,lo,hi,m⟩:=f;obtain ⟨⟨h1,h2⟩,h⟩:=h;simp only at h h1 h2 HB HS ⊢;have hw0:=nT i 0 255 (w.alloc (.cells #[.int .i64 i,.int .i64 k,.int .i64 lo,.int .i64 hi,.int .i64 m] 26)) h1 h2;clear h1 h2;unfold Gives;rcases h with ⟨rfl,h1,h2,h3,rfl⟩ | ⟨rfl,⟨rfl,rfl⟩,rfl⟩ | ⟨rfl,⟨rfl,rfl⟩,h1,h2⟩ | ⟨rfl,⟨rfl,rfl⟩,h1,h2⟩
 all_goals
  go_enter func96,ntmps96
  go_wp2_with (first
   | (go_at_call 107;(with_reducible refine hw0.mono ?_);rintro e w' ⟨rfl,rfl⟩;clear hw0)
   | (go_at_call 107;(with_reducible refine (nT _ _ _ _ h1 h2).mono ?_);rintro e w' ⟨rfl,rfl⟩)
   | (go_at_call 129;(with_reducible refine (dM _ _ _ _).mono ?_);rintro e w1 ⟨rfl,hb1⟩;have hk1:=HS.o w1 hb1))
  go_ret
  exact ⟨rfl,HB.o _ ba_⟩
theorem Fd.wrong {i k lo hi m:Int} (h:¬(⟨i,k,lo,hi,m⟩:Fd).Right):(i<0\/255<i)\/((0<=i/\i<=255)/\(
  (k=1/\((lo>hi)\/(lo<=hi/\lo< -1099511627776)\/(lo<=hi/\ -1099511627776<=lo/\1099511627776<hi)\/(lo<=hi/\ -1099511627776<=lo/\hi<=1099511627776/\m≠0)))\/
  (k=2/\((lo≠0\/hi≠0)\/((lo=0/\hi=0)/\m≠0)))\/
  (k=3/\((lo≠0\/hi≠0)\/((lo=0/\hi=0)/\(m<1\/1000<m))))\/
  (k=4/\((lo≠0\/hi≠0)\/((lo=0/\hi=0)/\(m<0\/32<m))))\/
  (k≠1/\k≠2/\k≠3/\k≠4))):=by
 unfold Fd.Right at h;simp only at h;omega
theorem Bz (f:Fd) (h:¬f.Right) (w:World):Calls prog 96 #[zF f] w (Gives (.bool false) w):=by
 have HB:=hid (lU f w);have HS:=hid (five f w);obtain ⟨i,k,lo,hi,m⟩:=f;replace h:=Fd.wrong h;simp only at h HB HS ⊢;unfold Gives;rcases h with hn | ⟨⟨h1,h2⟩,h⟩
 ·have hw0:=fU i 0 255 (w.alloc (.cells #[.int .i64 i,.int .i64 k,.int .i64 lo,.int .i64 hi,.int .i64 m] 26)) hn;clear hn;go_enter func96,ntmps96;go_wp2_with (go_at_call 107;(with_reducible refine hw0.mono ?_);rintro e w' ⟨rfl,rfl⟩;clear hw0);go_ret;exact ⟨rfl,HB.o _ (Below.refl _ _)⟩
 have hw0:=nT i 0 255 (w.alloc (.cells #[.int .i64 i,.int .i64 k,.int .i64 lo,.int .i64 hi,.int .i64 m] 26)) h1 h2;clear h1 h2;rcases h with ⟨rfl,h⟩ | ⟨rfl,h⟩ | ⟨rfl,h⟩ | ⟨rfl,h⟩ | ⟨n1,n2,n3,n4⟩
 ·rcases h with h | ⟨h1,h⟩ | ⟨h1,h2,h⟩ | ⟨h1,h2,h3,h⟩
  ·have hd:decide (lo<=hi)=false:=decide_eq_false om_;clear h
   exact t5
  ·have hd:decide (lo≥ -1099511627776)=false:=decide_eq_false om_;clear h
   exact t5
  ·have hd:decide (hi<=1099511627776)=false:=decide_eq_false om_
   exact t176
  ·have hd:(m == 0)=false:=by rw [beq_eq_false_iff_ne];exact h
   exact t176
 ·rcases h with hn | ⟨⟨rfl,rfl⟩,h⟩
  ·exact t5
  ·have hd:(m == 0)=false:=by rw [beq_eq_false_iff_ne];exact h
   clear h
   exact t5
 ·exact t174
 ·exact t174
 ·have e1:(k == 1)=false:=by rw [beq_eq_false_iff_ne];exact n1
  have e2:(k == 2)=false:=by rw [beq_eq_false_iff_ne];exact n2
  have e3:(k == 3)=false:=by rw [beq_eq_false_iff_ne];exact n3
  have e4:(k == 4)=false:=by rw [beq_eq_false_iff_ne];exact n4
  clear n1 n2 n3 n4
  exact t5
theorem dL (f:Fd) (w:World):Calls prog 96 #[zF f] w (Gives (.bool (decide f.Right)) w):=by
 by_cases h:f.Right
 ·rw [decide_eq_true h];exact tY f h w
 ·rw [decide_eq_false h];exact Bz f h w
end field
namespace perm
open Go
section
variable {P:Program} {ops:Array Oper} {md:Region.Mode}
def sZ:Op->Bool
 | .move _ | .assign _ | .load _ _ | .binOp .. | .unOp .. | .slice .. | .fieldAddr .. | .indexAddr .. | .index .. | .extract .. | .convert .. =>true
 | .nilCheck _=>true
 | _=>false
theorem Ba {ρ:Operand->Value} {o:Oper} {w w':World} {n:Next} (h:sZ o.op=true) (hr:(execOp ρ o).run P w=.ok n w'):∃u,n=.value u:=by
 have key:∀(s:Sem Value),(do let x <-s;pure (Next.value x):Sem Next).run P w=.ok n w'->∃u,n=.value u:=fun s hs=>by
  rw [Sem.run_bind] at hs;cases hq:s.run P w with
  | ok u w1=>rw [hq] at hs;simp [Result.andThen] at hs;exact ⟨u,hs.1.symm⟩
  | halt x w1=>rw [hq] at hs;simp [Result.andThen] at hs
 unfold execOp at hr;cases ho:o.op <;> rw [ho] at h hr <;> simp only [sZ] at h <;> try cases h
 case move x=>simp at hr;exact ⟨_,hr.1.symm⟩
 case assign x=>simp at hr;exact ⟨_,hr.1.symm⟩
 case nilCheck x=>
  dsimp only at hr;split at hr
  ·simp [runtimePanic,Sem.run_bind,Result.andThen] at hr
  ·simp [runtimePanic] at hr
  ·simp [runtimePanic] at hr
  ·split at hr
   ·simp [runtimePanic] at hr
   ·simp only [Sem.run_bind] at hr;generalize Sem.run P program _=r1 at hr;cases r1 with
    | halt x w1=>simp [Result.andThen] at hr
    | ok p w1=>
     simp only [Result.andThen] at hr;generalize Sem.run P (nilAhead _ _ _ _) _=r2 at hr;cases r2 with
     | halt x w2=>simp at hr
     | ok q w2=>
      simp only at hr;split at hr
      ·simp [unsupported,Result.andThen] at hr
      ·simp at hr;exact ⟨_,hr.1.symm⟩
   ·simp at hr;exact ⟨_,hr.1.symm⟩
  ·simp at hr;exact ⟨_,hr.1.symm⟩
 all_goals exact key _ hr
theorem xB {o:Oper} {v:Value} {a:Act} (hp:sZ o.op=true) (hy:YieldsIn P ops (fun _=>True) o v a):YieldsIf P ops (fun _=>True) o v a:=by
 rcases hy with ⟨hw,hv⟩ | hy
 ·refine .inl ⟨hw,fun w' _=> ?_⟩;have h3:=hv w' trivial;unfold Oper.quietAt at h3;generalize hr:(execOp a.eval o).run P w'=r at h3;cases r with
  | halt x w2=>simp only [Oper.quietUpon] at h3
  | ok n w2=>
   obtain ⟨u,rfl⟩:=Ba hp hr;simp only [Oper.quietUpon] at h3;rw [h3.1,h3.2]
 ·exact .inr hy
def pX (md:Region.Mode) (ops:Array Oper) (F:Array Bool->Bool):List Nat->Array Bool->Bool
 | [],listed=>F listed
 | k :: is,listed=>(Region.ready md ops listed).contains k && Region.free md ops listed k && ((ops[k]?).map (fun o=>sZ o.op) == some true) && pX md ops F is (listed.setIfInBounds k true)
def yx (md:Region.Mode) (ops:Array Oper):List Nat->Array Bool->Bool
 | [],listed=>(Region.ready md ops listed).isEmpty
 | k :: js,listed=>decide (Region.ready md ops listed=[k]) && decide (k<ops.size) && yx md ops js (listed.setIfInBounds k true)
def JF (md:Region.Mode) (ops:Array Oper) (is js:List Nat):Bool:=
 Region.noSelect ops && decide (is.length+js.length=ops.size) && pX md ops (yx md ops js) is (Array.replicate ops.size false)
def nth:List Oper->Nat->List Oper
 | [],_=>[]
 | o :: _,0=>[o]
 | _ :: l,k+1=>nth l k
def jc (ops:List Oper):List Nat->List Oper
 | []=>[]
 | k :: is=>nth ops k++jc ops is
theorem D9:∀ {l:List Oper} {k:Nat} {o:Oper},l[k]?=some o->nth l k=[o]
 | [],k,o,h=>by simp at h
 | _ :: _,0,o,h=>by simp at h;simp [nth,h]
 | _ :: l,k+1,o,h=>by simp only [nth];exact D9 (by simpa using h)
theorem uJ {Q:Exit->Act->World->Prop} {l:List Oper}:∀(js:List Nat) (listed:Array Bool) (a:Act) (w:World),yx md l.toArray js listed=true->
  wpList P l.toArray Q (jc l js) a w->wpAny P md l.toArray Q js.length listed a w
 | [],_,_,_,hB,h=>⟨by simpa [yx] using hB,h⟩
 | k :: js,listed,a,w,hB,h=>by
  simp only [yx,Bool.and_eq_true,decide_eq_true_eq] at hB;obtain ⟨⟨hr,hk⟩,hB'⟩:=hB;have hk':k<l.length:=by simpa using hk
  have h0:l.toArray[k]?=some l[k]:=by simp [hk']
  have e:jc l (k :: js)=l[k] :: jc l js:=by simp [jc,D9 (show l[k]?=some l[k] by simp [hk'])]
  rw [e] at h;refine ⟨fun h1=>(by rw [hr] at h1;cases h1),fun i hi=> ?_⟩;rw [hr] at hi;have hik:i=k:=by simpa using hi
  subst hik;have hw:wpOp P l.toArray Q i (wpList P l.toArray Q (jc l js)) a w:=by unfold wpOp;simp only [h0];exact h
  exact wpOp_mono (fun a' w' h'=>uJ js _ a' w' hB' h') hw
theorem yF {Q:Exit->Act->World->Prop} {Lq:Act->Prop} {l:List Oper} {w:World} (F:Array Bool->Bool) (g:Nat) (hsel:Region.noSelect l.toArray=true)
  (hQ:∀c a a' w,Q (.panic c) a w->Q (.panic c) a' w) (hK:∀listed a,F listed=true->Lq a->wpAny P md l.toArray Q g listed a w):
  ∀(is:List Nat) (listed:Array Bool) (a:Act),pX md l.toArray F is listed=true->wpQuiet P l.toArray (fun _=>True) Lq (jc l is) a->
   wpAnyH P md l.toArray Q (fun _=>True) (is.length+g) listed a w
 | [],listed,a,hB,h=>by
  simp only [List.length_nil,Nat.zero_add];exact tail.qj _ _ _ _ (hK _ _ (by simpa [pX] using hB) h)
 | k :: is,listed,a,hB,h=>by
  simp only [pX,Bool.and_eq_true] at hB;obtain ⟨⟨⟨hr,hf⟩,hp⟩,hB'⟩:=hB;have hp':(l.toArray[k]?).map (fun o=>sZ o.op)=some true:=by simpa using hp
  obtain ⟨o,h0,ho⟩:=Option.map_eq_some_iff.1 hp';have hl0:l[k]?=some o:=by simpa using h0
  have e:jc l (k :: is)=o :: jc l is:=by simp [jc,D9 hl0]
  rw [e] at h;have hst:qOp P l.toArray (fun _=>True) k (wpQuiet P l.toArray (fun _=>True) Lq (jc l is)) a:=by unfold qOp;simp only [h0];exact h
  obtain ⟨v,hy,hK'⟩:=yieldsIn_of_qOp h0 hst;rw [show (k :: is).length+g=(is.length+g)+1 from by simp only [List.length_cons];omega];exact wpAnyH_take h0 hsel hf hr (fun c a w h=>hQ c _ _ w h) (xB ho hy) trivial (yF F g hsel hQ hK is _ _ hB' hK')
theorem region {id:Nat} {Q:Exit->Act->World->Prop} {a:Act} {w:World} {l:List Oper} (is js:List Nat) (hmx:P.follows .mixedOrders=true) (hB:JF .any l.toArray is js=true)
  (h:wpQuiet P l.toArray (fun _=>True) (fun a'=>wpList P l.toArray (NoPanic Q) (jc l js) a' w.drew) (jc l is) a):(Code.region id l.toArray true).wp P Q a w:=by
 simp only [JF,Bool.and_eq_true,decide_eq_true_eq] at hB;obtain ⟨⟨hsel,hlen⟩,hlex⟩:=hB;refine wp_region_noPanic (wp_region_held (S:=fun _=>True) hmx ?_);have key:=yF (md:=.any) (Q:=NoPanic Q) (w:={ w with drawn:=w.drawn+1}) (yx .any l.toArray js) js.length hsel (fun c a a' w h=>h)
  (fun listed a' hF hL=>uJ js listed a' _ hF hL) is _ a hlex h
 rwa [hlen] at key
end
end perm
theorem t140{P:Prop}(h:P:=by
 have e:l.toArray.size=l.length:=by simp
 rw [e];exact h):P:=h
namespace plan
open Go Go.RowKit
section
variable {P:Program} {md:Region.Mode} {Q:Exit->Act->World->Prop} {l:List Oper}
def Rest (P:Program) (md:Region.Mode) (l:List Oper) (Q:Exit->Act->World->Prop) (f:Nat) (listed:Array Bool) (a:Act) (w:World):Prop:=
 wpAnyH P md l.toArray (NoPanic Q) (Below w.heap.size w) f listed a w
theorem weaken {S S':World->Prop} (hS:∀w,S' w->S w):∀(f:Nat) (listed:Array Bool) (a:Act) (w:World),wpAnyH P md l.toArray Q S' f listed a w->wpAnyH P md l.toArray Q S f listed a w
 | 0,_,_,_,h=>h
 | f+1,_,_,_,h=>⟨h.1,fun i hi=>wpOp_mono (fun a' w' h'=>⟨hS _ h'.1,weaken hS f _ a' w' h'.2⟩) (h.2 i hi)⟩
theorem Rest.first {f:Nat} {listed:Array Bool} {a:Act} {w:World} (i:Nat) (o:Oper) (v:Value) (hi:l[i]?=some o) (hv:∀w',Below w.heap.size w w'->(execOp a.eval o).run P w'=.ok (.value v) w')
  (h:Rest P md l Q f (listed.setIfInBounds i true) (a.put o.dst v) w) (hs:Region.noSelect l.toArray=true:=by kernel_rfl) (hf:Region.free md l.toArray listed i=true:=by kernel_rfl) (hr:(Region.ready md l.toArray listed).contains i=true:=by kernel_rfl) (hw:Region.wanted o (yielded l.toArray a.tmps)=true:=by kernel_rfl):Rest P md l Q (f+1) listed a w:=
 wpAnyH_take (by simpa using hi) hs hf hr (fun c a' w' h=>h) (.inl ⟨hw,hv⟩) (Below.refl _ _) h
theorem Rest.value {f:Nat} {listed:Array Bool} {a:Act} {w:World} (i:Nat) (o:Oper) (v:Value) (hi:l[i]?=some o)
  (h:Rest P md l Q f (listed.setIfInBounds i true) (a.put o.dst v) w) (hr:Region.ready md l.toArray listed=[i]:=by kernel_rfl) (hw:Region.wanted o (yielded l.toArray a.tmps)=true:=by kernel_rfl) (hv:(execOp a.eval o).run P w=.ok (.value v) w:=by kernel_rfl):Rest P md l Q (f+1) listed a w:=by
 refine wpAnyH_all hr si_ fun j hj=> ?_
 obtain rfl:j=i:=by simpa using hj
 have hi':l.toArray[j]?=some o:=by simpa using hi
 unfold wpOp;simp only [hi',hw,if_true,Oper.wp,hv,Oper.upon_value];exact .inl ⟨Below.refl _ _,h⟩
theorem Rest.call {f:Nat} {listed:Array Bool} {a:Act} {w:World} (i:Nat) (o:Oper) (F:FuncId) (args:Array Value) (hi:l[i]?=some o)
  (h:Calls P F args w fun e w'=>∃v,e=.returned v/\Below w.heap.size w w'/\Rest P md l Q f (listed.setIfInBounds i true) (a.put o.dst v) w') (hr:Region.ready md l.toArray listed=[i]:=by kernel_rfl) (hw:Region.wanted o (yielded l.toArray a.tmps)=true:=by kernel_rfl) (hv:(execOp a.eval o).run P w=.ok (.enter F args) w:=by kernel_rfl):Rest P md l Q (f+1) listed a w:=by
 refine wpAnyH_all hr si_ fun j hj=> ?_
 obtain rfl:j=i:=by simpa using hj
 have hi':l.toArray[j]?=some o:=by simpa using hi
 unfold wpOp;simp only [hi',hw,if_true,Oper.wp,hv,Oper.upon];refine .inl (h.mono ?_);rintro e w' ⟨v,rfl,hb,hR⟩;exact ⟨hb,weaken (fun w'' hb'=>hb.trans (hb'.mono hb.size)) _ _ _ _ hR⟩
theorem Rest.done {listed:Array Bool} {a:Act} {w:World} (h:Q .normal a w) (hr:Region.ready md l.toArray listed=[]:=by kernel_rfl):Rest P md l Q 0 listed a w:=⟨hr,NoPanic.normal h⟩
theorem kC {o:Oper} {a:Act} {w:World} {ty:TypeId} {x:Operand} {b:Nat} {cs:List Value} {d:TypeDesc} (ho:o.op=.load ty x) (hc:w.rangeAt b 0 cs)
  (hu:P.underlying ty=some d) (hd:d.isRow=true) (hi:(P.info? ty).map (·.size)=some cs.length) (hx:a.eval x=.pointer (some ⟨b,0,none⟩):=by kernel_rfl):(execOp a.eval o).run P w=.ok (.value (.agg cs.toArray)) w:=by
 unfold execOp;simp [ho,hx,run_loadAt_mid w b 0 ty cs d hc hu hd hi]
theorem zq {o:Oper} {a:Act} {w:World} {s d:TypeId} {x:Operand} {v u:Value} (ho:o.op=.convert s d x) (hr:(convert s d v).run P w=.ok u w) (hx:a.eval x=v:=by kernel_rfl):(execOp a.eval o).run P w=.ok (.value u) w:=by
 unfold execOp;simp [ho,hx,hr]
theorem region {id:Nat} {a:Act} {w:World} (hmx:P.follows .mixedOrders=true) (h:Rest P .any l Q l.length (Array.replicate l.length false) a w.drew):(Code.region id l.toArray true).wp P Q a w:=by
 refine wp_region_noPanic (wp_region_held (S:=Below w.drew.heap.size w.drew) hmx ?_)
 exact t140
end
end plan
namespace plan
open Go Go.RowKit
section
variable {P:Program} {md:Region.Mode} {Q:Exit->Act->World->Prop} {l:List Oper}
theorem Rest.skip {f:Nat} {listed:Array Bool} {a:Act} {w:World} (i:Nat) (o:Oper) (hi:l[i]?=some o)
  (h:Rest P md l Q f (listed.setIfInBounds i true) (a.put o.dst undef) w) (hs:Region.noSelect l.toArray=true:=by kernel_rfl) (hf:Region.free md l.toArray listed i=true:=by kernel_rfl) (hr:(Region.ready md l.toArray listed).contains i=true:=by kernel_rfl) (hw:Region.wanted o (yielded l.toArray a.tmps)=false:=by kernel_rfl):Rest P md l Q (f+1) listed a w:=
 wpAnyH_take (by simpa using hi) hs hf hr (fun c a' w' h=>h) (.inr ⟨hw,rfl⟩) (Below.refl _ _) h
end
end plan
theorem t42{P:Prop}(h:P:=by
 obtain ⟨bp,cp,rfl,hcp⟩:=aB hown;have hsrc:Src P i.size t (.slice ap 0 c) 0 [] w:=by
  cases ap with
  | none=>exact Src.ofNil w ht c
  | some ad=>exact Src.ofSlice w ht ad 0 c [] si_ si_ si_
 have hrun:=run_append_nothing w t t o.type e i ht hi bp n cp hcp _ hsrc;refine wpList_plain hgd fun K hK=> ?_
 unfold Oper.wp;simp [execOp,ho,resolve,invoke,builtin,hs,hx,hrun,Result.andThen];exact hK _ _ (h _ w (by simpa using hown) (nU _ _))):P:=h
section
open Go.RowKit
theorem fK {w w':World} {base e size n:Nat} {v:Value} {xs:List Value} (h:w.ownsRow base e size v n xs) (hh:∀g,v.ownBlock=some g->w'.heap[g]?=w.heap[g]?):w'.ownsRow base e size v n xs:=by
 refine ⟨h.1, ?_⟩;rcases h.2 with h0 | ⟨g,cap,cur,hv,h1,hg,h2,h3,h4,h5⟩
 ·exact .inl h0
 ·exact .inr ⟨g,cap,cur,hv,h1,(hh g (by rw [hv];rfl)).trans hg,h2,h3,h4,h5⟩
theorem nU (w:World) (row:Option Nat):w.grownBy w row:=⟨rfl,rfl,rfl,Nat.le_refl _,fun _ _ _=>rfl⟩
theorem fV {P:Program} {w:World} {ops:Array Oper} {rest:List Oper} {o:Oper} {a:Act} {Q:Exit->Act->World->Prop} (hgd:o.guard=none) (s x:Operand) (t:TypeId)
  (ho:o.op=.call { callee:=.builtin .append,args:=#[s,x],argTypes:=#[t,t]})
  (base:Nat) (e:TypeId) (i:TypeInfo) (z:Value) (bytes:Nat) (ht:P.underlying t=some (.slice e)) (hi:P.info? e=some i) (hz:i.zero=some z)
  (hsize:i.size=1) (hby:i.bytes=bytes) (hzs:z.cells.size=1)
  (v:Value) (n:Nat) (xs:List Value) (hs:a.eval s=v) (hown:w.ownsRow base e 1 v n xs)
  (ap:Option Addr) (m c:Nat) (news:List Value) (hx:a.eval x=.slice ap m c) (hl:news.length=m)
  (hnews:m=0\/∃ad,ap=some ad/\∀j u,news[j]?=some u->w.cell? (ad.add j)=some u) (h1:∀u∈news,u.oneCell'=true)
  (h63:n+m<=maxLen) (hbytes:(n+m)*bytes<=140737488355328) (hbase:base<=w.heap.size)
  (h:∀v' w',w'.ownsRow base e 1 v' (n+m) (xs++news)->w.grownBy w' v.ownBlock->wpList P ops Q rest (a.put o.dst v') w'):wpList P ops Q (o :: rest) a w:=by
 by_cases hm:m=0
 ·subst hm;obtain rfl:news=[]:=List.eq_nil_of_length_eq_zero hl
  exact t42
 ·rcases hnews with h0 | ⟨ad,rfl,hc⟩
  ·exact absurd h0 hm
  ·exact wpList_append_own w hgd s x t ho base e i z 1 bytes ht hi hz hsize hby hzs de_ v n xs hs hown ad m c news hx om_ hc h1 h63 hbytes hbase (fun v' w' h2 h3 _=>h v' w' h2 h3)
end
namespace pen
open Go.RowKit
theorem tN {P:Program} {fn:Func} {R:Ending->World->Prop} {a:Act} {w:World} (h:fn.results=#[]) (hd:a.defers=[]) (hR:R (.returned (.tuple #[])) w):bodyPost P fn R .normal a w:=
 ⟨hd,.tuple #[],by simp [results,h],hR⟩
end pen
namespace plan
open Go Go.RowKit
structure Line (P:Program) (l:List Oper) (Q:Exit->Act->World->Prop) (i:Nat) (a:Act) (w:World):Prop where
 out:wpList P l.toArray Q (l.drop i) a w
section
variable {P:Program} {l:List Oper} {Q:Exit->Act->World->Prop} {a:Act} {w:World}
theorem line {id:Nat} (h:Line P l Q 0 a w):(Code.region id l.toArray false).wp P Q a w:=wp_region_lit h.out
theorem Cb {w1:World} (i:Nat) (o:Oper) (v:Value) (hi:l[i]?=some o) (hw:Region.wanted o (yielded l.toArray a.tmps)=true) (hv:(execOp a.eval o).run P w=.ok (.value v) w1) (h:Line P l Q (i+1) (a.put o.dst v) w1):Line P l Q i a w:=by
 have hk:=(List.getElem?_eq_some_iff.1 hi).1;have he:=(List.getElem?_eq_some_iff.1 hi).2;replace h:=h.out;refine ⟨?_⟩;rw [List.drop_eq_getElem_cons hk,he];unfold wpList;rw [if_pos hw];refine .inl ?_;unfold Oper.wp;rw [hv,Oper.upon_value];exact h
theorem aA (i:Nat) (o:Oper) (v:Value) (hi:l[i]?=some o) (hv:(execOp a.eval o).run P w=.ok (.value v) w) (h:Line P l Q (i+1) (a.put o.dst v) w) (hw:Region.wanted o (yielded l.toArray a.tmps)=true:=by kernel_rfl):Line P l Q i a w:=Cb i o v hi hw hv h
theorem yN (i:Nat) (o:Oper) (hi:l[i]?=some o) (hw:Region.wanted o (yielded l.toArray a.tmps)=false) (h:Line P l Q (i+1) (a.put o.dst undef) w):Line P l Q i a w:=by
 have hk:=(List.getElem?_eq_some_iff.1 hi).1;have he:=(List.getElem?_eq_some_iff.1 hi).2;replace h:=h.out;refine ⟨?_⟩;rw [List.drop_eq_getElem_cons hk,he];unfold wpList;rw [if_neg (by rw [hw];simp)];exact h
theorem yG (i:Nat) (o:Oper) (F:FuncId) (args:Array Value) (hi:l[i]?=some o) (hw:Region.wanted o (yielded l.toArray a.tmps)=true) (hv:(execOp a.eval o).run P w=.ok (.enter F args) w) (h:Calls P F args w fun e w'=>∃v,e=.returned v/\Line P l Q (i+1) (a.put o.dst v) w'):Line P l Q i a w:=by
 have hk:=(List.getElem?_eq_some_iff.1 hi).1;have he:=(List.getElem?_eq_some_iff.1 hi).2;refine ⟨?_⟩;rw [List.drop_eq_getElem_cons hk,he];unfold wpList;rw [if_pos hw];refine .inl ?_;unfold Oper.wp;rw [hv];simp only [Oper.upon];refine h.mono ?_;rintro e w' ⟨v,rfl,hR⟩;exact hR.out
theorem bQ {n:Nat} (hn:l.length<=n) (h:Q .normal a w):Line P l Q n a w:=by
 refine ⟨?_⟩;rw [List.drop_of_length_le hn];exact h
end
end plan
namespace plan
open Go Go.RowKit
def gate (x:Value) (want:Bool):Bool:=(match x with | .bool b=>some b | _=>none:Option Bool) == some want
theorem pY {x:Value} {want:Bool}:gate x want=true↔x=.bool want:=by
 unfold gate;cases x <;> simp
theorem mQ {o:Oper} {ops:Array Oper} {tmps:Array Value} {j:Nat} {want:Bool} {x:Value} (hg:o.guard=some (j,want)) (hj:((ops[j]?).bind (·.dst)).bind (tmps[·]?)=some x):Region.wanted o (yielded ops tmps)=gate x want:=by
 unfold Region.wanted yielded gate;rw [hg];simp only [hj];cases x <;> rfl
section
variable {P:Program} {l:List Oper} {Q:Exit->Act->World->Prop} {a:Act} {w:World}
theorem aG (i j:Nat) (o:Oper) (want:Bool) (x v:Value) (hi:l[i]?=some o) (hg:o.guard=some (j,want))
  (hv:x=.bool want->(execOp a.eval o).run P w=.ok (.value v) w) (h:∀y,(x=.bool want->y=v)->Line P l Q (i+1) (a.put o.dst y) w) (hj:((l.toArray[j]?).bind (·.dst)).bind (a.tmps[·]?)=some x:=by kernel_rfl):Line P l Q i a w:=by
 by_cases hb:gate x want=true
 ·exact aA i o v hi (hw:=((mQ hg hj).trans hb)) (hv (pY.1 hb)) (h v (fun _=>rfl))
 ·exact yN i o hi ((mQ hg hj).trans (by simpa using hb)) (h undef (fun e=>absurd (pY.2 e) hb))
theorem dJ (i j:Nat) (o:Oper) (want:Bool) (x v:Value) (F:FuncId) (args:Array Value) (S:World->Prop) (hi:l[i]?=some o) (hg:o.guard=some (j,want)) (hS:S w)
  (hv:x=.bool want->(execOp a.eval o).run P w=.ok (.enter F args) w) (hC:x=.bool want->Calls P F args w fun e w'=>e=.returned v/\S w') (h:∀y w',S w'->(x=.bool want->y=v)->Line P l Q (i+1) (a.put o.dst y) w') (hj:((l.toArray[j]?).bind (·.dst)).bind (a.tmps[·]?)=some x:=by kernel_rfl):Line P l Q i a w:=by
 by_cases hb:gate x want=true
 ·refine yG i o F args hi ((mQ hg hj).trans hb) (hv (pY.1 hb)) ((hC (pY.1 hb)).mono ?_);rintro e w' ⟨rfl,hS'⟩;exact ⟨v,rfl,h v w' hS' (fun _=>rfl)⟩
 ·exact yN i o hi ((mQ hg hj).trans (by simpa using hb)) (h undef w hS (fun e=>absurd (pY.2 e) hb))
theorem mW (i:Nat) (o:Oper) (v:Value) (F:FuncId) (args:Array Value) (S:World->Prop) (hi:l[i]?=some o) (hC:Calls P F args w fun e w'=>e=.returned v/\S w') (h:∀w',S w'->Line P l Q (i+1) (a.put o.dst v) w') (hw:Region.wanted o (yielded l.toArray a.tmps)=true:=by kernel_rfl) (hv:(execOp a.eval o).run P w=.ok (.enter F args) w:=by kernel_rfl):Line P l Q i a w:=by
 refine yG i o F args hi hw hv (hC.mono ?_);rintro e w' ⟨rfl,hS'⟩;exact ⟨v,rfl,h w' hS'⟩
theorem bF {o:Oper} {x y:Operand} {c e:Bool} (ho:o.op=.pick x (.const (.bool true)) y) (hy:c=false->a.eval y=.bool e) (hx:a.eval x=.bool c:=by kernel_rfl):(execOp a.eval o).run P w=.ok (.value (.bool (c || e))) w:=by
 unfold execOp;rw [ho];cases c
 ·simp only [hx,hy rfl];go_simp
 ·simp only [hx];go_simp
theorem bH {o:Oper} {x y:Operand} {c e:Bool} (ho:o.op=.pick x y (.const (.bool false))) (hy:c=true->a.eval y=.bool e) (hx:a.eval x=.bool c:=by kernel_rfl):(execOp a.eval o).run P w=.ok (.value (.bool (c && e))) w:=by
 unfold execOp;rw [ho];cases c
 ·simp only [hx];go_simp
 ·simp only [hx,hy rfl];go_simp
theorem gJ {o:Oper} {c e:Bool} (h:(execOp a.eval o).run P w=.ok (.value (.bool c)) w) (he:c=e):(execOp a.eval o).run P w=.ok (.value (.bool e)) w:=he ▸ h
theorem jl {o:Oper} {x:Operand} {c e:Bool} (ho:o.op=.assign x) (he:c=e) (hx:a.eval x=.bool c:=by kernel_rfl):(execOp a.eval o).run P w=.ok (.value (.bool e)) w:=by
 unfold execOp;rw [ho];simp only [hx,he];go_simp
end
end plan
theorem t117{P:Prop}(h:P:=by
 unfold execOp;simp [ho,hx,hy,run_storeAt_mid w g 0 ty cells (hb.there 0 cells.size om_) hs h1]):P:=h
theorem t114{P:Prop}(h:P:=by
 have:=hB.lt;simp only [ne_eq,Value.pointer.injEq,Option.some.injEq,Addr.mk.injEq,and_true];omega):P:=h
namespace plan
open Go Go.RowKit
theorem sU (a:Act) (d:Nat) (u v:Value):(a.put (some d) u).put (some d) v=a.put (some d) v:=by
 simp [Act.put]
theorem put_comm (a:Act) (d e:Nat) (u v:Value) (h:d≠e):(a.put (some d) u).put (some e) v=(a.put (some e) v).put (some d) u:=by
 simp only [Act.put,Act.mk.injEq,and_true];exact Array.setIfInBounds_comm u v h
section
variable {P:Program} {md:Region.Mode} {Q:Exit->Act->World->Prop} {l:List Oper}
theorem every {S:World->Prop} {f:Nat} {listed:Array Bool} {a:Act} {w:World} (hne:Region.ready md l.toArray listed≠[])
  (h:∀i∈Region.ready md l.toArray listed,∃o,l[i]?=some o/\o.guard=none/\
   ((∃v w1,(execOp a.eval o).run P w=.ok (.value v) w1/\S w1/\wpAnyH P md l.toArray (NoPanic Q) S f (listed.setIfInBounds i true) (a.put o.dst v) w1)\/
    (∃F args,(execOp a.eval o).run P w=.ok (.enter F args) w/\Calls P F args w fun e w'=>∃v,e=.returned v/\S w'/\wpAnyH P md l.toArray (NoPanic Q) S f (listed.setIfInBounds i true) (a.put o.dst v) w'))):
  wpAnyH P md l.toArray (NoPanic Q) S (f+1) listed a w:=by
 refine wpAnyH_all rfl hne fun i hi=> ?_
 obtain ⟨o,ho,hg,h⟩:=h i hi;have hi':l.toArray[i]?=some o:=by simpa using ho
 have hw:Region.wanted o (yielded l.toArray a.tmps)=true:=by unfold Region.wanted;rw [hg]
 unfold wpOp;rcases h with ⟨v,w1,hv,hb,hR⟩ | ⟨F,args,hv,hc⟩
 ·simp only [hi',hw,if_true,Oper.wp,hv,Oper.upon];exact .inl ⟨hb,hR⟩
 ·simp only [hi',hw,if_true,Oper.wp,hv,Oper.upon];refine .inl (hc.mono ?_);rintro e w' ⟨v,rfl,hb,hR⟩;exact ⟨hb,hR⟩
theorem store {f:Nat} {listed:Array Bool} {a:Act} {w0 w:World} (B i:Nat) (o:Oper) (ty:TypeId) (x y:Operand) (g:Nat) (t:TypeId) (cs:List Value) (cells:Array Value) (hi:l[i]?=some o) (hg:o.guard=none) (ho:o.op=.store ty x y) (hd:o.dst=none)
  (hr:Region.ready md l.toArray listed=[i]) (hx:a.eval x=.pointer (some ⟨g,0,none⟩)) (hy:a.eval y=.agg cells) (hb:Block w g t cs) (hl:cs.length=cells.size) (hs:(P.info? ty).map (·.size)=some cells.size) (h1:cells.all (·.oneCell')=true)
  (h0:Below B w0 w) (hB:B<=g)
  (hS:∀w',Below B w0 w'->Block w' g t cells.toList->(∀g' t' cs',g'≠g->Block w g' t' cs'->Block w' g' t' cs')->wpAnyH P md l.toArray (NoPanic Q) (Below B w0) f (listed.setIfInBounds i true) a w'):
  wpAnyH P md l.toArray (NoPanic Q) (Below B w0) (f+1) listed a w:=by
 refine wpAnyH_all hr si_ fun j hj=> ?_
 obtain rfl:j=i:=by simpa using hj
 have hi':l.toArray[j]?=some o:=by simpa using hi
 have hw:Region.wanted o (yielded l.toArray a.tmps)=true:=by unfold Region.wanted;rw [hg]
 have hrun:(execOp a.eval o).run P w=.ok .skip (w.setCells g 0 cells.toList):=by
  exact t117
 have hbl:Below B w0 (w.setCells g 0 cells.toList):=below_setCells h0 hB _ _;unfold wpOp;simp only [hi',hw,if_true,Oper.wp,hrun,Oper.upon];refine .inl ⟨hbl, ?_⟩;rw [hd];refine hS _ hbl ?_ fun g' t' cs' hne h'=>h'.kZ g 0 _ hne
 have:=hb.setCells (vs:=cells.toList) (o:=0);rwa [fZ _ _ (by simpa using hl)] at this
def at4 (a0:Act) (d2 d5 d6 d7:Nat) (v2 v5 p6 p7:Value):Act:=(((a0.put (some d2) v2).put (some d5) v5).put (some d6) p6).put (some d7) p7
structure Inv4 (w0:World) (t:TypeId) (Z:List Value) (V2 V5:Value) (b2 b5 b6 b7:Bool) (v2 v5 p6 p7:Value) (w:World):Prop where
 below:Below w0.heap.size w0 w
 c2:b2=true->v2=V2
 c5:b5=true->v5=V5
 a6:b6=true->∃g,p6=.pointer (some ⟨g,0,none⟩)/\w0.heap.size<=g/\Block w g t Z
 a7:b7=true->∃g,p7=.pointer (some ⟨g,0,none⟩)/\w0.heap.size<=g/\Block w g t Z
 ne:b6=true->b7=true->p6≠p7
theorem Inv4.later {w0 w w':World} {t:TypeId} {Z:List Value} {V2 V5:Value} {b2 b5 b6 b7:Bool} {v2 v5 p6 p7:Value} (h:Inv4 w0 t Z V2 V5 b2 b5 b6 b7 v2 v5 p6 p7 w) (hb:Below w.heap.size w w'):
  Inv4 w0 t Z V2 V5 b2 b5 b6 b7 v2 v5 p6 p7 w':=
 ⟨h.below.trans (hb.mono h.below.size),h.c2,h.c5,fun e=>(h.a6 e).imp fun g ⟨h1,h2,h3⟩=>⟨h1,h2,h3.later hb⟩,fun e=>(h.a7 e).imp fun g ⟨h1,h2,h3⟩=>⟨h1,h2,h3.later hb⟩,h.ne⟩
theorem four (a0:Act) (w0:World) (t:TypeId) (Z:List Value) (V2 V5:Value) (d2 d5 d6 d7:Nat) (o2 o5 o6 o7:Oper) (F:FuncId) (x2 x5:Array Value)
  (n25:d2≠d5) (n26:d2≠d6) (n27:d2≠d7) (n56:d5≠d6) (n57:d5≠d7) (n67:d6≠d7)
  (l2:l[2]?=some o2) (l5:l[5]?=some o5) (l6:l[6]?=some o6) (l7:l[7]?=some o7)
  (g2:o2.guard=none) (g5:o5.guard=none) (g6:o6.guard=none) (g7:o7.guard=none)
  (s2:o2.dst=some d2) (s5:o5.dst=some d5) (s6:o6.dst=some d6) (s7:o7.dst=some d7)
  (hready:∀b2 b5 b6 b7,(b5=true->b2=true)->(b2 && b5 && b6 && b7)=false->
   Region.ready md l.toArray #[true,true,b2,true,true,b5,b6,b7,false,false]=(if b2=true then (if b5=true then [] else [5]) else [2])++((if b6=true then [] else [6])++(if b7=true then [] else [7])))
  (r2:∀v2 v5 p6 p7 w,(execOp (at4 a0 d2 d5 d6 d7 v2 v5 p6 p7).eval o2).run P w=.ok (.enter F x2) w)
  (r5:∀v2 v5 p6 p7 w,(execOp (at4 a0 d2 d5 d6 d7 v2 v5 p6 p7).eval o5).run P w=.ok (.enter F x5) w)
  (r6:∀v2 v5 p6 p7 w,(execOp (at4 a0 d2 d5 d6 d7 v2 v5 p6 p7).eval o6).run P w=.ok (.value (.pointer (some ⟨w.heap.size,0,none⟩))) (w.alloc (.cells Z.toArray t)))
  (r7:∀v2 v5 p6 p7 w,(execOp (at4 a0 d2 d5 d6 d7 v2 v5 p6 p7).eval o7).run P w=.ok (.value (.pointer (some ⟨w.heap.size,0,none⟩))) (w.alloc (.cells Z.toArray t)))
  (k2:∀w,Calls P F x2 w fun e w'=>e=.returned V2/\Below w.heap.size w w') (k5:∀w,Calls P F x5 w fun e w'=>e=.returned V5/\Below w.heap.size w w')
  (rest:∀g g' w',w0.heap.size<=g->w0.heap.size<=g'->g≠g'->Block w' g t Z->Block w' g' t Z->Below w0.heap.size w0 w'->
   wpAnyH P md l.toArray (NoPanic Q) (Below w0.heap.size w0) 2 #[true,true,true,true,true,true,true,true,false,false] (at4 a0 d2 d5 d6 d7 V2 V5 (.pointer (some ⟨g,0,none⟩)) (.pointer (some ⟨g',0,none⟩))) w'):
  ∀(n:Nat) (b2 b5 b6 b7:Bool) (v2 v5 p6 p7:Value) (w:World),(b5=true->b2=true)->n=(if b2=true then 0 else 1)+(if b5=true then 0 else 1)+(if b6=true then 0 else 1)+(if b7=true then 0 else 1)->
   Inv4 w0 t Z V2 V5 b2 b5 b6 b7 v2 v5 p6 p7 w->
   wpAnyH P md l.toArray (NoPanic Q) (Below w0.heap.size w0) (n+2) #[true,true,b2,true,true,b5,b6,b7,false,false] (at4 a0 d2 d5 d6 d7 v2 v5 p6 p7) w:=by
 have e2:∀v2 v5 p6 p7 v,(at4 a0 d2 d5 d6 d7 v2 v5 p6 p7).put (some d2) v=at4 a0 d2 d5 d6 d7 v v5 p6 p7:=by
  intro v2 v5 p6 p7 v;unfold at4;rw [put_comm _ d7 d2 _ _ n27.symm,put_comm _ d6 d2 _ _ n26.symm,put_comm _ d5 d2 _ _ n25.symm,sU]
 have e5:∀v2 v5 p6 p7 v,(at4 a0 d2 d5 d6 d7 v2 v5 p6 p7).put (some d5) v=at4 a0 d2 d5 d6 d7 v2 v p6 p7:=by
  intro v2 v5 p6 p7 v;unfold at4;rw [put_comm _ d7 d5 _ _ n57.symm,put_comm _ d6 d5 _ _ n56.symm,sU]
 have e6:∀v2 v5 p6 p7 v,(at4 a0 d2 d5 d6 d7 v2 v5 p6 p7).put (some d6) v=at4 a0 d2 d5 d6 d7 v2 v5 v p7:=by
  intro v2 v5 p6 p7 v;unfold at4;rw [put_comm _ d7 d6 _ _ n67.symm,sU]
 have e7:∀v2 v5 p6 p7 v,(at4 a0 d2 d5 d6 d7 v2 v5 p6 p7).put (some d7) v=at4 a0 d2 d5 d6 d7 v2 v5 p6 v:=by
  intro v2 v5 p6 p7 v;unfold at4;rw [sU]
 have hal:∀w:World,Below w.heap.size w (w.alloc (.cells Z.toArray t)):=fun w=>(Below.refl _ w).alloc (Nat.le_refl _) _
 intro n;induction n with
 | zero=>
  intro b2 b5 b6 b7 v2 v5 p6 p7 w h25 hn inv;cases b2 <;> cases b5 <;> cases b6 <;> cases b7 <;> simp at hn
  obtain rfl:=inv.c2 rfl;obtain rfl:=inv.c5 rfl;obtain ⟨g,rfl,hg,hB⟩:=inv.a6 rfl;obtain ⟨g',rfl,hg',hB'⟩:=inv.a7 rfl;exact rest g g' w hg hg' (by rintro rfl;exact inv.ne rfl rfl rfl) hB hB' inv.below
 | succ n ih=>
  intro b2 b5 b6 b7 v2 v5 p6 p7 w h25 hn inv;have hall:(b2 && b5 && b6 && b7)=false:=by
   cases b2 <;> cases b5 <;> cases b6 <;> cases b7 <;> simp at hn ⊢
  have hr:=hready b2 b5 b6 b7 h25 hall;refine every ?_ ?_
  ·rw [hr];cases b2 <;> cases b5 <;> cases b6 <;> cases b7 <;> simp at hall ⊢
  ·rw [hr];intro i hi;simp only [List.mem_append] at hi;rcases hi with hi | hi | hi
   ·cases b2 with
    | false=>
     obtain rfl:i=2:=by simpa using hi
     obtain rfl:b5=false:=by cases b5 <;> simp at h25 ⊢
     refine ⟨o2,l2,g2,.inr ⟨F,x2,r2 _ _ _ _ _,(k2 w).mono ?_⟩⟩;rintro e w' ⟨rfl,hb⟩;refine ⟨V2,rfl,(inv.later hb).below, ?_⟩;rw [s2,e2];have i':=inv.later hb;exact ih true false b6 b7 V2 v5 p6 p7 w' si_ (by simp at hn ⊢;omega) ⟨i'.below,fun _=>rfl,i'.c5,i'.a6,i'.a7,i'.ne⟩
    | true=>
     cases b5 with
     | true=>simp at hi
     | false=>
      obtain rfl:i=5:=by simpa using hi
      refine ⟨o5,l5,g5,.inr ⟨F,x5,r5 _ _ _ _ _,(k5 w).mono ?_⟩⟩;rintro e w' ⟨rfl,hb⟩;refine ⟨V5,rfl,(inv.later hb).below, ?_⟩;rw [s5,e5];have i':=inv.later hb;exact ih true true b6 b7 v2 V5 p6 p7 w' si_ (by simp at hn ⊢;omega) ⟨i'.below,i'.c2,fun _=>rfl,i'.a6,i'.a7,i'.ne⟩
   ·cases b6 with
    | true=>simp at hi
    | false=>
     obtain rfl:i=6:=by simpa using hi
     refine ⟨o6,l6,g6,.inl ⟨_,_,r6 _ _ _ _ _,(inv.later (hal w)).below, ?_⟩⟩;rw [s6,e6];have i':=inv.later (hal w);refine ih b2 b5 true b7 v2 v5 _ p7 _ h25 (by simp at hn ⊢;omega) ⟨i'.below,i'.c2,i'.c5,fun _=>⟨_,rfl,inv.below.size,Block.new w t Z⟩,i'.a7,fun _ e7=> ?_⟩;obtain ⟨g,rfl,_,hB⟩:=inv.a7 e7
     exact t114
   ·cases b7 with
    | true=>simp at hi
    | false=>
     obtain rfl:i=7:=by simpa using hi
     refine ⟨o7,l7,g7,.inl ⟨_,_,r7 _ _ _ _ _,(inv.later (hal w)).below, ?_⟩⟩;rw [s7,e7];have i':=inv.later (hal w);refine ih b2 b5 b6 true v2 v5 p6 _ _ h25 (by simp at hn ⊢;omega) ⟨i'.below,i'.c2,i'.c5,i'.a6,fun _=>⟨_,rfl,inv.below.size,Block.new w t Z⟩,fun e6 _=> ?_⟩;obtain ⟨g,rfl,_,hB⟩:=inv.a6 e6
     exact t114
end
end plan
namespace rows
open Go.RowKit
variable {P:Program} {ops:Array Oper} {rest:List Oper} {o:Oper} {a:Act} {w:World} {Q:Exit->Act->World->Prop}
theorem But.setRow (w:World) (g:Nat) (cs:Array Value):But w.heap.size g w (w.setRow g cs):=
 ⟨rfl,rfl,rfl,by simp,fun k _ hk=>setRow_other w g k cs hk⟩
theorem nR {b:Nat} {t:TypeId} {C:List Value} (h:Block w b t C) (D:List Value):Block (w.setRow b D.toArray) b t D:=setRow_heap w b C.toArray D.toArray t (0,0) h
theorem EL (w:World) (dT sT ty elem:TypeId) (i:TypeInfo) (sz:Nat) (hu:P.underlying dT=some (.slice elem)) (hi:P.info? elem=some i) (hsz:i.size=sz)
  (dp sp:Option Addr) (dLen dCap sLen sCap b off:Nat) (C:List Value) (t:TypeId) (hB:Block w b t C) (m:Nat) (hm:Nat.min sLen dLen=m) (cs:List Value) (hcl:cs.length=m*sz)
  (hpos:0<m->dp=some ⟨b,off,none⟩/\∃ad,sp=some ad/\∀j v,cs[j]?=some v->w.cell? (ad.add j)=some v) (hfit:off+cs.length<=C.length) (h1:∀v∈cs,v.oneCell'=true):
  ∃w',(Builtin.copy_ #[dT,sT] ty #[.slice dp dLen dCap,.slice sp sLen sCap]).run P w=.ok (goInt m) w'/\Block w' b t (splice C off cs)/\But w.heap.size b w w'/\w'.heap.size=w.heap.size:=by
 subst hsz;by_cases h0:m=0
 ·subst h0;obtain rfl:cs=[]:=List.eq_nil_of_length_eq_zero (by simpa using hcl);have hl:∀(x:Addr),(loadCells x 0).run P w=.ok #[] w:=fun x=>by simpa using run_loadCells_list (P:=P) w x [] si_
  refine ⟨w, ?_,by simpa [splice] using hB,But.refl _ _ _,rfl⟩;cases dp <;> cases sp <;> simp [Builtin.copy_,run_underlying hu,Builtin.lenOf,Builtin.firstCells,sizeOf,typeInfo,hi,hm,storeCells,hl]
 ·obtain ⟨rfl,ad,rfl,hc⟩:=hpos om_;have hl:=run_loadCells_list (P:=P) w ad cs hc;have hst:=run_storeCells_at P b off t cs 0 C.toArray w hB (by simpa using hfit) h1;refine ⟨_, ?_,nR hB (splice C off cs),But.setRow _ _ _,by simp⟩;simp [Builtin.copy_,run_underlying hu,Builtin.lenOf,Builtin.firstCells,sizeOf,typeInfo,hi,hm,<-hcl,hl,hst,splice]
theorem bC (hgd:o.guard=none) (d s:Operand) (dT sT:TypeId) (ho:o.op=.call { callee:=.builtin .copy,args:=#[d,s],argTypes:=#[dT,sT]})
  (elem:TypeId) (i:TypeInfo) (sz:Nat) (hu:P.underlying dT=some (.slice elem)) (hi:P.info? elem=some i) (hsz:i.size=sz)
  (dp sp:Option Addr) (dLen dCap sLen sCap:Nat) (hd:a.eval d=.slice dp dLen dCap) (hs:a.eval s=.slice sp sLen sCap) (b off:Nat) (C:List Value) (t:TypeId) (hB:Block w b t C)
  (m:Nat) (hm:Nat.min sLen dLen=m) (cs:List Value) (hcl:cs.length=m*sz)
  (hpos:0<m->dp=some ⟨b,off,none⟩/\∃ad,sp=some ad/\∀j v,cs[j]?=some v->w.cell? (ad.add j)=some v) (hfit:off+cs.length<=C.length) (h1:∀v∈cs,v.oneCell'=true)
  (h:∀w',Hid (Block w' b t (splice C off cs)/\But w.heap.size b w w'/\w'.heap.size=w.heap.size)->wpList P ops Q rest (a.put o.dst (goInt m)) w'):wpList P ops Q (o :: rest) a w:=by
 obtain ⟨w',hr,h2⟩:=EL (P:=P) w dT sT o.type elem i sz hu hi hsz dp sp dLen dCap sLen sCap b off C t hB m hm cs hcl hpos hfit h1;refine wpList_plain hgd fun K hK=> ?_
 unfold Oper.wp;simp [execOp,ho,resolve,invoke,builtin,hd,hs,hr,Result.andThen];exact hK _ _ (h w' (hid h2))
theorem xk (w:World) (t ty e:TypeId) (i:TypeInfo) (sz:Nat) (ht:P.underlying t=some (.slice e)) (hi:P.info? e=some i) (hsz:i.size=sz) (g sLen sCap:Nat) (C:List Value) (hB:Block w g e C)
  (sp:Option Addr) (m c:Nat) (cs:List Value) (hcl:cs.length=m*sz) (hpos:0<m->∃ad,sp=some ad/\∀j v,cs[j]?=some v->w.cell? (ad.add j)=some v) (h1:∀v∈cs,v.oneCell'=true)
  (hroom:sLen+m<=sCap) (hfit:sLen*sz+cs.length<=C.length):
  ∃w',(Builtin.append_ #[t,t] ty #[.slice (some ⟨g,0,none⟩) sLen sCap,.slice sp m c]).run P w=.ok (.slice (some ⟨g,0,none⟩) (sLen+m) sCap) w'/\Block w' g e (splice C (sLen*sz) cs)/\But w.heap.size g w w'/\w'.heap.size=w.heap.size:=by
 subst hsz;by_cases h0:m=0
 ·subst h0;obtain rfl:cs=[]:=List.eq_nil_of_length_eq_zero (by simpa using hcl);have hl:∀(x:Addr),(loadCells x 0).run P w=.ok #[] w:=fun x=>by simpa using run_loadCells_list (P:=P) w x [] si_
  have hr:sLen<=sCap:=by omega
  refine ⟨w, ?_,by simpa [splice] using hB,But.refl _ _ _,rfl⟩;cases sp <;> simp [Builtin.append_,run_underlying ht,Builtin.lenOf,Builtin.firstCells,sizeOf,typeInfo,hi,hr,storeCells,hl]
 ·obtain ⟨ad,rfl,hc⟩:=hpos om_;refine ⟨_,run_append_room (P:=P) w t ty e i ht hi g sLen sCap C.toArray hB ad m c cs hcl hc h1 hroom (by simpa using hfit), ?_,But.setRow _ _ _,by simp⟩;have:=nR hB (splice C (sLen*i.size) cs);simpa [splice] using this
theorem eP (hgd:o.guard=none) (s x:Operand) (t:TypeId) (ho:o.op=.call { callee:=.builtin .append,args:=#[s,x],argTypes:=#[t,t]})
  (e:TypeId) (i:TypeInfo) (sz:Nat) (ht:P.underlying t=some (.slice e)) (hi:P.info? e=some i) (hsz:i.size=sz) (g sLen sCap:Nat) (hs:a.eval s=.slice (some ⟨g,0,none⟩) sLen sCap) (C:List Value) (hB:Block w g e C)
  (sp:Option Addr) (m c:Nat) (hx:a.eval x=.slice sp m c) (cs:List Value) (hcl:cs.length=m*sz) (hpos:0<m->∃ad,sp=some ad/\∀j v,cs[j]?=some v->w.cell? (ad.add j)=some v) (h1:∀v∈cs,v.oneCell'=true)
  (hroom:sLen+m<=sCap) (hfit:sLen*sz+cs.length<=C.length)
  (h:∀w',Hid (Block w' g e (splice C (sLen*sz) cs)/\But w.heap.size g w w'/\w'.heap.size=w.heap.size)->wpList P ops Q rest (a.put o.dst (.slice (some ⟨g,0,none⟩) (sLen+m) sCap)) w'):wpList P ops Q (o :: rest) a w:=by
 obtain ⟨w',hr,h2⟩:=xk (P:=P) w t o.type e i sz ht hi hsz g sLen sCap C hB sp m c cs hcl hpos h1 hroom hfit;refine wpList_plain hgd fun K hK=> ?_
 unfold Oper.wp;simp [execOp,ho,resolve,invoke,builtin,hs,hx,hr,Result.andThen];exact hK _ _ (h w' (hid h2))
theorem gy (hgd:o.guard=none) (s x:Operand) (t tn:TypeId) (ho:o.op=.call { callee:=.builtin .append,args:=#[s,x],argTypes:=#[t,tn]})
  (e:TypeId) (i:TypeInfo) (z:Value) (sz bytes:Nat) (ht:P.underlying t=some (.slice e)) (htn:P.underlying tn=some (.int .i64)) (hi:P.info? e=some i) (hz:i.zero=some z) (hsz:i.size=sz) (hby:i.bytes=bytes) (hzs:z.cells.size=sz) (h0z:0<sz)
  (g sLen sCap:Nat) (hs:a.eval s=.slice (some ⟨g,0,none⟩) sLen sCap) (k:Nat) (x0:Int) (hx:a.eval x=.int .i64 x0) (hk:x0=k) (h0:0<k) (C:List Value) (hB:Block w g e C) (hfit:sLen*sz<=C.length) (hg:sCap<sLen+k) (hcap:sLen<=sCap)
  (hbytes:(sLen+k)*bytes<=140737488355328) (h63:sLen+k<=maxLen)
  (h:∀G R w',Hid (Block w' w.heap.size e (C.take (sLen*sz)++R)/\R.length=(G - sLen)*sz/\sLen+k<=G/\G<=maxLen/\Below w.heap.size w w'/\w.heap.size<w'.heap.size)->
   wpList P ops Q rest (a.put o.dst (.slice (some ⟨w.heap.size,0,none⟩) (sLen+k) G)) w'):wpList P ops Q (o :: rest) a w:=by
 subst hk;subst hsz;subst hby;have hold:(Builtin.firstCells i.size sLen (.slice (some ⟨g,0,none⟩) sLen sCap)).run P w.drew=.ok (C.take (sLen*i.size)).toArray w.drew:=
  run_firstCells_some w.drew i.size sLen ⟨g,0,none⟩ sLen sCap _ (by rw [List.length_take];omega) (fun j v hj=>by
   rw [Addr.add_lit,Nat.zero_add];have hb:Block w.drew g e C:=hB;rw [hb.cell j];rw [List.getElem?_take] at hj;split at hj
   ·exact hj
   ·cases hj)
 have hf:=growslice_fits (bytes:=i.bytes) hg hbytes;have hr:=Lib.run_append_grow_zeros (P:=P) w t tn o.type e i z .i64 .i64 ht htn hi hz (some ⟨g,0,none⟩) sLen sCap (C.take (sLen*i.size)) hold k h0 h0z hg (by unfold maxLen at h63;omega) (by
  have:k*i.bytes<=(sLen+k)*i.bytes:=Nat.mul_le_mul_right _ om_;omega) hf
 refine Lib.wpList_append_run w hgd s x t tn ho _ _ hs hx _ _ hr (h _ (Builtin.zeroCells z.cells k++Builtin.zeroCells z.cells (grownCap w (sLen+k) sCap e - (sLen+k))).toList _ (hid ⟨?_, ?_,grownCap_ge w _ _ _,grownCap_le_maxLen w _ _ _ h63, ?_,by simp⟩))
 ·have:=heap_alloc_new w.drew (.cells ((C.take (sLen*i.size)).toArray++Builtin.zeroCells z.cells k++Builtin.zeroCells z.cells (grownCap w (sLen+k) sCap e - (sLen+k))) e);show _=_
  rw [show w.drew.heap.size=w.heap.size from rfl] at this;rw [this];simp
 ·have hge:=grownCap_ge w (sLen+k) sCap e;simp only [Array.toList_append,List.length_append,Array.length_toList,size_zeroCells,hzs];rw [<-Nat.add_mul];congr 1;omega
 ·exact ⟨rfl,rfl,rfl,by simp,fun j hj=>Go.heap_alloc_old w.drew _ hj⟩
theorem eF (hgd:o.guard=none) (x:Operand) (t:TypeId) (ho:o.op=.call { callee:=.builtin .clear,args:=#[x],argTypes:=#[t]})
  (e:TypeId) (i:TypeInfo) (z:Value) (sz:Nat) (ht:P.underlying t=some (.slice e)) (hi:P.info? e=some i) (hz:i.zero=some z) (hzs:z.cells.size=sz) (hz1:∀v∈z.cells.toList,v.oneCell'=true) (h0z:0<sz)
  (ap:Option Addr) (n c:Nat) (hx:a.eval x=.slice ap n c) (b off:Nat) (C:List Value) (bt:TypeId) (hB:Block w b bt C) (hp:0<n->ap=some ⟨b,off,none⟩) (hfit:off+n*sz<=C.length)
  (h:∀Z w',Hid (Z.length=n*sz/\Block w' b bt (splice C off Z)/\But w.heap.size b w w'/\w'.heap.size=w.heap.size)->wpList P ops Q rest (a.put o.dst (.tuple #[])) w'):wpList P ops Q (o :: rest) a w:=by
 subst hzs;have hrun:∃Z w',(Builtin.clear_ #[t] o.type #[.slice ap n c]).run P w=.ok (.tuple #[]) w'/\Z.length=n*z.cells.size/\Block w' b bt (splice C off Z)/\But w.heap.size b w w'/\w'.heap.size=w.heap.size:=by
  by_cases h0:n=0
  ·subst h0;refine ⟨[],w, ?_,by simp,by simpa [splice] using hB,But.refl _ _ _,rfl⟩;cases ap <;> simp [Builtin.clear_,run_underlying ht]
  ·obtain rfl:=hp om_;have hlen:(Builtin.zeroCells z.cells n).toList.length=n*z.cells.size:=by rw [Array.length_toList,size_zeroCells]
   have hone:∀v∈(Builtin.zeroCells z.cells n).toList,v.oneCell'=true:=by
    intro v hv;simp only [Builtin.zeroCells,Array.toList_map,List.mem_map] at hv;obtain ⟨j,_,rfl⟩:=hv;have hlt:j % z.cells.size<z.cells.size:=Nat.mod_lt _ h0z;rw [getElem!_pos z.cells _ hlt];exact hz1 _ si_
   have hst:=run_storeCells_at P b off bt (Builtin.zeroCells z.cells n).toList 0 C.toArray w hB (by simpa [hlen] using hfit) hone;refine ⟨_,_, ?_,hlen,nR hB (splice C off (Builtin.zeroCells z.cells n).toList),But.setRow _ _ _,by simp⟩;have hn:n≠0:=h0;simp only [Nat.add_zero] at hst;simp [Builtin.clear_,run_underlying ht,zeroValue,typeInfo,hi,hz,hst,splice];first | done | (split <;> simp_all)
 obtain ⟨Z,w',hr,h2⟩:=hrun;refine wpList_plain hgd fun K hK=> ?_
 unfold Oper.wp;simp [execOp,ho,resolve,invoke,builtin,hx,hr,Result.andThen];exact hK _ _ (h Z w' (hid h2))
theorem gW {α:Type} (C:List α) (p:Nat) (V:List α) (hp:p<=C.length):(splice C p V).take (p+V.length)=C.take p++V:=by
 unfold splice;rw [<-List.append_assoc];have:(C.take p++V).length=p+V.length:=by simp;omega
 rw [<-this];exact List.take_left
theorem gY {α:Type} (C:List α) (p:Nat) (V:List α) (q:Nat) (hq:q<=p) (hp:p<=C.length):(splice C p V).take q=C.take q:=by
 unfold splice;rw [List.take_append_of_le_length (by simp;omega),List.take_take,Nat.min_eq_left hq]
theorem qA {α:Type} (C:List α) (p:Nat) (V:List α) (hp:p<=C.length):(splice C p V).drop p=V++C.drop (p+V.length):=by
 unfold splice;have h:(C.take p).length=p:=by simp;omega
 have h2:=List.drop_left (l₁:=C.take p) (l₂:=V++C.drop (p+V.length));rw [h] at h2;exact h2
theorem two {α:Type} (C:List α) (p:Nat) (V X2:List α) (hC:p+V.length+X2.length<=C.length):
  (splice (splice C (p+V.length) X2) p V).take (p+V.length+X2.length)=C.take p++V++X2:=by
 have hl:(splice C (p+V.length) X2).length=C.length:=length_splice _ _ _ hC;conv=>lhs;unfold splice
 have e1:(splice C (p+V.length) X2).take p=C.take p:=gY _ _ _ _ om_ om_;have e2:(splice C (p+V.length) X2).drop (p+V.length)=X2++C.drop (p+V.length+X2.length):=qA _ _ _ om_;unfold splice at e1 e2;rw [e1,e2];have h3:(C.take p++V++X2).length=p+V.length+X2.length:=by simp;omega
 rw [show C.take p++(V++(X2++C.drop (p+V.length+X2.length)))=(C.take p++V++X2)++C.drop (p+V.length+X2.length) by simp,<-h3];exact List.take_left
theorem two' {α:Type} (C:List α) (p:Nat) (V X2:List α) (hC:p+V.length+X2.length<=C.length):
  (splice (splice C p V) (p+V.length) X2).take (p+V.length+X2.length)=C.take p++V++X2:=by
 have hl:(splice C p V).length=C.length:=length_splice _ _ _ om_;rw [gW _ _ _ om_,gW _ _ _ om_]
theorem iE {base sz n cap g:Nat} {C xs:List Value} {w:World} {t:TypeId} (hB:Block w g t C) (hb:base<=g) (hn:n<=cap) (hc:cap<=maxLen) (hl:C.length=cap*sz) (ht:C.take (n*sz)=xs):
  w.ownsRow base t sz (.slice (some ⟨g,0,none⟩) n cap) n xs:=by
 refine ⟨?_,.inr ⟨g,cap,C.toArray,rfl,hb,hB,hn,hc,by simpa using hl,by simpa using ht⟩⟩;rw [<-ht,List.length_take,hl];exact Nat.min_eq_left (Nat.mul_le_mul_right _ hn)
theorem dF {w w':World} {g:Nat} {v:Value} (h:But w.heap.size g w w') (hv:v.ownBlock=some g):w.grownBy w' v.ownBlock:=
 ⟨h.1,h.2.1,h.2.2.1,h.2.2.2.1,fun k hk hne=>h.2.2.2.2 k hk (fun e=>hne (by rw [hv,e]))⟩
theorem eX {w w':World} {row:Option Nat} (h:Below w.heap.size w w'):w.grownBy w' row:=⟨h.os,h.tape,h.output,h.size,fun k hk _=>h.block k hk⟩
theorem kK {P:Program} (w:World) (tS tR e:TypeId) (ht:P.underlying tS=some (.slice e)) (i:TypeInfo) (hi:P.info? e=some i) (a b:Addr) (la ca lb cb:Nat) (hne:a.block≠b.block)
  (tA tB:TypeId) (A B:List Value) (hA:Block w a.block tA A) (hB:Block w b.block tB B) (hl:B≠[]):
  (Extern.SlicesOverlaps.overlaps #[tS,tS] #[tR] #[.slice (some a) la ca,.slice (some b) lb cb]).run P w=.ok (.bool false) w:=by
 have hsA:w.shape? a.block=some (tA,A.length):=by
  have:w.heap[a.block]?=_:=hA;simp [World.shape?,this]
 have hsB:w.shape? b.block=some (tB,B.length):=by
  have:w.heap[b.block]?=_:=hB;simp [World.shape?,this]
 refine Lib.run_overlaps_apart w tS tR e ht i.size (fun w=>by simp [sizeOf,typeInfo,hi]) a b la ca lb cb hne tA tB A.length B.length hsA hsB (by cases B with | nil=>exact absurd rfl hl | cons x l=>simp) ?_ (hA.frozen A.length);obtain ⟨ab,ao,asp⟩:=a;have:w.heap[ab]?=_:=hA;simp [World.frozen?,this]
end rows
end Go.Proofs.YtdnegbkhndekpaaGreat
