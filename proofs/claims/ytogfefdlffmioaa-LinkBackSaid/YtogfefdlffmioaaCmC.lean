/- Contracts and lemmas that claims of this seat share: ValueOpen, ValueEq. Each says its own conditions. -/
import Derived.Test.YtogfefdlffmioaaCmWord
import Derived.Deep.Slices
import Derived.Deep.Strs
import Derived.Lib.SmallJoins
import Derived.Laws.Strings
import Derived.Test.YtogfefdlffmioaaCmA
set_option linter.unusedVariables false
namespace Go.Proofs.Ytogfefdlffmioaa
open Go.Proofs.Try
namespace field
open Go.ChangeShapes Go.WideShapes Go.ChangeAt Go.RowKit Go.Deep
structure Va where
 (n:Int) (s:ByteArray)
instance:Inhabited Va:=⟨⟨0,⟨#[]⟩⟩⟩
def Va.val(p:Va):Value:=.agg #[.int .i64 p.n,.string p.s]
structure Va.Good (W:World) (p:Va):Prop where
 unit:True
 bn: -9223372036854775808<=p.n/\p.n<=9223372036854775807
theorem Va.Good.below{W W':World}{p:Va}(h:p.Good W)(hb:Below W.heap.size W W'):p.Good W':=⟨h.unit,h.bn⟩
section
variable {H:Type} {enc:TypeId×Value->H} {P:Program} {W:World}
theorem Ei{t0 t1:TypeId}{n:Nat}{v0 v1:Value}{y0 y1:DataW H×List MemPlace}(u0:P.underlying t0=some (.int .i64))(u1:P.underlying t1=some .string)
  (h0:DataW.trod enc P W 0 (fun _=>true) true n t0 [v0]=some y0) (h1:DataW.trod enc P W 0 (fun _=>true) true n t1 [v1]=some y1):
  ∃p:Va,p.Good W/\v0=.int .i64 p.n/\v1=.string p.s:=by
 obtain⟨x0,e0,_,w0⟩:=DataW.trod_int u0 h0;have a0:=wf_i64 _ w0;obtain⟨x1,e1,_⟩:=DataW.trod_string u1 h1;exact⟨⟨x0,x1⟩,⟨trivial,a0⟩,by simpa using e0,by simpa using e1⟩
def Vas(w:World)(a:Option Addr)(l:List Va):Prop:=
 l=[]\/∃b off,a=some ⟨b,off,none⟩/\b<w.heap.size/\∀i p,l[i]?=some p->w.cell? ⟨b,off+i*2,none⟩=some (.int .i64 p.n)/\w.cell? ⟨b,off+i*2+1,none⟩=some (.string p.s)
end
theorem Vas.below{w w':World}{a:Option Addr}{l:List Va}(h:Vas w a l)(hb:Below w.heap.size w w'):Vas w' a l:=by
 rcases h with h | ⟨b,off,ha,bI,hc⟩
 ·exact .inl h
 ·refine .inr ⟨b,off,ha,Nat.lt_of_lt_of_le bI hb.size,fun i p hp=> ?_⟩;rw[hb.cell (p:=⟨b,off+i*2,none⟩) bI,hb.cell (p:=⟨b,off+i*2+1,none⟩) bI];exact hc i p hp
theorem Vas.at{w:World}{a:Option Addr}{l:List Va}(h:Vas w a l){i:Nat}(hi:i<l.length):
  ∃b off p,a=some ⟨b,off,none⟩/\b<w.heap.size/\l[i]?=some p/\w.cell? ⟨b,off+i*2,none⟩=some (.int .i64 p.n)/\w.cell? ⟨b,off+i*2+1,none⟩=some (.string p.s):=by
 rcases h with rfl | ⟨b,off,ha,bI,hc⟩
 ·simp at hi
 ·have hp:=List.getElem?_eq_getElem hi;exact⟨b,off,_,ha,bI,hp,hc i _ hp⟩
end field
section
structure zV_ (v:field.Va) where
def zV(v:field.Va):zV_ v:=⟨⟩
instance (v:field.Va) (m:zV_ v):CoeDep (zV_ v) m (List Value):=⟨[.int .i64 v.n,.string v.s]⟩
instance (v:field.Va) (m:zV_ v):CoeDep (zV_ v) m (Array Value):=⟨#[.int .i64 v.n,.string v.s]⟩
instance (v:field.Va) (m:zV_ v):CoeDep (zV_ v) m Value:=⟨.agg #[.int .i64 v.n,.string v.s]⟩
end
section
structure zS_ (v:Int) (a:Option Addr) (n c:Nat) where
def zS(v:Int)(a:Option Addr)(n c:Nat):zS_ v a n c:=⟨⟩
instance (v:Int) (a:Option Addr) (n c:Nat) (m:zS_ v a n c):CoeDep (zS_ v a n c) m (List Value):=⟨[.int .i64 v,.slice a n c]⟩
instance (v:Int) (a:Option Addr) (n c:Nat) (m:zS_ v a n c):CoeDep (zS_ v a n c) m (Array Value):=⟨#[.int .i64 v,.slice a n c]⟩
instance (v:Int) (a:Option Addr) (n c:Nat) (m:zS_ v a n c):CoeDep (zS_ v a n c) m Value:=⟨.agg #[.int .i64 v,.slice a n c]⟩
end
namespace record
open Go.RowKit
open field (Va)
instance:DecidableEq Va:=fun a b=>
 if h:a.n=b.n/\a.s.toList=b.s.toList then isTrue (by
  obtain⟨n,⟨⟨s⟩⟩⟩:=a;obtain⟨m,⟨⟨t⟩⟩⟩:=b;obtain⟨h1,h2⟩:=h;simp only at h1 h2;rw[ByteArray.toList_eq,ByteArray.toList_eq] at h2;simp only at h2;subst h1 h2;rfl) else isFalse (by rintro rfl;simp at h)
theorem Iq{n m:Int}{s t:ByteArray}:(⟨n,s⟩:Va)=⟨m,t⟩↔n=m/\s.toList=t.toList:=by
 constructor
 ·intro h;cases h;exact⟨rfl,rfl⟩
 ·rintro⟨rfl,h⟩;obtain⟨⟨s⟩⟩:=s;obtain⟨⟨t⟩⟩:=t;rw[ByteArray.toList_eq,ByteArray.toList_eq] at h;simp only at h;subst h;rfl
end record
end Go.Proofs.Ytogfefdlffmioaa
