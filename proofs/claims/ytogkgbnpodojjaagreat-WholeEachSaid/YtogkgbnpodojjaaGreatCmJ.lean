/- Contracts and lemmas that claims of this seat share: SchemaFirst, TypingMath, FieldPush, SchemaRight, FormRow, SchemaAt, Ret0, ItemRow, ItemKeys. Each says its own conditions. -/
import Derived.Test.YtogkgbnpodojjaaGreatCmWord
import Derived.Conc.WalkWords
import Derived.Laws.StructEq
import Derived.Test.YtogkgbnpodojjaaGreatCmE
import Derived.Test.YtogkgbnpodojjaaGreatCmG
import Derived.Test.YtogkgbnpodojjaaGreatCmF
set_option linter.unusedVariables false
namespace Go.Proofs.YtogkgbnpodojjaaGreat
open Go.Proofs.Tryz
namespace schema
open Go.RowKit
open field (Gives ak aj)
theorem aJ {B:Nat} {a w:World} (h:Below B a w):Below B a w.drew:=below_drewN h 1
def au (l:List Int) (x:Int):Int:=if x∈l then (l.idxOf x:Int) else -1
theorem idxOf_hit:∀(l:List Int) (k:Nat) (x:Int),x∉l.take k->l[k]?=some x->l.idxOf x=k:=by
 intro l;induction l with
 | nil=>intro k x _ h;simp at h
 | cons y l ih=>
  intro k x hn h;cases k with
  | zero=>simp at h;subst h;simp
  | succ k=>
   simp only [List.take_succ_cons,List.mem_cons,not_or] at hn;have hb:(y == x)=false:=beq_eq_false_iff_ne.2 (Ne.symm hn.1);rw [List.idxOf_cons,hb,ih k x hn.2 (by simpa using h)];rfl
theorem nS {l:List Int} {k:Nat} {x:Int} (hn:x∉l.take k) (h:l[k]?=some x):au l x=k:=by
 unfold au;rw [if_pos (List.mem_of_getElem? h),idxOf_hit l k x hn h]
theorem lS {l:List Int} {x:Int} (hn:x∉l):au l x= -1:=if_neg hn
theorem kX {l:List Int} {k:Nat} {x y:Int} (hn:x∉l.take k) (h:l[k]?=some y) (hy:y≠x):x∉l.take (k+1):=by
 rw [aH h];simp [hn];omega
theorem Gp {L:List field.Fd} {k:Nat} {p:field.Fd} (h:L[k]?=some p):(ids L)[k]?=some p.id:=by simp [ids,h]
theorem je (L:List field.Fd):(ids L).length=L.length:=List.length_map _
end schema
namespace typing
open Go.RowKit schema field step
theorem uF {l:List Int} {x:Int}:0<=au l x↔x∈l:=by
 unfold au;split <;> simp_all
theorem jP {l:List Int} {x:Int} (h:0<=au l x):(au l x).toNat<l.length/\l[(au l x).toNat]?=some x:=by
 have hm:=uF.1 h;unfold au;rw [if_pos hm];simp only [Int.toNat_natCast];have:=List.idxOf_lt_length_of_mem hm;exact ⟨this,by rw [List.getElem?_eq_getElem this,List.getElem_idxOf]⟩
theorem yD {l:List Int} {x:Int} (h:x∉l):au l x= -1:=if_neg h
structure Ch where
 (s:Sp) (fi:Int) (L:List field.Fd) (kn:Bool) (at_:Int) (old:field.Fd)
def found (c:Ch):Bool:=if c.s.op=9 then true else if c.s.op=1\/c.s.op=10 then c.kn else decide (0<=c.at_)
def twice (c:Ch):Bool:=if c.s.op=9 then c.kn else if c.s.op=1 then decide (0<=au (ids c.L) c.s.f.id) else if c.s.op=6\/c.s.op=8 then decide (0<=au (ids c.L) c.s.tt) else false
def beyond (c:Ch):Bool:=if c.s.op=1 then decide ((c.L.length:Int)<c.s.pl) else if c.s.op=7 then decide ((c.L.length:Int) - 1<c.s.pl) else false
def scA (c:Ch):Int:=c.s.a*c.old.lo+c.s.b
def scB (c:Ch):Int:=c.s.a*c.old.hi+c.s.b
def low (c:Ch):Int:=if scB c<scA c then scB c else scA c
def high (c:Ch):Int:=if scA c<scB c then scB c else scA c
def iP (c:Ch):Bool:=
 if c.s.op=2 then decide (c.old.Has c.s.v) else if c.s.op=3 then decide (c.old.Wider c.s.f) else if c.s.op=4 then decide (c.old.kind=1/\ -1099511627776<=low c/\high c<=1099511627776)
 else if c.s.op=5 then decide (c.old.kind=3/\c.old.most=c.s.t.length) else if c.s.op=6 then decide (c.old.kind=1/\c.old.lo=0) else true
def err (c:Ch):Nat:=if found c=false then 8 else if twice c=true then 9 else if beyond c=true then 3 else if iP c=false then 17 else 0
def mn (a b:Int):Int:=if b<a then b else a
def dG (c:Ch):List field.Fd:=
 if c.s.op=2 then [] else if c.s.op=3 then [c.s.f] else if c.s.op=4 then [{ c.old with lo:=low c,hi:=high c}] else if c.s.op=5 then [{ c.old with most:=c.s.a}]
 else if c.s.op=6 then [{ c.old with hi:=Int.tdiv c.old.hi c.s.a},⟨c.s.tt,1,0,mn (c.s.a - 1) c.old.hi,0⟩] else if c.s.op=8 then [{ c.old with id:=c.s.tt}] else [c.old]
def jo (L:List field.Fd) (k:Nat):List field.Fd:=L.take k++L.drop (k+1)
def jf (L:List field.Fd) (k:Nat) (f:field.Fd):List field.Fd:=L.take k++([f]++L.drop k)
def fields (c:Ch):List field.Fd:=
 if c.s.op=1 then jf c.L c.s.pl.toNat c.s.f else if c.s.op=7 then jf (jo c.L c.at_.toNat) c.s.pl.toNat c.old
 else c.L.take c.at_.toNat++(dG c++c.L.drop (c.at_.toNat+1))
def pos:List schema.Form->Int->Nat
 | [],_=>0
 | p :: r,x=>if p.1<x then pos r x+1 else 0
def ER (F:List schema.Form) (i:Nat) (l:List field.Fd):List schema.Form:=match F[i]? with
 | some p=>F.set i (p.1,l)
 | none=>F
def applied (F:List schema.Form) (c:Ch):List schema.Form:=
 if c.s.op=9 then F.take (pos F c.s.fm)++([(c.s.fm,c.s.l)]++F.drop (pos F c.s.fm)) else if c.s.op=10 then F.take (pos F c.s.fm)++F.drop (pos F c.s.fm+1) else ER F (pos F c.s.fm) (fields c)
def bQ (L:List field.Fd) (k:Int):field.Fd:=if 0<=k then L.getD k.toNat fd0 else fd0
def named (F:List schema.Form) (x:Int):Option schema.Form:=F.find? (fun p=>p.1 == x)
def aC (F:List schema.Form) (s:Sp):Ch:=match named F s.fm with
 | some p=>⟨s,s.fm,p.2,true,au (ids p.2) s.fd,bQ p.2 (au (ids p.2) s.fd)⟩
 | none=>⟨s,0,[],false, -1,fd0⟩
def Fit (v:Int) (F:List schema.Form) (s:Sp):Prop:=Right v F/\s.Right/\s.op<=10
instance (v:Int) (F:List schema.Form) (s:Sp):Decidable (Fit v F s):=by unfold Fit;infer_instance
def on (v:Int) (F:List schema.Form) (s:Sp):Int×List schema.Form×Nat:=
 if Fit v F s then (if err (aC F s)=0 then (if Right v (applied F (aC F s)) then (v,applied F (aC F s),0) else (0,[],7)) else (0,[],err (aC F s))) else (0,[],2)
def all:Nat->Int->List schema.Form->List Sp->Int×List schema.Form×Nat×Nat
 | _,v,F,[]=>(v,F,0,0)
 | k,v,F,s :: r=>if (on v F s).2.2=0 then all (k+1) (on v F s).1 (on v F s).2.1 r else (0,[],k,(on v F s).2.2)
def Sorted (F:List schema.Form):Prop:=(F.map (·.1)).Pairwise (· < ·)
theorem Sorted.tail {p:schema.Form} {r:List schema.Form} (h:Sorted (p :: r)):Sorted r:=(List.pairwise_cons.1 h).2
theorem Sorted.head {p:schema.Form} {r:List schema.Form} (h:Sorted (p :: r)):∀q∈r,p.1<q.1:=fun q hq=>(List.pairwise_cons.1 h).1 q.1 (List.mem_map_of_mem hq)
theorem fQ {v:Int} {F:List schema.Form} (h:Right v F):Sorted F:=h.2.2.2
theorem Cj (F:List schema.Form) (x:Int):pos F x<=F.length:=by
 induction F with
 | nil=>simp [pos]
 | cons p r ih=>unfold pos;split <;> simp <;> omega
theorem pos_eq {F:List schema.Form} {x:Int} {i:Nat} (hs:Sorted F) (hi:i<=F.length) (h1:∀p∈F.take i,p.1<x) (h2:∀p∈F.drop i,¬p.1<x):pos F x=i:=by
 induction F generalizing i with
 | nil=>simp at hi;simp [pos,hi]
 | cons p r ih=>
  unfold pos;cases i with
  | zero=>rw [if_neg (h2 p si_)]
  | succ i=>
   rw [if_pos (h1 p si_),ih hs.tail (by simpa using hi) (fun q hq=>h1 q (by simp [hq])) (fun q hq=>h2 q (by simpa using hq))]
theorem pos_at {F:List schema.Form} {p:schema.Form} (hs:Sorted F) (hp:p∈F):F[pos F p.1]?=some p:=by
 induction F with
 | nil=>simp at hp
 | cons q r ih=>
  unfold pos;rcases List.mem_cons.1 hp with rfl | h
  ·simp
  ·rw [if_pos (hs.head p h)];simpa using ih hs.tail h
theorem bH {F:List schema.Form} {x:Int} {p:schema.Form} (h:named F x=some p):p∈F/\p.1=x:=⟨List.mem_of_find?_eq_some h,by have:=List.find?_some h;simpa using this⟩
theorem uQ {F:List schema.Form} {x:Int} (h:named F x=none):x∉F.map (·.1):=by
 intro hm;obtain ⟨p,hp,rfl⟩:=List.mem_map.1 hm;have:=List.find?_eq_none.1 h p hp;simp at this
theorem Dz {F:List schema.Form} {x:Int} {p:schema.Form} (hs:Sorted F) (h:named F x=some p) (l:List field.Fd):ER F (pos F x) l=F.set (pos F x) (x,l):=by
 obtain ⟨h1,h2⟩:=bH h;have:=pos_at hs h1;rw [h2] at this;unfold ER;rw [this];simp [h2]
def go (x:Int) (l:List field.Fd):List schema.Form->Bool->List schema.Form
 | [],d=>if d then [] else [(x,l)]
 | p :: r,d=>(if d=false/\x<=p.1 then [(x,l)] else [])++((if p.1=x then [] else [p])++go x l r (d || decide (x<=p.1)))
theorem yJ (x:Int) (l:List field.Fd) (F:List schema.Form):go x l F true=F.filter (fun p=>decide (p.1≠x)):=by
 induction F with
 | nil=>rfl
 | cons p r ih=>
  unfold go;simp only [Bool.true_eq_false,false_and,if_false,List.nil_append,Bool.true_or,ih,List.filter_cons];by_cases h:p.1=x <;> simp [h]
theorem filter_all {F:List schema.Form} {x:Int} (h:∀p∈F,p.1≠x):F.filter (fun p=>decide (p.1≠x))=F:=List.filter_eq_self.2 (fun p hp=>by simpa using h p hp)
theorem Ls {F:List schema.Form} {p:schema.Form} (hs:Sorted F) (hp:p∈F) (l:List field.Fd):go p.1 l F false=F.set (pos F p.1) (p.1,l):=by
 induction F with
 | nil=>simp at hp
 | cons q r ih=>
  unfold go pos;rcases List.mem_cons.1 hp with rfl | h
  ·have:∀t∈r,t.1≠p.1:=fun t ht=>by have:=hs.head t ht;omega
   simp [yJ];exact fun a b hm=>this _ hm
  ·have h1:=hs.head p h;have h2:¬p.1<=q.1:=by omega
   have h3:¬q.1=p.1:=by omega
   simp [h1,h2,h3,ih hs.tail h]
theorem go_cut {F:List schema.Form} {p:schema.Form} (hs:Sorted F) (hp:p∈F) (l:List field.Fd):go p.1 l F true=F.take (pos F p.1)++F.drop (pos F p.1+1):=by
 rw [yJ];induction F with
 | nil=>simp at hp
 | cons q r ih=>
  unfold pos;rcases List.mem_cons.1 hp with rfl | h
  ·have:∀t∈r,t.1≠p.1:=fun t ht=>by have:=hs.head t ht;omega
   rw [List.filter_cons];simp only [ne_eq,not_true_eq_false,decide_false,Bool.false_eq_true,if_false,Int.lt_irrefl,List.take_zero,List.nil_append,List.drop_succ_cons,List.drop_zero];exact filter_all this
  ·have h1:=hs.head p h;have h3:¬q.1=p.1:=by omega
   rw [List.filter_cons];simp only [ne_eq,h3,not_false_eq_true,decide_true,if_true,h1,List.take_succ_cons,List.cons_append,List.drop_succ_cons];have:=ih hs.tail h;simp only [ne_eq] at this;rw [this]
def nf (op:Int):Bool:=decide (op≠1/\op≠9/\op≠10)
def names (F:List schema.Form) (s:Sp):Nat:=
 if s.op=9 then (if (named F s.fm).isSome then 9 else 0) else match named F s.fm with
  | none=>8
  | some p=>if nf s.op=true/\au (ids p.2) s.fd<0 then 8 else if (s.op=1/\0<=au (ids p.2) s.f.id)\/((s.op=6\/s.op=8)/\0<=au (ids p.2) s.tt) then 9
    else if (s.op=1/\(p.2.length:Int)<s.pl)\/(s.op=7/\(p.2.length:Int)<=s.pl) then 3 else 0
end typing
section
structure zH_ (h:typing.Ch) (a:Option Addr) (c:Nat) (d:Option Addr) (e:Nat) (f:Option Addr) (g:Nat) where
def zH (h:typing.Ch) (a:Option Addr) (c:Nat) (d:Option Addr) (e:Nat) (f:Option Addr) (g:Nat):zH_ h a c d e f g:=⟨⟩
instance (h:typing.Ch) (a:Option Addr) (c:Nat) (d:Option Addr) (e:Nat) (f:Option Addr) (g:Nat) (m:zH_ h a c d e f g):CoeDep (zH_ h a c d e f g) m (List Value):=⟨[.int .i64 h.s.op,.int .i64 h.s.fm,.int .i64 h.s.fd,.int .i64 h.s.pl,.int .i64 h.s.tt,.int .i64 h.s.a,.int .i64 h.s.b,.int .i64 h.s.f.id,.int .i64 h.s.f.kind,.int .i64 h.s.f.lo,.int .i64 h.s.f.hi,.int .i64 h.s.f.most,.int .i64 h.s.v.n,.string h.s.v.s,.slice a h.s.t.length c,.slice d h.s.l.length e,.int .i64 h.fi,.slice f h.L.length g,.bool h.kn,.int .i64 h.at_,.int .i64 h.old.id,.int .i64 h.old.kind,.int .i64 h.old.lo,.int .i64 h.old.hi,.int .i64 h.old.most]⟩
instance (h:typing.Ch) (a:Option Addr) (c:Nat) (d:Option Addr) (e:Nat) (f:Option Addr) (g:Nat) (m:zH_ h a c d e f g):CoeDep (zH_ h a c d e f g) m (Array Value):=⟨#[.int .i64 h.s.op,.int .i64 h.s.fm,.int .i64 h.s.fd,.int .i64 h.s.pl,.int .i64 h.s.tt,.int .i64 h.s.a,.int .i64 h.s.b,.int .i64 h.s.f.id,.int .i64 h.s.f.kind,.int .i64 h.s.f.lo,.int .i64 h.s.f.hi,.int .i64 h.s.f.most,.int .i64 h.s.v.n,.string h.s.v.s,.slice a h.s.t.length c,.slice d h.s.l.length e,.int .i64 h.fi,.slice f h.L.length g,.bool h.kn,.int .i64 h.at_,.int .i64 h.old.id,.int .i64 h.old.kind,.int .i64 h.old.lo,.int .i64 h.old.hi,.int .i64 h.old.most]⟩
instance (h:typing.Ch) (a:Option Addr) (c:Nat) (d:Option Addr) (e:Nat) (f:Option Addr) (g:Nat) (m:zH_ h a c d e f g):CoeDep (zH_ h a c d e f g) m Value:=⟨.agg #[.int .i64 h.s.op,.int .i64 h.s.fm,.int .i64 h.s.fd,.int .i64 h.s.pl,.int .i64 h.s.tt,.int .i64 h.s.a,.int .i64 h.s.b,.int .i64 h.s.f.id,.int .i64 h.s.f.kind,.int .i64 h.s.f.lo,.int .i64 h.s.f.hi,.int .i64 h.s.f.most,.int .i64 h.s.v.n,.string h.s.v.s,.slice a h.s.t.length c,.slice d h.s.l.length e,.int .i64 h.fi,.slice f h.L.length g,.bool h.kn,.int .i64 h.at_,.int .i64 h.old.id,.int .i64 h.old.kind,.int .i64 h.old.lo,.int .i64 h.old.hi,.int .i64 h.old.most]⟩
end
section
structure zG_ (h:typing.Ch) (a:Option Addr) (c:Nat) (d:Option Addr) (e:Nat) where
def zG (h:typing.Ch) (a:Option Addr) (c:Nat) (d:Option Addr) (e:Nat):zG_ h a c d e:=⟨⟩
instance (h:typing.Ch) (a:Option Addr) (c:Nat) (d:Option Addr) (e:Nat) (m:zG_ h a c d e):CoeDep (zG_ h a c d e) m (List Value):=⟨[.int .i64 h.s.op,.int .i64 h.s.fm,.int .i64 h.s.fd,.int .i64 h.s.pl,.int .i64 h.s.tt,.int .i64 h.s.a,.int .i64 h.s.b,.int .i64 h.s.f.id,.int .i64 h.s.f.kind,.int .i64 h.s.f.lo,.int .i64 h.s.f.hi,.int .i64 h.s.f.most,.int .i64 h.s.v.n,.string h.s.v.s,.slice a h.s.t.length c,.slice d h.s.l.length e,.int .i64 0,.slice none 0 0,.bool false,.int .i64 0,.int .i64 0,.int .i64 0,.int .i64 0,.int .i64 0,.int .i64 0]⟩
instance (h:typing.Ch) (a:Option Addr) (c:Nat) (d:Option Addr) (e:Nat) (m:zG_ h a c d e):CoeDep (zG_ h a c d e) m (Array Value):=⟨#[.int .i64 h.s.op,.int .i64 h.s.fm,.int .i64 h.s.fd,.int .i64 h.s.pl,.int .i64 h.s.tt,.int .i64 h.s.a,.int .i64 h.s.b,.int .i64 h.s.f.id,.int .i64 h.s.f.kind,.int .i64 h.s.f.lo,.int .i64 h.s.f.hi,.int .i64 h.s.f.most,.int .i64 h.s.v.n,.string h.s.v.s,.slice a h.s.t.length c,.slice d h.s.l.length e,.int .i64 0,.slice none 0 0,.bool false,.int .i64 0,.int .i64 0,.int .i64 0,.int .i64 0,.int .i64 0,.int .i64 0]⟩
instance (h:typing.Ch) (a:Option Addr) (c:Nat) (d:Option Addr) (e:Nat) (m:zG_ h a c d e):CoeDep (zG_ h a c d e) m Value:=⟨.agg #[.int .i64 h.s.op,.int .i64 h.s.fm,.int .i64 h.s.fd,.int .i64 h.s.pl,.int .i64 h.s.tt,.int .i64 h.s.a,.int .i64 h.s.b,.int .i64 h.s.f.id,.int .i64 h.s.f.kind,.int .i64 h.s.f.lo,.int .i64 h.s.f.hi,.int .i64 h.s.f.most,.int .i64 h.s.v.n,.string h.s.v.s,.slice a h.s.t.length c,.slice d h.s.l.length e,.int .i64 0,.slice none 0 0,.bool false,.int .i64 0,.int .i64 0,.int .i64 0,.int .i64 0,.int .i64 0,.int .i64 0]⟩
end
section
structure zY_  where
def zY  :zY_  :=⟨⟩
instance  (m:zY_):CoeDep (zY_) m (List Value):=⟨[.int .i64 0,.int .i64 0,.int .i64 0,.int .i64 0,.int .i64 0,.int .i64 0,.int .i64 0,.int .i64 0,.int .i64 0,.int .i64 0,.int .i64 0,.int .i64 0,.int .i64 0,.string ⟨#[]⟩,.slice none 0 0,.slice none 0 0,.int .i64 0,.slice none 0 0,.bool false,.int .i64 0,.int .i64 0,.int .i64 0,.int .i64 0,.int .i64 0,.int .i64 0]⟩
instance  (m:zY_):CoeDep (zY_) m (Array Value):=⟨#[.int .i64 0,.int .i64 0,.int .i64 0,.int .i64 0,.int .i64 0,.int .i64 0,.int .i64 0,.int .i64 0,.int .i64 0,.int .i64 0,.int .i64 0,.int .i64 0,.int .i64 0,.string ⟨#[]⟩,.slice none 0 0,.slice none 0 0,.int .i64 0,.slice none 0 0,.bool false,.int .i64 0,.int .i64 0,.int .i64 0,.int .i64 0,.int .i64 0,.int .i64 0]⟩
instance  (m:zY_):CoeDep (zY_) m Value:=⟨.agg #[.int .i64 0,.int .i64 0,.int .i64 0,.int .i64 0,.int .i64 0,.int .i64 0,.int .i64 0,.int .i64 0,.int .i64 0,.int .i64 0,.int .i64 0,.int .i64 0,.int .i64 0,.string ⟨#[]⟩,.slice none 0 0,.slice none 0 0,.int .i64 0,.slice none 0 0,.bool false,.int .i64 0,.int .i64 0,.int .i64 0,.int .i64 0,.int .i64 0,.int .i64 0]⟩
end
theorem t37{P:Prop}(h:P:=by
 unfold execOp;rw [ho];simp only [hx,hy];go_simp):P:=h
namespace schema
open Go.RowKit
theorem zB {o:Oper} {a:Act} {w:World} {x y:Operand} {ad:Addr} {v:Value} {p:Option Addr} {n c:Nat} (ho:o.op=.store 47 x y) (hx:a.eval x=.pointer (some ad)) (hy:a.eval y=.slice p n c) (hc:w.cell? ad=some v) (hf:w.frozen? ad=false):(execOp a.eval o).run prog w=.ok .skip (w.setCell ad (.slice p n c)):=by
 exact t37
end schema
theorem t58{P:Prop}(h:P:=by
 go_enter func48,ntmps48;go_wp2_with (go_at_call 89;((with_reducible refine (cA _ br_).mono ?_);rintro e w1 ⟨rfl,hb1⟩;obtain ⟨z0,z1,hbo⟩:=HX.o _ hb1));go_ret;exact ⟨rfl,by assumption⟩):P:=h
theorem t55{P:Prop}(h:P:=by
 go_wp2_with (go_at_call 90;((with_reducible refine cF.mono ?_);rintro e w2 ⟨rfl,hb2⟩;obtain ⟨z0,z1,hbo⟩:=HX2.o _ hb2));go_ret;exact ⟨rfl,HO.o.trans ((HB.o.trans (hbo.mono HB.o.size)).mono HO.o.size)⟩):P:=h
namespace schema
open Go.RowKit
open field (Gives ak aj)
theorem boxS (i:Int) (a:Option Addr) (L:List Fm) (cap:Nat) (w w':World) (hb:Below (w.alloc (.cells (zS i a L.length cap) 24)).heap.size (w.alloc (.cells (zS i a L.length cap) 24)) w'):w'.cell? ⟨w.heap.size,0,none⟩=some (.int .i64 i)/\w'.cell? ⟨w.heap.size,1,none⟩=some (.slice a L.length cap)/\Below w.heap.size w w':=by
 have hB:=(Block.new w 24 (zS i a L.length cap)).later hb;exact ⟨hB.cell 0,hB.cell 1,aP hb⟩
structure Fm.Ok (w:World) (p:Fm):Prop where
 rf:field.Fds w p.f p.fL
 cf:p.fL.length<=p.fCap
 df:p.fCap<=maxLen
theorem Fm.Ok.below {w w':World} {p:Fm} (h:p.Ok w) (hb:Below w.heap.size w w'):p.Ok w':=⟨h.rf.below hb,h.cf,h.df⟩
theorem Fm.Good.ok {w:World} {p:Fm} (h:p.Good w):p.Ok w:=⟨h.rf,h.cf,h.df⟩
def FmL (w:World) (a:Option Addr) (F:List Fm):Prop:=Fms w a F/\∀p∈F,p.Ok w
theorem FmL.below {w w':World} {a:Option Addr} {F:List Fm} (h:FmL w a F) (hb:Below w.heap.size w w'):FmL w' a F:=⟨h.1.below hb,fun p hp=>(h.2 p hp).below hb⟩
theorem pV {w w':World} {a:Option Addr} {F:List Fm} (h:FmL w a F) (hb:Below w.heap.size w w') {k:Nat} (hk:k<F.length):
  ∃b off p,a=some ⟨b,off,none⟩/\b<w'.heap.size/\F[k]?=some p/\w'.cell? ⟨b,off+k*2,none⟩=some (.int .i64 p.id)/\w'.cell? ⟨b,off+k*2+1,none⟩=some (.slice p.f p.fL.length p.fCap)/\field.Fds w' p.f p.fL/\p.fL.length<=maxLen:=by
 obtain ⟨b,off,p,h1,h2,h3,h4,h5⟩:=(h.below hb).1.at hk;have hg:=(h.below hb).2 p (List.mem_of_getElem? h3);exact ⟨b,off,p,h1,h2,h3,h4,h5,hg.rf,Nat.le_trans hg.cf hg.df⟩
def lastOf (F:List Form) (k:Nat):Int:=if k=0 then -1 else ((F[k - 1]?).map (·.1)).getD 0
theorem rW {F:List Form} {k:Nat} {x:Form} (h:F[k]?=some x):lastOf F (k+1)=x.1:=by simp [lastOf,h]
theorem Gy {F:List Form} {k:Nat} {x:Form} (hk:jl (F.take k)) (hx:F[k]?=some x) (hf:Fine x):(∀p∈F.take k,p.1<x.1)↔¬(x.1<=lastOf F k):=by
 cases k with
 | zero=>simp [lastOf];have:=hf.1.1;omega
 | succ k=>
  have hl:k+1<F.length:=(List.getElem?_eq_some_iff.1 hx).1;have hy:F[k]?=some F[k]:=List.getElem?_eq_getElem om_;rw [rise hy hk,rW hy];omega
theorem iO (v:Int) (F:List Form):Right v F↔(1<=v/\v<=65535)/\F.length<=8/\jl F:=Iff.rfl
theorem aX (v:Int) (a:Option Addr) (cap:Nat) (F:List Fm) (w:World) (h:FmL w a F) (hF:F.length<=maxLen):
  Calls prog 48 #[zS v a F.length cap] w (Gives (.bool (decide (Right v (forms F)))) w):=by
 have HX:=hid (boxS v a F cap w);have HF:=hid (h.below (ak w (.cells (zS v a F.length cap) 24)));have hml:(F.length:Int)<=9223372036854775807:=by unfold maxLen at hF;omega
 obtain ⟨r,hr⟩:∃r:Bool,Hid (decide (Right v (forms F))=r):=⟨_,rfl⟩;rw [hr.o];unfold Gives;have cA:=fun t h=>nN v 1 65535 (w.alloc (.cells (zS v a F.length cap) 24)) t h
 have HL:=hid (aF F);clear h hF;by_cases h1:1<=v/\v<=65535
 ·replace cA:=cA true (decide_eq_true h1);by_cases h2:F.length<=8
  ·have hd:decide ((F.length:Int)>8)=false:=decide_eq_false om_;have HRI:Hid (Right v (forms F)↔jl (forms F)):=hid ⟨fun h=>h.2.2,fun h=>⟨h1,by rw [aF];exact h2,h⟩⟩;clear h1;go_enter func48,ntmps48;go_wp2_with (go_at_call 89;((with_reducible refine (cA _ br_).mono ?_);rintro e w1 ⟨rfl,hb1⟩;obtain ⟨z0,z1,hbo⟩:=HX.o _ hb1));have HF1:=hid (HF.o.below hb1);have HO:=hid hbo;clear HF HX cA hb1 z0 z1 hbo hd;go_loopw [3,19] (fun l n wr=>∃k:Nat,k<=F.length/\l=.int .i64 (lastOf (forms F) k)/\n=.int .i64 (k:Int)/\Hid (jl ((forms F).take k))/\Hid (Below w1.heap.size w1 wr)) (fun _ n _=>F.length - (intOf n).toNat);case atStart=>exact ⟨0,Nat.zero_le _,rfl,rfl,hid jl.nil,hid (Below.refl _ _)⟩
   case round=>
    obtain ⟨k,hk,rfl,rfl,HOK,HB⟩:=hrel;by_cases hlt:k<F.length
    ·obtain ⟨b,off,p,rfl,hbl,hp,c0,c1,hfd,hfl⟩:=pV HF1.o HB.o hlt;have i1:(k:Int)<F.length:=by omega
     have HP:=hid (fF hp);have HSUC:=hid (oV (fF hp));have HNO:=hid (Gg (fF hp));have HLI:=hid (fun hf=>Gy HOK.o (fF hp) hf);have HLS:=hid (rW (fF hp));obtain ⟨i,q,qc,L⟩:=p;simp only [Fm.p] at HP HSUC HNO HLI HLS c0 c1 hfd hfl;have cF:=gQ i q qc L (wr.alloc (.cells (zS i q L.length qc) 49)) (hfd.below (ak _ _)) hfl;have HX2:=hid (Bv i q L qc wr);clear hp hfd;generalize hla:lastOf (forms F) k=la at *;clear hla;by_cases hf:Fine (i,L)
     ·rw [decide_eq_true hf] at cF;have HFI:=hid hf;clear hf;by_cases hl:i<=la
      ·obtain rfl:false=r:=by rw [<-hr.o];exact (decide_eq_false (fun h=>HNO.o (fun h2=>(HLI.o HFI.o).1 h2.2 hl) (HRI.o.1 h))).symm
       exact t55
      ·have hd2:decide (i<=la)=false:=decide_eq_false hl;have HNL:=hid hl;clear hl;go_wp2_with (go_at_call 90;((with_reducible refine cF.mono ?_);rintro e w2 ⟨rfl,hb2⟩;obtain ⟨z0,z1,hbo⟩:=HX2.o _ hb2));exact ⟨⟨k+1,by omega,by rw [HLS.o],by go_num,hid (HSUC.o.2 ⟨HOK.o,HFI.o,(HLI.o HFI.o).2 HNL.o⟩),hid (HB.o.trans (hbo.mono HB.o.size))⟩,by simp [intOf];omega⟩
     ·rw [decide_eq_false hf] at cF;obtain rfl:false=r:=by rw [<-hr.o];exact (decide_eq_false (fun h=>HNO.o (fun h2=>hf h2.1) (HRI.o.1 h))).symm
      clear hf
      exact t55
    ·obtain rfl:k=F.length:=by omega
     obtain rfl:true=r:=by rw [<-hr.o];have:=HOK.o;rw [List.take_of_length_le (by rw [HL.o];exact Nat.le_refl _)] at this;exact (decide_eq_true (HRI.o.2 this)).symm
     go_wp2;go_ret;exact ⟨rfl,HO.o.trans (HB.o.mono HO.o.size)⟩
  ·have hd:decide ((F.length:Int)>8)=true:=decide_eq_true om_;obtain rfl:false=r:=by rw [<-hr.o];exact (decide_eq_false (fun h=>h2 (by have:=h.2.1;rw [aF] at this;exact this))).symm
   clear h2
   exact t58
 ·replace cA:=cA false (decide_eq_false h1);obtain rfl:false=r:=by rw [<-hr.o];exact (decide_eq_false (fun h=>h1 h.1)).symm
  exact t58
end schema
namespace schema
open Go.RowKit pen
def fmC (p:Fm):List Value:=(zS p.id p.f p.fL.length p.fCap)
def fmV:List Fm->List Value
 | []=>[]
 | p :: L=>fmC p++fmV L
theorem dP:∀a b,fmV (a++b)=fmV a++fmV b
 | [],_=>rfl
 | p :: a,b=>by rw [List.cons_append,fmV,fmV,dP a b,List.append_assoc]
theorem gU:∀L,(fmV L).length=L.length*2
 | []=>rfl
 | p :: L=>by rw [fmV];simp only [fmC,List.length_append,List.length_cons,List.length_nil,gU L];omega
theorem uG:∀(L:List Fm) (i:Nat) (p:Fm) (c:Nat),L[i]?=some p->c<2->(fmV L)[i*2+c]?=(fmC p)[c]?
 | [],i,p,c,h,_=>by simp at h
 | q :: L,0,p,c,h,hc=>by
  simp at h;subst h;rw [fmV,List.getElem?_append_left (by simp [fmC];omega)];simp
 | q :: L,i+1,p,c,h,hc=>by
  rw [fmV,List.getElem?_append_right (by simp [fmC];omega)];rw [<-uG L i p c (by simpa using h) hc];congr 1;simp only [fmC,List.length_cons,List.length_nil];omega
theorem tu {w:World} {base n:Nat} {a:Option Addr} {cap:Nat} {L:List Fm} {e:TypeId} (h:w.ownsRow base e 2 (.slice a n cap) n (fmV L)):Fms w a L/\n=L.length/\n<=cap:=by
 obtain ⟨hl,hr⟩:=h;have hn:n=L.length:=by have:=gU L;rw [hl] at this;omega
 rcases hr with ⟨hv,h0⟩ | ⟨b,cap',cur,hv,_,hg,hcp,_,_,htake⟩
 ·cases hv
  exact ⟨.inl (List.eq_nil_of_length_eq_zero om_),hn,by omega⟩
 ·cases hv
  refine ⟨.inr ⟨b,0,rfl,(Array.getElem?_eq_some_iff.1 hg).1,fun i p hp=> ?_⟩,hn,hcp⟩;have hi:i<L.length:=(List.getElem?_eq_some_iff.1 hp).1;have key:∀c x,c<2->(fmC p)[c]?=some x->w.cell? ⟨b,0+(i*2+c),none⟩=some x:=by
   intro c x hc hx;have h1:=uG L i p c hp hc;rw [hx,<-htake,List.getElem?_take,if_pos om_] at h1;rw [cell_of_row w b _ cur _ _ hg,Nat.zero_add,<-h1,Array.getElem?_toList]
  exact ⟨key 0 _ om_ rfl,key 1 _ om_ rfl⟩
theorem zN:(prog.info? 49).map (fun i=>(i.zero,i.size,i.bytes))=some (some (.agg #[.int .i64 0,.slice none 0 0]),2,32):=by kernel_rfl
theorem kV:∃i,prog.info? 49=some i/\i.zero=some (.agg #[.int .i64 0,.slice none 0 0])/\i.size=2/\i.bytes=32:=by
 obtain ⟨i,hi,he⟩:=Option.map_eq_some_iff.1 zN;simp only [Prod.mk.injEq] at he;exact ⟨i,hi,he.1,he.2.1,he.2.2⟩
def oq (B:Nat) (w:World) (p:Fm):Prop:=w.ownsRow B 52 5 (.slice p.f p.fL.length p.fCap) p.fL.length (fdV p.fL)
theorem oq.ok {B:Nat} {w:World} {p:Fm} (h:oq B w p):p.Ok w:=⟨(eu h).1,(kQ h).1,(kQ h).2⟩
theorem FY:(49:TypeId)≠52:=by decide
end schema
theorem t74{P:Prop}(h:P:=by
 go_ret;exact ⟨rfl,HB.o.trans (hb2.mono HB.o.size)⟩):P:=h
theorem t52{P:Prop}(h:P:=by
 exact ⟨⟨k+1,by omega,by go_num,hid (HNX.o HX.o),hid (HB.o.trans (hb2.mono HB.o.size))⟩,by simp [intOf];omega⟩):P:=h
namespace schema
open Go.RowKit
open field (Gives ak aj)
theorem hmf (fn:Fn) (first cap:Array Value) (w:World):(Instr.makeFunc fn first cap).run prog w=.ok (.func fn first cap) w:=rfl
theorem Ae (p:field.Fd) (x:Int) (b:Nat) (w:World) (hc:w.cell? ⟨b,0,none⟩=some (.int .i64 x)) (hb:b<w.heap.size):
  Calls prog 190 #[zF p,.pointer (some ⟨b,0,none⟩)] w (Gives (.bool (p.id == x)) w):=by
 have HN:=hid (ak w (.cells (zF p) 52));obtain ⟨i,k,lo,hi,m⟩:=p;simp only at HN ⊢;obtain ⟨r,hr⟩:∃r:Bool,Hid ((i == x)=r):=⟨_,rfl⟩;rw [hr.o];unfold Gives;have hne:w.heap.size≠b:=by omega
 go_enter func190,ntmps190;go_wp2;go_ret;exact ⟨dA hr.o,HN.o⟩
theorem uN (a:Option Addr) (cap:Nat) (L:List field.Fd) (x:Int) (g:Nat) (w:World) (h:field.Fds w a L) (hL:L.length<=maxLen) (hc:w.cell? ⟨g,0,none⟩=some (.int .i64 x)) (hg:g<w.heap.size):
  Calls prog 189 #[.slice a L.length cap,.func (.func 190) #[] #[.pointer (some ⟨g,0,none⟩)]] w (Gives (.int .i64 (au (ids L) x)) w):=by
 have hml:(L.length:Int)<=9223372036854775807:=by unfold maxLen at hL;omega
 have HF:=hid h;have HC:=hid hc;obtain ⟨r,hr⟩:∃r:Int,Hid (au (ids L) x=r):=⟨_,rfl⟩;rw [hr.o];unfold Gives;clear h hL hc;go_enter func189,ntmps189;go_wp2;go_loopw [8] (fun n wr=>∃k:Nat,k<=L.length/\n=.int .i64 (k:Int)/\Hid (x∉(ids L).take k)/\Hid (Below w.heap.size w wr)) (fun n _=>L.length - (intOf n).toNat);case atStart=>exact ⟨0,Nat.zero_le _,rfl,hid si_,hid (Below.refl _ _)⟩
 case round=>
  obtain ⟨k,hk,rfl,HNO,HB⟩:=hrel;by_cases hlt:k<L.length
  ·obtain ⟨b,off,p,rfl,hbl,hp,c0,c1,c2,c3,c4⟩:=eP HF.o HB.o hlt;have i1:(k:Int)<L.length:=by omega
   have HHIT:=hid (fun e=>nS HNO.o ((Gp hp).trans (congrArg some e)));have HNX:=hid (fun e=>kX HNO.o (Gp hp) e);have cs:=Ae p x g wr (by rw [HB.o.cell (p:=⟨g,0,none⟩) hg];exact HC.o) (Nat.lt_of_lt_of_le hg HB.o.size);clear hp;by_cases hx:p.id=x
   ·rw [show (p.id == x)=true from beq_iff_eq.2 hx] at cs;obtain rfl:(k:Int)=r:=by rw [<-hr.o];exact (HHIT.o hx).symm
    clear hx;go_wp2_with (go_at_call 190;((with_reducible refine cs.mono ?_);rintro e w2 ⟨rfl,hb2⟩))
    exact t74
   ·rw [show (p.id == x)=false from beq_eq_false_iff_ne.2 hx] at cs;have HX:=hid hx;clear hx;go_wp2_with (go_at_call 190;((with_reducible refine cs.mono ?_);rintro e w2 ⟨rfl,hb2⟩))
    exact t52
  ·obtain rfl:k=L.length:=by omega
   obtain rfl: -1=r:=by rw [<-hr.o];have:=HNO.o;rw [List.take_of_length_le (by rw [je];exact Nat.le_refl _)] at this;exact (lS this).symm
   go_wp2;go_ret;exact ⟨rfl,HB.o⟩
theorem oN (i:Int) (a:Option Addr) (cap:Nat) (L:List field.Fd) (x:Int) (w:World) (h:field.Fds w a L) (hL:L.length<=maxLen):
  Calls prog 141 #[zS i a L.length cap,.int .i64 x] w (Gives (.int .i64 (au (ids L) x)) w):=by
 have h1:=ak w (.cells (zS i a L.length cap) 49);have h2:=ak (w.alloc (.cells (zS i a L.length cap) 49)) (.cells #[.int .i64 x] 3);have cI:=uN a cap L x (w.heap.size+1) ((w.alloc (.cells (zS i a L.length cap) 49)).alloc (.cells #[.int .i64 x] 3)) ((h.below h1).below h2) hL si_ si_;have HB:=hid (h1.trans (h2.mono h1.size));clear h h1 h2;generalize au (ids L) x=r at *;unfold Gives;go_enter func141,ntmps141;go_wp2_with (go_at_call 189;((with_reducible refine cI.mono ?_);rintro e w2 ⟨rfl,hb2⟩))
 exact t74
end schema
namespace pen
open Go.RowKit
theorem qY {P:Program} {fn:Func} {R:Ending->World->Prop} {a:Act} {w:World} (h:fn.results=#[]) (hd:a.defers=[]) (hR:R (.returned (.tuple #[])) w):bodyPost P fn R .normal a w:=
 ⟨hd,.tuple #[],by simp [results,h],hR⟩
end pen
namespace item
open Go.RowKit
def Gives (v:Value) (w:World) (e:Ending) (w':World):Prop:=e=.returned v/\Below w.heap.size w w'
theorem ak (w:World) (d:Obj):Below w.heap.size w (w.alloc d):=(Below.refl _ _).alloc (Nat.le_refl _) _
theorem aP {w w':World} {d:Obj} (hb:Below (w.alloc d).heap.size (w.alloc d) w'):Below w.heap.size w w':=(ak w d).trans (hb.mono ((ak w d).size))
def itC (p:It):List Value:=[.int .u32 (p.key:Nat),.string p.data]
def itV:List It->List Value
 | []=>[]
 | p :: L=>itC p++itV L
def Lists (L:List It) (w:World) (e:Ending) (w':World):Prop:=∃a c,e=.returned (.slice a L.length c)/\w'.ownsRow w.heap.size 43 2 (.slice a L.length c) L.length (itV L)/\Below w.heap.size w w'
theorem uP:∀a b,itV (a++b)=itV a++itV b
 | [],_=>rfl
 | p :: a,b=>by rw [List.cons_append,itV,itV,uP a b,List.append_assoc]
theorem oZ:∀L,(itV L).length=L.length*2
 | []=>rfl
 | p :: L=>by rw [itV];simp only [itC,List.length_append,List.length_cons,List.length_nil,oZ L];omega
theorem sV (p:It):∀u∈itC p,u.oneCell'=true:=by intro u hu;simp [itC] at hu;rcases hu with rfl | rfl <;> rfl
theorem Du:∀L,∀u∈itV L,u.oneCell'=true
 | [],u,h=>by simp [itV] at h
 | p :: L,u,h=>by
  rw [itV,List.mem_append] at h;rcases h with h | h
  ·exact sV p u h
  ·exact Du L u h
theorem Dt:∀(L:List It) (j:Nat) (u:Value),(itV L)[j]?=some u->∃i p c,L[i]?=some p/\j=i*2+c/\c<2/\(itC p)[c]?=some u
 | [],j,u,h=>by simp [itV] at h
 | p :: L,j,u,h=>by
  rw [itV] at h;by_cases hj:j<2
  ·rw [List.getElem?_append_left (by simp [itC];omega)] at h;exact ⟨0,p,j,rfl,by omega,hj,h⟩
  ·rw [List.getElem?_append_right (by simp [itC];omega)] at h;obtain ⟨i,q,c,h1,h2,h3,h4⟩:=Dt L _ u h;simp only [itC,List.length_cons,List.length_nil] at h2;exact ⟨i+1,q,c,by simpa using h1,by omega,h3,h4⟩
theorem Gv:∀(L:List It) (i:Nat) (p:It) (c:Nat),L[i]?=some p->c<2->(itV L)[i*2+c]?=(itC p)[c]?
 | [],i,p,c,h,_=>by simp at h
 | q :: L,0,p,c,h,hc=>by
  simp at h;subst h;rw [itV,List.getElem?_append_left (by simp [itC];omega)];simp
 | q :: L,i+1,p,c,h,hc=>by
  rw [itV,List.getElem?_append_right (by simp [itC];omega)];rw [<-Gv L i p c (by simpa using h) hc];congr 1;simp only [itC,List.length_cons,List.length_nil];omega
theorem Gw {w:World} {a:Option Addr} {L:List It} (h:Its w a L):L.length=0\/∃ad,a=some ad/\∀j u,(itV L)[j]?=some u->w.cell? (ad.add j)=some u:=by
 rcases h with h | ⟨b,off,ha,hlt,hc⟩
 ·exact .inl (by rw [h];rfl)
 ·refine .inr ⟨_,ha,fun j u hj=> ?_⟩;obtain ⟨i,p,c,h1,rfl,h3,h4⟩:=Dt L j u hj;obtain ⟨c0,c1⟩:=hc i p h1;rw [Addr.add_lit];match c,h3,h4 with
  | 0,_,h4=>rw [show (some u)=some (.int .u32 (p.key:Nat)) from h4.symm.trans rfl];exact c0
  | 1,_,h4=>rw [show (some u)=some (.string p.data) from h4.symm.trans rfl,<-Nat.add_assoc];exact c1
theorem nY {w:World} {base n:Nat} {a:Option Addr} {cap:Nat} {L:List It} {e:TypeId} (h:w.ownsRow base e 2 (.slice a n cap) n (itV L)):Its w a L/\n=L.length/\n<=cap/\cap<=maxLen:=by
 obtain ⟨hl,hr⟩:=h;have hn:n=L.length:=by have:=oZ L;rw [hl] at this;omega
 rcases hr with ⟨hv,h0⟩ | ⟨b,cap',cur,hv,_,hg,hcp,hcm,_,htake⟩
 ·cases hv
  exact ⟨.inl (List.eq_nil_of_length_eq_zero om_),hn,by omega,by unfold maxLen;omega⟩
 ·cases hv
  refine ⟨.inr ⟨b,0,rfl,(Array.getElem?_eq_some_iff.1 hg).1,fun i p hp=> ?_⟩,hn,hcp,hcm⟩;have hi:i<L.length:=(List.getElem?_eq_some_iff.1 hp).1;have key:∀c x,c<2->(itC p)[c]?=some x->w.cell? ⟨b,0+(i*2+c),none⟩=some x:=by
   intro c x hc hx;have h1:=Gv L i p c hp hc;rw [hx,<-htake,List.getElem?_take,if_pos om_] at h1;rw [cell_of_row w b _ cur _ _ hg,Nat.zero_add,<-h1,Array.getElem?_toList]
  exact ⟨key 0 _ om_ rfl,key 1 _ om_ rfl⟩
theorem yL:(prog.info? 43).map (fun i=>(i.zero,i.size,i.bytes))=some (some (.agg #[.int .u32 0,.string ⟨#[]⟩]),2,24):=by kernel_rfl
theorem vX:∃i,prog.info? 43=some i/\i.zero=some (.agg #[.int .u32 0,.string ⟨#[]⟩])/\i.size=2/\i.bytes=24:=by
 obtain ⟨i,hi,he⟩:=Option.map_eq_some_iff.1 yL;simp only [Prod.mk.injEq] at he;exact ⟨i,hi,he.1,he.2.1,he.2.2⟩
theorem qH {w:World} {ops:Array Oper} {rest:List Oper} {o:Oper} {a:Act} {Q:Exit->Act->World->Prop} (hgd:o.guard=none) (s x:Operand)
  (ho:o.op=.call { callee:=.builtin .append,args:=#[s,x],argTypes:=#[26,26]})
  (base:Nat) (v:Value) (n:Nat) (L:List It) (hs:a.eval s=v) (hown:w.ownsRow base 43 2 v n (itV L))
  (ap:Option Addr) (m c:Nat) (M:List It) (hx:a.eval x=.slice ap m c) (hm:m=M.length) (hM:Its w ap M) (hn:n+m<=17179869184) (hbase:base<=w.heap.size)
  (h:∀v' w',w'.ownsRow base 43 2 v' (n+m) (itV (L++M))->w.grownBy w' v.ownBlock->wpList prog ops Q rest (a.put o.dst v') w'):wpList prog ops Q (o :: rest) a w:=by
 obtain ⟨i0,hi,hz0,hz1,hz2⟩:=vX;exact schema.aO hgd s x 26 ho base 43 i0 _ 2 24 underlying26 hi hz0 hz1 hz2 (by simp [Value.cells]) om_ v n (itV L) hs hown ap m c (itV M) hx (by rw [oZ,hm])
  ((Gw hM).imp (fun h0=>hm.trans h0) id) (Du M) (by unfold maxLen;omega) om_ hbase (fun v' w' h1 h2=>h v' w' (by rw [uP];exact h1) h2)
theorem qj {w w':World} {a:Option Addr} {L:List It} (h:Its w a L) (hb:Below w.heap.size w w') {k:Nat} (hk:k<L.length):
  ∃b off p,a=some ⟨b,off,none⟩/\b<w'.heap.size/\L[k]?=some p/\w'.cell? ⟨b,off+k*2,none⟩=some (.int .u32 (p.key:Nat))/\w'.cell? ⟨b,off+k*2+1,none⟩=some (.string p.data):=by
 obtain ⟨b,off,p,h1,h2,h3,h4,h5⟩:=(h.below hb).at hk;exact ⟨b,off,p,h1,h2,h3,h4,h5⟩
end item
namespace item
open Go.RowKit
def key (k:Nat):Value:=.tuple #[.int .u32 (k:Int),.int .i64 0]
theorem Aj (f i:Nat) (w:World) (hf:f<=200) (hi:i<=65535):Calls prog 124 #[.int .i64 (f:Int),.int .i64 (i:Int)] w (Gives (key (f*65536+i)) w):=by
 unfold Gives key;have d1:decide ((f:Int)<0)=false:=decide_eq_false om_;have d2:decide (200<f)=false:=decide_eq_false om_;have d3:decide ((i:Int)<0)=false:=decide_eq_false om_;have d4:decide (65535<i)=false:=decide_eq_false om_;go_enter func124,ntmps124;go_wp2;go_ret2;exact ⟨by go_num,Below.refl _ _⟩
theorem Hr (n f i:Nat) (w:World) (hn:n<=199) (hf:f<=200) (hi:i<=65535):Calls prog 102 #[.int .i64 (n:Int),.int .i64 (f:Int),.int .i64 (i:Int)] w (Gives (key ((n+1)*16777216+(f*65536+i))) w):=by
 have cM:=Aj f i w hf hi;obtain ⟨k,hk⟩:∃k:Nat,f*65536+i=k:=⟨_,rfl⟩;have hk1:k<16777216:=by omega
 obtain ⟨r,hr⟩:∃r:Nat,(n+1)*16777216+k=r:=⟨_,rfl⟩;rw [hk,hr];rw [hk] at cM;unfold Gives key at *;have HR:=hid hr;have HK:=hid hk1;clear hk hr hk1 hf hi;go_enter func102,ntmps102;go_wp2_with (go_at_call 124;((with_reducible refine cM.mono ?_);rintro e w' ⟨rfl,hb⟩));go_ret2;exact ⟨by have:=HR.o;have:=HK.o;go_num,hb⟩
end item
end Go.Proofs.YtogkgbnpodojjaaGreat
