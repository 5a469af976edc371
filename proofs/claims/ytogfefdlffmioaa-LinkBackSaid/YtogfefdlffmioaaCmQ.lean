/- Contracts and lemmas that claims of this seat share: StepMath, FieldRow. Each says its own conditions. -/
import Derived.Test.YtogfefdlffmioaaCmWord
import Derived.Maps.AppendAt
import Derived.Laws.Cover3
import Derived.Test.YtogfefdlffmioaaCmC
import Derived.Test.YtogfefdlffmioaaCmM
import Derived.Test.YtogfefdlffmioaaCmO
import Derived.Test.YtogfefdlffmioaaCmL
set_option linter.unusedVariables false
namespace Go.Proofs.Ytogfefdlffmioaa
open Go.Proofs.Try
namespace step
open Go.RowKit pen
open ak (aH)
open field (bytesOf)
instance:DecidableEq Sp:=fun x y=>
 if h:x.op=y.op/\x.fm=y.fm/\x.fd=y.fd/\x.pl=y.pl/\x.tt=y.tt/\x.a=y.a/\x.b=y.b/\x.f=y.f/\x.v=y.v/\x.t=y.t/\x.l=y.l then isTrue (by
  cases x;cases y;simp only at h
  obtain⟨rfl,rfl,rfl,rfl,rfl,rfl,rfl,rfl,rfl,rfl,rfl⟩:=h;rfl) else isFalse (by rintro rfl;simp at h)
abbrev fd0:field.Fd:=⟨0,0,0,0,0⟩
abbrev va0:field.Va:=⟨0,⟨#[]⟩⟩
abbrev Sp.zero:Sp:=⟨0,0,0,0,0,0,0,fd0,va0,[],[]⟩
def mem(op:Int):List Nat:=
 if op=1\/op=22 then [0,2,9] else if op=2 then [0,1,10] else if op=3\/op=23 then [0,1,8] else if op=4 then [0,1,5] else if op=24 then [0,1,5,8]
 else if op=5 then [0,1,6] else if op=25 then [0,1,7] else if op=6 then [0,1,4,3] else if op=26 then [0,1,4,3,8] else if op=7\/op=27 then [0,1,2]
 else if op=8\/op=28 then [0,1,3] else if op=9\/op=30 then [0,11] else if op=10\/op=29 then [0] else if op=21 then [0,1] else []
def uses(op:Int):List UInt8:=
 if op=1\/op=22 then [102,112,70,86] else if op=2 then [102,100,86] else if op=3\/op=23 then [102,100,70] else if op=4 then [102,100,98] else if op=24 then [102,100,98,70]
 else if op=5 then [102,100,97,84] else if op=25 then [102,100,84] else if op=6 then [102,100,97,116] else if op=26 then [102,100,97,116,70] else if op=7\/op=27 then [102,100,112]
 else if op=8\/op=28 then [102,100,116] else if op=9\/op=30 then [102,76] else if op=10\/op=29 then [102] else if op=21 then [102,100] else []
def lets(m:Nat):List UInt8:=
 if m=0 then [102] else if m=1 then [100] else if m=2 then [112] else if m=3 then [116] else if m=4 then [97] else if m=5 then [98] else if m=6 then [97,84] else if m=7 then [84]
 else if m=8 then [70] else if m=9 then [70,86] else if m=10 then [86] else [76]
theorem ops(op:Int):(op=1\/op=22\/op=2\/op=3\/op=23\/op=4\/op=24\/op=5\/op=25\/op=6\/op=26\/op=7\/op=27\/op=8\/op=28\/op=9\/op=30\/op=10\/op=29\/op=21)\/
  (¬op=1/\¬op=22/\¬op=2/\¬op=3/\¬op=23/\¬op=4/\¬op=24/\¬op=5/\¬op=25/\¬op=6/\¬op=26/\¬op=7/\¬op=27/\¬op=8/\¬op=28/\¬op=9/\¬op=30/\¬op=10/\¬op=29/\¬op=21):=by omega
theorem nZ{op:Int}(h:¬op=1/\¬op=22/\¬op=2/\¬op=3/\¬op=23/\¬op=4/\¬op=24/\¬op=5/\¬op=25/\¬op=6/\¬op=26/\¬op=7/\¬op=27/\¬op=8/\¬op=28/\¬op=9/\¬op=30/\¬op=10/\¬op=29/\¬op=21):mem op=[]/\uses op=[]:=by
 unfold mem uses;simp[h]
theorem jG{Q:Int->Prop}(h1:Q 1)(WN:Q 22)(h2:Q 2)(h3:Q 3)(WO:Q 23)(h4:Q 4)(WQ:Q 24)(h5:Q 5)(KW:Q 25)(h6:Q 6)(WR:Q 26)(h7:Q 7)(WS:Q 27)(h8:Q 8)(WT:Q 28)(h9:Q 9)(WW:Q 30)(OJ:Q 10)(WU:Q 29)(WM:Q 21)
  (h0:∀op,mem op=[]->uses op=[]->Q op) (op:Int):Q op:=by
 rcases ops op with h | h
 ·rcases h with rfl | rfl | rfl | rfl | rfl | rfl | rfl | rfl | rfl | rfl | rfl | rfl | rfl | rfl | rfl | rfl | rfl | rfl | rfl | rfl <;> assumption
 ·exact h0 op (nZ h).1 (nZ h).2
theorem vN(op:Int):uses op=((mem op).map lets).flatten:=by
 refine jG (Q:=fun op=>uses op=((mem op).map lets).flatten) ?_ ?_ ?_ ?_ ?_ ?_ ?_ ?_ ?_ ?_ ?_ ?_ ?_ ?_ ?_ ?_ ?_ ?_ ?_ ?_ ?h0 op;case h0=>intro op h1 h2;rw[h1,h2];rfl
 all_goals rfl
theorem uI(op:Int):∀m∈mem op,m<12:=by
 refine jG (Q:=fun op=>∀m∈mem op,m<12) ?_ ?_ ?_ ?_ ?_ ?_ ?_ ?_ ?_ ?_ ?_ ?_ ?_ ?_ ?_ ?_ ?_ ?_ ?_ ?_ ?h0 op;case h0=>intro op h1 h2;rw[h1];simp
 all_goals decide
theorem qI{op:Int}(h:mem op≠[]):1<=op/\op<=30:=by
 rcases ops op with h1 | h1
 ·omega
 ·exact absurd (nZ h1).1 h
theorem qH(op:Int):(mem op).length<=5:=by
 refine jG (Q:=fun op=>(mem op).length<=5) ?_ ?_ ?_ ?_ ?_ ?_ ?_ ?_ ?_ ?_ ?_ ?_ ?_ ?_ ?_ ?_ ?_ ?_ ?_ ?_ ?h0 op;case h0=>intro op h1 h2;rw[h1];simp
 all_goals decide
theorem vM(op:Int):(uses op).length<=5:=by
 refine jG (Q:=fun op=>(uses op).length<=5) ?_ ?_ ?_ ?_ ?_ ?_ ?_ ?_ ?_ ?_ ?_ ?_ ?_ ?_ ?_ ?_ ?_ ?_ ?_ ?_ ?h0 op;case h0=>intro op h1 h2;rw[h2];simp
 all_goals decide
def Letter(c:UInt8):Prop:=c=102\/c=100\/c=112\/c=116\/c=97\/c=98\/c=70\/c=86\/c=84\/c=76
instance (c:UInt8):Decidable (Letter c):=by unfold Letter;infer_instance
theorem oz(op:Int):∀c∈uses op,Letter c:=by
 refine jG (Q:=fun op=>∀c∈uses op,Letter c) ?_ ?_ ?_ ?_ ?_ ?_ ?_ ?_ ?_ ?_ ?_ ?_ ?_ ?_ ?_ ?_ ?_ ?_ ?_ ?_ ?h0 op;case h0=>intro op h1 h2;rw[h2];simp
 all_goals decide
def Table(t:List Int)(lim:Int):Prop:=(1<=t.length/\t.length<=64)/\(∀n∈t,0<=n/\n<=lim - 1)/\t.Nodup
instance (t:List Int) (lim:Int):Decidable (Table t lim):=by unfold Table;infer_instance
def Sp.Fine(s:Sp)(m:Nat):Prop:=
 if m=0 then 0<=s.fm/\s.fm<=200 else if m=1 then 0<=s.fd/\s.fd<=255 else if m=2 then 0<=s.pl/\s.pl<=8 else if m=3 then(0<=s.tt/\s.tt<=255)/\s.tt≠s.fd
 else if m=4 then 2<=s.a/\s.a<=1048576 else if m=5 then((-1048576<=s.a/\s.a<=1048576)/\s.a≠0)/\(-1099511627776<=s.b/\s.b<=1099511627776)
 else if m=6 then(1<=s.a/\s.a<=1000)/\Table s.t s.a else if m=7 then Table s.t 1000 else if m=8 then s.f.Right/\s.f.id=s.fd else if m=9 then s.f.Has s.v
 else if m=10 then(-1099511627776<=s.v.n/\s.v.n<=1099511627776)/\s.v.s.size<=32 else ak.Fine (s.fm,s.l)
instance (s:Sp) (m:Nat):Decidable (s.Fine m):=by unfold Sp.Fine;infer_instance
def Sp.clear(s:Sp)(m:Nat):Sp:=
 if m=0 then { s with fm:=0} else if m=1 then { s with fd:=0} else if m=2 then { s with pl:=0} else if m=3 then { s with tt:=0} else if m=4 then { s with a:=0}
 else if m=5 then { s with a:=0,b:=0} else if m=6 then { s with a:=0,t:=[]} else if m=7 then { s with t:=[]} else if m=8 then { s with f:=fd0} else if m=9 then { s with f:=fd0,v:=va0}
 else if m=10 then { s with v:=va0} else { s with l:=[]}
def Sp.Right(s:Sp):Prop:=(∀m∈mem s.op,s.Fine m)/\mem s.op≠[]/\(mem s.op).foldl Sp.clear { s with op:=0}=Sp.zero
instance (s:Sp):Decidable s.Right:=by unfold Sp.Right;infer_instance
def Rights(L:List Sp):Prop:=∀s∈L,s.Right
instance (L:List Sp):Decidable (Rights L):=by unfold Rights;infer_instance
def fZ(f:field.Fd):List Nat:=vb f.id.toNat++vb f.kind.toNat++vb (zig f.lo)++vb (zig f.hi)++vb f.most.toNat
def dF(L:List field.Fd):List Nat:=(L.map fZ).flatten
def fP(L:List Int):List Nat:=(L.map fun n=>vb n.toNat).flatten
def Sp.ja(s:Sp)(c:UInt8):List Nat:=
 if c=102 then vb s.fm.toNat else if c=100 then vb s.fd.toNat else if c=112 then vb s.pl.toNat else if c=116 then vb s.tt.toNat else if c=97 then vb s.a.toNat
 else if c=98 then vb (zig s.a)++vb (zig s.b) else if c=70 then fZ s.f else if c=86 then vb (zig s.v.n)++(vb s.v.s.size++bytesOf s.v.s)
 else if c=84 then vb s.t.length++fP s.t else vb s.l.length++dF s.l
def Sp.fJ(s:Sp)(m:Nat):List Nat:=((lets m).map s.ja).flatten
def Sp.iL(s:Sp):List Nat:=vb s.op.toNat++((uses s.op).map s.ja).flatten
def dZ(L:List Sp):List Nat:=vb L.length++(L.map Sp.iL).flatten
theorem wX(s:Sp):s.iL=vb s.op.toNat++((mem s.op).map s.fJ).flatten:=by
 unfold Sp.iL Sp.fJ;rw[vN];congr 1;induction mem s.op with
 | nil=>rfl
 | cons m M ih=>simp only[List.map_cons,List.flatten_cons,List.map_append,List.flatten_append,ih]
def takeA(e:Sight):field.Fd×Sight:=
 let a:=au 255 e
 let k:=au 4 a.2
 let l:=eInt k.2
 let h:=eInt l.2
 let m:=au 1000 h.2
 (⟨a.1,k.1,l.1,h.1,m.1⟩,m.2)
def bT:Nat->Sight->List field.Fd×Sight
 | 0,e=>([],e)
 | n+1,e=>((bT n e).1++[(takeA (bT n e).2).1],(takeA (bT n e).2).2)
def aV:Nat->Sight->List Int×Sight
 | 0,e=>([],e)
 | n+1,e=>((aV n e).1++[((au 1000 (aV n e).2).1:Int)],(au 1000 (aV n e).2).2)
theorem pY(n:Nat)(e:Sight):(bT n e).1.length=n:=by
 induction n with
 | zero=>rfl
 | succ n ih=>simp[bT,ih]
theorem mY(n:Nat)(e:Sight):(aV n e).1.length=n:=by
 induction n with
 | zero=>rfl
 | succ n ih=>simp[aV,ih]
def dN(c:UInt8)(s:Sp)(e:Sight):Sp×Sight:=
 if c=102 then({ s with fm:=(au 200 e).1},(au 200 e).2) else if c=100 then({ s with fd:=(au 255 e).1},(au 255 e).2)
 else if c=112 then({ s with pl:=(au 8 e).1},(au 8 e).2) else if c=116 then({ s with tt:=(au 255 e).1},(au 255 e).2)
 else if c=97 then({ s with a:=(au 1048576 e).1},(au 1048576 e).2) else if c=98 then({ s with a:=(eInt e).1,b:=(eInt (eInt e).2).1},(eInt (eInt e).2).2)
 else if c=70 then({ s with f:=(takeA e).1},(takeA e).2) else if c=86 then({ s with v:=⟨(eInt e).1,strOf (dw 32 (eInt e).2).1⟩},(dw 32 (eInt e).2).2)
 else if c=84 then({ s with t:=s.t++(aV (au 64 e).1 (au 64 e).2).1},(aV (au 64 e).1 (au 64 e).2).2)
 else({ s with l:=s.l++(bT (au 8 e).1 (au 8 e).2).1},(bT (au 8 e).1 (au 8 e).2).2)
def run(cs:List UInt8)(p:Sp×Sight):Sp×Sight:=cs.foldl (fun p c=>dN c p.1 p.2) p
theorem Hf(a b:List UInt8)(p:Sp×Sight):run (a++b) p=run b (run a p):=List.foldl_append
def jD(op:Int):Sp:={ Sp.zero with op:=op}
def jS(e:Sight):Sp×Sight:=run (uses (au 30 e).1) (jD (au 30 e).1,(au 30 e).2)
def bU:Nat->Sight->List Sp×Sight
 | 0,e=>([],e)
 | n+1,e=>((bU n e).1++[(jS (bU n e).2).1],(jS (bU n e).2).2)
theorem vH(n:Nat)(e:Sight):(bU n e).1.length=n:=by
 induction n with
 | zero=>rfl
 | succ n ih=>simp[bU,ih]
def jm(xs:List Nat):List Sp×Sight:=bU (au 40 (xs,0)).1 (au 40 (xs,0)).2
def parsed(xs:List Nat):List Sp×Nat:=
 if gI (jm xs).2≠0 then([],gI (jm xs).2) else if Rights (jm xs).1 then((jm xs).1,0) else([],2)
def bP(L:List Sp):Nat:=if 40<L.length then 7 else if Rights L then 0 else 2
end step
theorem t130{P:Prop}(h:P:=by
 rw[hx,<-qF,List.getElem?_take,if_pos om_] at h1
 exact t50):P:=h
theorem t88{P:Prop}(h:P:=by
 cases hv
 exact⟨.inl (List.eq_nil_of_length_eq_zero om_),hn,by omega⟩):P:=h
theorem t50{P:Prop}(h:P:=by
 rw[cell_of_row w b _ cur _ _ hg,Nat.zero_add,<-h1,Array.getElem?_toList]):P:=h
namespace ak
open Go.RowKit
def fdC(p:field.Fd):List Value:=(zF p)
def fdV:List field.Fd->List Value
 | []=>[]
 | p :: L=>fdC p++fdV L
theorem ug:∀a b,fdV (a++b)=fdV a++fdV b
 | [],_=>rfl
 | p :: a,b=>by rw[List.cons_append,fdV,fdV,ug a b,List.append_assoc]
theorem uh:∀L,(fdV L).length=L.length*5
 | []=>rfl
 | p :: L=>by rw[fdV];simp only[fdC,List.length_append,List.length_cons,List.length_nil,uh L];omega
theorem BV:∀L,∀u∈fdV L,u.oneCell'=true
 | [],u,h=>by simp[fdV] at h
 | p :: L,u,h=>by
  rw[fdV,List.mem_append] at h;rcases h with h | h
  ·simp[fdC] at h;rcases h with rfl | rfl | rfl | rfl | rfl <;> rfl
  ·exact BV L u h
theorem Ez:∀(L:List field.Fd) (i:Nat) (p:field.Fd) (c:Nat),L[i]?=some p->c<5->(fdV L)[i*5+c]?=(fdC p)[c]?
 | [],i,p,c,h,_=>by simp at h
 | q :: L,0,p,c,h,hc=>by
  simp at h;subst h;rw[fdV,List.getElem?_append_left (by simp[fdC];omega)];simp
 | q :: L,i+1,p,c,h,hc=>by
  rw[fdV,List.getElem?_append_right (by simp[fdC];omega)];rw[<-Ez L i p c (by simpa using h) hc];congr 1;simp only[fdC,List.length_cons,List.length_nil];omega
theorem oL{w:World}{base n:Nat}{a:Option Addr}{cap:Nat}{L:List field.Fd}{e:TypeId}(h:w.ownsRow base e 5 (.slice a n cap) n (fdV L)):field.Fds w a L/\n=L.length/\n<=cap:=by
 obtain⟨hl,hr⟩:=h;have hn:n=L.length:=by have:=uh L;rw[hl] at this;omega
 rcases hr with ⟨hv,h0⟩ | ⟨b,cap',cur,hv,_,hg,hcp,_,_,qF⟩
 ·exact t88
 ·cases hv
  refine⟨.inr ⟨b,0,rfl,(Array.getElem?_eq_some_iff.1 hg).1,fun i p hp=> ?_⟩,hn,hcp⟩;have hi:i<L.length:=(List.getElem?_eq_some_iff.1 hp).1;have key:∀c x,c<5->(fdC p)[c]?=some x->w.cell? ⟨b,0+(i*5+c),none⟩=some x:=by
   intro c x hc hx;have h1:=Ez L i p c hp hc
   exact t130
  exact⟨key 0 _ om_ rfl,key 1 _ om_ rfl,key 2 _ om_ rfl,key 3 _ om_ rfl,key 4 _ om_ rfl⟩
theorem Gp:(prog.info? 47).map (fun i=>(i.zero,i.size,i.bytes))=some (some (.agg #[.int .i64 0,.int .i64 0,.int .i64 0,.int .i64 0,.int .i64 0]),5,40):=by kernel_rfl
theorem vW:∃i,prog.info? 47=some i/\i.zero=some (.agg #[.int .i64 0,.int .i64 0,.int .i64 0,.int .i64 0,.int .i64 0])/\i.size=5/\i.bytes=40:=by
 obtain⟨i,hi,he⟩:=Option.map_eq_some_iff.1 Gp;simp only[Prod.mk.injEq] at he;exact⟨i,hi,he.1,he.2.1,he.2.2⟩
end ak
end Go.Proofs.Ytogfefdlffmioaa
