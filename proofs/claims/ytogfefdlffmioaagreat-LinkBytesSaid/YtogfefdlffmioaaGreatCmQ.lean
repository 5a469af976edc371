/- Contracts and lemmas that claims of this seat share: StepMath, Stay. Each says its own conditions. -/
import Derived.Test.YtogfefdlffmioaaGreatCmWord
import Derived.Maps.AppendAt
import Derived.Test.YtogfefdlffmioaaGreatCmB
import Derived.Test.YtogfefdlffmioaaGreatCmD
import Derived.Test.YtogfefdlffmioaaGreatCmL
import Derived.Test.YtogfefdlffmioaaGreatCmO
import Derived.Test.YtogfefdlffmioaaGreatCmK
set_option linter.unusedVariables false
namespace Go.Proofs.YtogfefdlffmioaaGreat
open Go.Proofs.Tryz
namespace step
open Go.RowKit pen
open schema (take_succ_at)
open field (bytesOf)
instance:DecidableEq Sp:=fun x y=>
 if h:x.op=y.op/\x.fm=y.fm/\x.fd=y.fd/\x.pl=y.pl/\x.tt=y.tt/\x.a=y.a/\x.b=y.b/\x.f=y.f/\x.v=y.v/\x.t=y.t/\x.l=y.l then isTrue (by
  cases x;cases y;simp only at h
  obtain⟨rfl,rfl,rfl,rfl,rfl,rfl,rfl,rfl,rfl,rfl,rfl⟩:=h;rfl) else isFalse (by rintro rfl;simp at h)
abbrev fd0:field.Fd:=⟨0,0,0,0,0⟩
abbrev va0:field.Va:=⟨0,⟨#[]⟩⟩
abbrev Sp.zero:Sp:=⟨0,0,0,0,0,0,0,fd0,va0,[],[]⟩
def mem(op:Int):List Nat:=
 if op=1\/op=22 then [0,2,9] else if op=2 then [0,1,10] else if op=3\/op=23 then [0,1,8] else if op=4 then [0,1,5] else if op=24 then [0,1,5,8]
 else if op=5 then [0,1,6] else if op=25 then [0,1,7] else if op=6 then [0,1,4,3] else if op=26 then [0,1,4,3,8] else if op=7\/op=27 then [0,1,2]
 else if op=8\/op=28 then [0,1,3] else if op=9\/op=30 then [0,11] else if op=10\/op=29 then [0] else if op=21 then [0,1] else []
def uses(op:Int):List UInt8:=
 if op=1\/op=22 then [102,112,70,86] else if op=2 then [102,100,86] else if op=3\/op=23 then [102,100,70] else if op=4 then [102,100,98] else if op=24 then [102,100,98,70]
 else if op=5 then [102,100,97,84] else if op=25 then [102,100,84] else if op=6 then [102,100,97,116] else if op=26 then [102,100,97,116,70] else if op=7\/op=27 then [102,100,112]
 else if op=8\/op=28 then [102,100,116] else if op=9\/op=30 then [102,76] else if op=10\/op=29 then [102] else if op=21 then [102,100] else []
def lets(m:Nat):List UInt8:=
 if m=0 then [102] else if m=1 then [100] else if m=2 then [112] else if m=3 then [116] else if m=4 then [97] else if m=5 then [98] else if m=6 then [97,84] else if m=7 then [84]
 else if m=8 then [70] else if m=9 then [70,86] else if m=10 then [86] else [76]
theorem ops(op:Int):(op=1\/op=22\/op=2\/op=3\/op=23\/op=4\/op=24\/op=5\/op=25\/op=6\/op=26\/op=7\/op=27\/op=8\/op=28\/op=9\/op=30\/op=10\/op=29\/op=21)\/
  (¬op=1/\¬op=22/\¬op=2/\¬op=3/\¬op=23/\¬op=4/\¬op=24/\¬op=5/\¬op=25/\¬op=6/\¬op=26/\¬op=7/\¬op=27/\¬op=8/\¬op=28/\¬op=9/\¬op=30/\¬op=10/\¬op=29/\¬op=21):=by omega
theorem mem_none{op:Int}(h:¬op=1/\¬op=22/\¬op=2/\¬op=3/\¬op=23/\¬op=4/\¬op=24/\¬op=5/\¬op=25/\¬op=6/\¬op=26/\¬op=7/\¬op=27/\¬op=8/\¬op=28/\¬op=9/\¬op=30/\¬op=10/\¬op=29/\¬op=21):mem op=[]/\uses op=[]:=by
 unfold mem uses;simp[h]
theorem all_ops{Q:Int->Prop}(h1:Q 1)(sG:Q 22)(h2:Q 2)(h3:Q 3)(sH:Q 23)(h4:Q 4)(sJ:Q 24)(h5:Q 5)(mQ:Q 25)(h6:Q 6)(sK:Q 26)(h7:Q 7)(sN:Q 27)(h8:Q 8)(sO:Q 28)(h9:Q 9)(sS:Q 30)(ou:Q 10)(sQ:Q 29)(sF:Q 21)
  (h0:∀op,mem op=[]->uses op=[]->Q op) (op:Int):Q op:=by
 rcases ops op with h | h
 ·rcases h with rfl | rfl | rfl | rfl | rfl | rfl | rfl | rfl | rfl | rfl | rfl | rfl | rfl | rfl | rfl | rfl | rfl | rfl | rfl | rfl <;> assumption
 ·exact h0 op (mem_none h).1 (mem_none h).2
theorem uses_mem(op:Int):uses op=((mem op).map lets).flatten:=by
 refine all_ops (Q:=fun op=>uses op=((mem op).map lets).flatten) ?_ ?_ ?_ ?_ ?_ ?_ ?_ ?_ ?_ ?_ ?_ ?_ ?_ ?_ ?_ ?_ ?_ ?_ ?_ ?_ ?h0 op;case h0=>intro op h1 h2;rw[h1,h2];rfl
 all_goals rfl
theorem mem_lt(op:Int):∀m∈mem op,m<12:=by
 refine all_ops (Q:=fun op=>∀m∈mem op,m<12) ?_ ?_ ?_ ?_ ?_ ?_ ?_ ?_ ?_ ?_ ?_ ?_ ?_ ?_ ?_ ?_ ?_ ?_ ?_ ?_ ?h0 op;case h0=>intro op h1 h2;rw[h1];simp
 all_goals decide
theorem mem_span{op:Int}(h:mem op≠[]):1<=op/\op<=30:=by
 rcases ops op with h1 | h1
 ·omega
 ·exact absurd (mem_none h1).1 h
theorem mem_len(op:Int):(mem op).length<=5:=by
 refine all_ops (Q:=fun op=>(mem op).length<=5) ?_ ?_ ?_ ?_ ?_ ?_ ?_ ?_ ?_ ?_ ?_ ?_ ?_ ?_ ?_ ?_ ?_ ?_ ?_ ?_ ?h0 op;case h0=>intro op h1 h2;rw[h1];simp
 all_goals decide
theorem uses_len(op:Int):(uses op).length<=5:=by
 refine all_ops (Q:=fun op=>(uses op).length<=5) ?_ ?_ ?_ ?_ ?_ ?_ ?_ ?_ ?_ ?_ ?_ ?_ ?_ ?_ ?_ ?_ ?_ ?_ ?_ ?_ ?h0 op;case h0=>intro op h1 h2;rw[h2];simp
 all_goals decide
def Letter(c:UInt8):Prop:=c=102\/c=100\/c=112\/c=116\/c=97\/c=98\/c=70\/c=86\/c=84\/c=76
instance (c:UInt8):Decidable (Letter c):=by unfold Letter;infer_instance
theorem uses_letter(op:Int):∀c∈uses op,Letter c:=by
 refine all_ops (Q:=fun op=>∀c∈uses op,Letter c) ?_ ?_ ?_ ?_ ?_ ?_ ?_ ?_ ?_ ?_ ?_ ?_ ?_ ?_ ?_ ?_ ?_ ?_ ?_ ?_ ?h0 op;case h0=>intro op h1 h2;rw[h2];simp
 all_goals decide
def Table(t:List Int)(lim:Int):Prop:=(1<=t.length/\t.length<=64)/\(∀n∈t,0<=n/\n<=lim - 1)/\t.Nodup
instance (t:List Int) (lim:Int):Decidable (Table t lim):=by unfold Table;infer_instance
def Sp.Fine(s:Sp)(m:Nat):Prop:=
 if m=0 then 0<=s.fm/\s.fm<=200 else if m=1 then 0<=s.fd/\s.fd<=255 else if m=2 then 0<=s.pl/\s.pl<=8 else if m=3 then(0<=s.tt/\s.tt<=255)/\s.tt≠s.fd
 else if m=4 then 2<=s.a/\s.a<=1048576 else if m=5 then((-1048576<=s.a/\s.a<=1048576)/\s.a≠0)/\(-1099511627776<=s.b/\s.b<=1099511627776)
 else if m=6 then(1<=s.a/\s.a<=1000)/\Table s.t s.a else if m=7 then Table s.t 1000 else if m=8 then s.f.Right/\s.f.id=s.fd else if m=9 then s.f.Has s.v
 else if m=10 then(-1099511627776<=s.v.n/\s.v.n<=1099511627776)/\s.v.s.size<=32 else schema.Fine (s.fm,s.l)
instance (s:Sp) (m:Nat):Decidable (s.Fine m):=by unfold Sp.Fine;infer_instance
def Sp.clear(s:Sp)(m:Nat):Sp:=
 if m=0 then { s with fm:=0} else if m=1 then { s with fd:=0} else if m=2 then { s with pl:=0} else if m=3 then { s with tt:=0} else if m=4 then { s with a:=0}
 else if m=5 then { s with a:=0,b:=0} else if m=6 then { s with a:=0,t:=[]} else if m=7 then { s with t:=[]} else if m=8 then { s with f:=fd0} else if m=9 then { s with f:=fd0,v:=va0}
 else if m=10 then { s with v:=va0} else { s with l:=[]}
def Sp.Right(s:Sp):Prop:=(∀m∈mem s.op,s.Fine m)/\mem s.op≠[]/\(mem s.op).foldl Sp.clear { s with op:=0}=Sp.zero
instance (s:Sp):Decidable s.Right:=by unfold Sp.Right;infer_instance
def Rights(L:List Sp):Prop:=∀s∈L,s.Right
instance (L:List Sp):Decidable (Rights L):=by unfold Rights;infer_instance
def fieldA(f:field.Fd):List Nat:=vb f.id.toNat++vb f.kind.toNat++vb (zig f.lo)++vb (zig f.hi)++vb f.most.toNat
def fieldsA(L:List field.Fd):List Nat:=(L.map fieldA).flatten
def numsA(L:List Int):List Nat:=(L.map fun n=>vb n.toNat).flatten
def Sp.letB(s:Sp)(c:UInt8):List Nat:=
 if c=102 then vb s.fm.toNat else if c=100 then vb s.fd.toNat else if c=112 then vb s.pl.toNat else if c=116 then vb s.tt.toNat else if c=97 then vb s.a.toNat
 else if c=98 then vb (zig s.a)++vb (zig s.b) else if c=70 then fieldA s.f else if c=86 then vb (zig s.v.n)++(vb s.v.s.size++bytesOf s.v.s)
 else if c=84 then vb s.t.length++numsA s.t else vb s.l.length++fieldsA s.l
def Sp.memB(s:Sp)(m:Nat):List Nat:=((lets m).map s.letB).flatten
def Sp.stepB(s:Sp):List Nat:=vb s.op.toNat++((uses s.op).map s.letB).flatten
def listB(L:List Sp):List Nat:=vb L.length++(L.map Sp.stepB).flatten
theorem stepB_mem(s:Sp):s.stepB=vb s.op.toNat++((mem s.op).map s.memB).flatten:=by
 unfold Sp.stepB Sp.memB;rw[uses_mem];congr 1;induction mem s.op with
 | nil=>rfl
 | cons m M ih=>simp only[List.map_cons,List.flatten_cons,List.map_append,List.flatten_append,ih]
def takeA(e:Sight):field.Fd×Sight:=
 let a:=eCount 255 e
 let k:=eCount 4 a.2
 let l:=eInt k.2
 let h:=eInt l.2
 let m:=eCount 1000 h.2
 (⟨a.1,k.1,l.1,h.1,m.1⟩,m.2)
def takeAs:Nat->Sight->List field.Fd×Sight
 | 0,e=>([],e)
 | n+1,e=>((takeAs n e).1++[(takeA (takeAs n e).2).1],(takeA (takeAs n e).2).2)
def takeNs:Nat->Sight->List Int×Sight
 | 0,e=>([],e)
 | n+1,e=>((takeNs n e).1++[((eCount 1000 (takeNs n e).2).1:Int)],(eCount 1000 (takeNs n e).2).2)
theorem takeAs_len(n:Nat)(e:Sight):(takeAs n e).1.length=n:=by
 induction n with
 | zero=>rfl
 | succ n ih=>simp[takeAs,ih]
theorem takeNs_len(n:Nat)(e:Sight):(takeNs n e).1.length=n:=by
 induction n with
 | zero=>rfl
 | succ n ih=>simp[takeNs,ih]
def takeL(c:UInt8)(s:Sp)(e:Sight):Sp×Sight:=
 if c=102 then({ s with fm:=(eCount 200 e).1},(eCount 200 e).2) else if c=100 then({ s with fd:=(eCount 255 e).1},(eCount 255 e).2)
 else if c=112 then({ s with pl:=(eCount 8 e).1},(eCount 8 e).2) else if c=116 then({ s with tt:=(eCount 255 e).1},(eCount 255 e).2)
 else if c=97 then({ s with a:=(eCount 1048576 e).1},(eCount 1048576 e).2) else if c=98 then({ s with a:=(eInt e).1,b:=(eInt (eInt e).2).1},(eInt (eInt e).2).2)
 else if c=70 then({ s with f:=(takeA e).1},(takeA e).2) else if c=86 then({ s with v:=⟨(eInt e).1,strOf (eText 32 (eInt e).2).1⟩},(eText 32 (eInt e).2).2)
 else if c=84 then({ s with t:=s.t++(takeNs (eCount 64 e).1 (eCount 64 e).2).1},(takeNs (eCount 64 e).1 (eCount 64 e).2).2)
 else({ s with l:=s.l++(takeAs (eCount 8 e).1 (eCount 8 e).2).1},(takeAs (eCount 8 e).1 (eCount 8 e).2).2)
def run(cs:List UInt8)(p:Sp×Sight):Sp×Sight:=cs.foldl (fun p c=>takeL c p.1 p.2) p
theorem run_app(a b:List UInt8)(p:Sp×Sight):run (a++b) p=run b (run a p):=List.foldl_append
def startS(op:Int):Sp:={ Sp.zero with op:=op}
def takeS(e:Sight):Sp×Sight:=run (uses (eCount 30 e).1) (startS (eCount 30 e).1,(eCount 30 e).2)
def takeSs:Nat->Sight->List Sp×Sight
 | 0,e=>([],e)
 | n+1,e=>((takeSs n e).1++[(takeS (takeSs n e).2).1],(takeS (takeSs n e).2).2)
theorem takeSs_len(n:Nat)(e:Sight):(takeSs n e).1.length=n:=by
 induction n with
 | zero=>rfl
 | succ n ih=>simp[takeSs,ih]
def readL(xs:List Nat):List Sp×Sight:=takeSs (eCount 40 (xs,0)).1 (eCount 40 (xs,0)).2
def parsed(xs:List Nat):List Sp×Nat:=
 if eEnd (readL xs).2≠0 then([],eEnd (readL xs).2) else if Rights (readL xs).1 then((readL xs).1,0) else([],2)
def rightsE(L:List Sp):Nat:=if 40<L.length then 7 else if Rights L then 0 else 2
end step
theorem t83{P:Prop}(h:P:=by
 exact ht (Obj.cells.inj (Option.some.inj hk)).2.1):P:=h
namespace schema
open Go.RowKit
def StayT(e:TypeId)(w w':World):Prop:=∀(k:Nat) (cs:Array Value) (fr:Nat×Nat),w.heap[k]?=some (Obj.cells cs e fr)->w'.heap[k]?=some (Obj.cells cs e fr)
theorem StayT.trans{e:TypeId}{a b c:World}(h:StayT e a b)(k:StayT e b c):StayT e a c:=fun i cs fr hi=>k i cs fr (h i cs fr hi)
theorem stay_below(e:TypeId){w w':World}(hb:Below w.heap.size w w'):StayT e w w':=fun k cs fr hk=>(hb.block k (Array.getElem?_eq_some_iff.1 hk).1).trans hk
theorem stay_but(e:TypeId){b:Nat}{t:TypeId}{cs:List Value}{w w':World}(hb:But w.heap.size b w w')(hB:Block w b t cs)(ht:t≠e):StayT e w w':=by
 intro k cs' fr hk;refine(hb.2.2.2.2 k (Array.getElem?_eq_some_iff.1 hk).1 ?_).trans hk;rintro rfl;unfold Block at hB;rw[hB] at hk
 exact t83
theorem stay_grown(e:TypeId){B e2 sz n:Nat}{u:Value}{xs:List Value}{w w':World}(ho:w.ownsRow B e2 sz u n xs)(hg:w.grownBy w' u.ownBlock)(ht:e2≠e):StayT e w w':=by
 intro k cs fr hk;refine(hg.block k (Array.getElem?_eq_some_iff.1 hk).1 ?_).trans hk;intro he;rcases ho.2 with ⟨hv,_⟩ | ⟨g,cap,cur,hv,_,hh,_⟩
 ·rw[hv] at he;simp[Value.ownBlock] at he
 ·rw[hv] at he;simp[Value.ownBlock] at he;subst he;rw[hh] at hk
  exact t83
theorem stay_store(e:TypeId){g:Nat}{t:TypeId}{cs:List Value}{w:World}(hB:Block w g t cs)(ht:t≠e)(o:Nat)(v:Value):StayT e w (w.setCell ⟨g,o,none⟩ v):=by
 intro k cs' fr hk;refine(Below.heap_setCell w ⟨g,o,none⟩ v k ?_).trans hk;rintro rfl;unfold Block at hB;rw[hB] at hk
 exact t83
theorem StayT.block{w w':World}{k:Nat}{e:TypeId}{cs:List Value}(h:StayT e w w')(hB:Block w k e cs):Block w' k e cs:=h k _ _ hB
theorem StayT.row{w w':World}{B e sz n:Nat}{v:Value}{xs:List Value}(h:StayT e w w')(ho:w.ownsRow B e sz v n xs):w'.ownsRow B e sz v n xs:=by
 refine⟨ho.1, ?_⟩;rcases ho.2 with h0 | ⟨g,cap,cur,hv,h1,hg,h2⟩
 ·exact .inl h0
 ·exact .inr ⟨g,cap,cur,hv,h1,h g _ _ hg,h2⟩
theorem exec_push{o:Oper}{act:Act}{w:World}{x y:Operand}{u:Value}{B n g sz bytes:Nat}{t e:TypeId}{i:TypeInfo}{z:Value}{xs news:List Value}
  (ht:prog.underlying t=some (.slice e)) (hi:prog.info? e=some i) (hz:i.zero=some z) (hsz:i.size=sz) (lI:i.bytes=bytes) (hzs:z.cells.size=sz) (h0:0<sz)
  (ho:o.op=.call { callee:=.builtin .append,args:=#[x,y],argTypes:=#[t,t]}) (hx:act.eval x=u) (hy:act.eval y=.slice (some ⟨g,0,none⟩) 1 1)
  (hown:w.ownsRow B e sz u n xs) (hl:news.length=sz) (hc:∀j v,news[j]?=some v->w.cell? ⟨g,j,none⟩=some v) (h1:∀v∈news,v.oneCell'=true) (hbytes:(n+1)*bytes<=140737488355328) (hn:n+1<=1000000) (hB:B<=w.heap.size):
  ∃q w',(execOp act.eval o).run prog w=.ok (.value q) w'/\w'.ownsRow B e sz q (n+1) (xs++news)/\w.grownBy w' u.ownBlock:=by
 obtain⟨q,w',h2,h3,h4,_,_⟩:=run_append_own_at w B t o.type e i z sz bytes ht hi hz hsz lI hzs h0 u n xs hown ⟨g,0,none⟩ 1 1 news om_
  (fun j v hj=>by rw[Addr.add_lit,Nat.zero_add];exact hc j v hj) h1 (by unfold maxLen;omega) hbytes hB
 refine⟨q,w', ?_,h3,h4⟩;unfold execOp;simp[ho,resolve,invoke,builtin,hx,hy,h2,Result.andThen]
theorem own_cap{w:World}{base n sz:Nat}{a:Option Addr}{cap:Nat}{xs:List Value}{e:TypeId}(h:w.ownsRow base e sz (.slice a n cap) n xs):n<=cap/\cap<=maxLen:=by
 rcases h.2 with ⟨hv,h0⟩ | ⟨b,cap',cur,hv,_,hg,h1,h2,_⟩
 ·cases hv;exact⟨by omega,by unfold maxLen;omega⟩
 ·cases hv;exact⟨h1,h2⟩
theorem exec_cell_slice'{o:Oper}{a:Act}{w:World}{ty:TypeId}{x:Operand}{ad:Addr}{q:Option Addr}{n c:Nat}(ho:o.op=.load ty x)(hc:w.cell? ad=some (.slice q n c))(hu:∀w',(isAgg ty).run prog w'=.ok false w')(hx:a.eval x=.pointer (some ad):=by kernel_rfl):
  (execOp a.eval o).run prog w=.ok (.value (.slice q n c)) w:=by
 unfold execOp;rw[ho];simp only[hx];go_simp
end schema
namespace plan
open Go Go.RowKit
theorem toL{P:Program}{md:Region.Mode}{Q:Exit->Act->World->Prop}{l:List Oper}{n:Nat}{listed:Array Bool}{a:Act}{w:World}(f:Nat)(L:Bool->Bool->Bool->Array Bool)(hf:n=f+3)
  (h:wpAnyH P md l.toArray (NoPanic Q) (fun _=>True) (f+3) (L false false false) a w) (hl:listed=L false false false:=by kernel_rfl):wpAnyH P md l.toArray (NoPanic Q) (fun _=>True) n listed a w:=by
 subst hf hl;exact h
end plan
end Go.Proofs.YtogfefdlffmioaaGreat
