/- Contracts and lemmas that claims of this seat share: StepOpen, SchemaOpen, SchemaMath, StepMath, FieldTop, FieldSize, SchemaLong, RecordMath, Append, FieldStore, AppendN, FieldRow, FieldSmall, StepBox, WholeOpen. Each says its own conditions. -/
import Derived.Test.YtogkgbnpodojjaaGreatCmWord
import Derived.Deep.Slices
import Derived.Deep.Strs
import Derived.Lib.SmallJoins
import Derived.IntWalk
import Derived.Handy
import Derived.Laws.Strings
import Derived.Deep.Upon
import Derived.Maps.AppendAt
import Derived.Laws.Cover3
import Derived.Test.YtogkgbnpodojjaaGreatCmA
import Derived.Test.YtogkgbnpodojjaaGreatCmB
import Derived.Test.YtogkgbnpodojjaaGreatCmD
import Derived.Test.YtogkgbnpodojjaaGreatCmE
import Derived.Test.YtogkgbnpodojjaaGreatCmC
set_option linter.unusedVariables false
namespace Go.Proofs.YtogkgbnpodojjaaGreat
open Go.Proofs.Tryz
namespace step
open Go.ChangeShapes Go.WideShapes Go.ChangeAt Go.RowKit Go.Deep
structure Sp where
 (op fm fd pl tt a b:Int) (f:field.Fd) (v:field.Va) (t:List Int) (l:List field.Fd)
structure St where
 (s:Sp) (ta:Option Addr) (tc:Nat) (la:Option Addr) (lc:Nat)
instance:Inhabited St:=⟨⟨⟨0,0,0,0,0,0,0,⟨0,0,0,0,0⟩,⟨0,⟨#[]⟩⟩,[],[]⟩,none,0,none,0⟩⟩
def spC (s:Sp) (x y:Value):List Value:=[.int .i64 s.op,.int .i64 s.fm,.int .i64 s.fd,.int .i64 s.pl,.int .i64 s.tt,.int .i64 s.a,.int .i64 s.b,.int .i64 s.f.id,.int .i64 s.f.kind,.int .i64 s.f.lo,.int .i64 s.f.hi,.int .i64 s.f.most,.int .i64 s.v.n,.string s.v.s,x,y]
def St.C (p:St):List Value:=spC p.s (.slice p.ta p.s.t.length p.tc) (.slice p.la p.s.l.length p.lc)
structure Sp.Ints (s:Sp):Prop where
 bop:vU s.op
 bfm:vU s.fm
 bfd:vU s.fd
 bpl:vU s.pl
 btt:vU s.tt
 ba:vU s.a
 bb:vU s.b
 bn:vU s.v.n
 bt:∀n∈s.t,vU n
structure St.Good (W:World) (p:St):Prop where
 ints:p.s.Ints
 bf:p.s.f.Good W
 rt:Ins W p.ta p.s.t
 ct:p.s.t.length<=p.tc
 dt:p.tc<=maxLen
 rl:field.Fds W p.la p.s.l
 ml:∀y∈p.s.l,y.Good W
 cl:p.s.l.length<=p.lc
 dl:p.lc<=maxLen
theorem St.Good.below {W W':World} {p:St} (h:p.Good W) (hb:Below W.heap.size W W'):p.Good W':=
 ⟨h.ints,h.bf.below hb,h.rt.below hb,h.ct,h.dt,h.rl.below hb,fun y hy=>(h.ml y hy).below hb,h.cl,h.dl⟩
def Sts (w:World) (a:Option Addr) (l:List St):Prop:=
 l=[]\/∃b off,a=some ⟨b,off,none⟩/\b<w.heap.size/\∀(i:Nat) p,l[i]?=some p->∀(j:Nat) v,p.C[j]?=some v->w.cell? ⟨b,off+i*16+j,none⟩=some v
theorem Sts.below {w w':World} {a:Option Addr} {l:List St} (h:Sts w a l) (hb:Below w.heap.size w w'):Sts w' a l:=by
 rcases h with h | ⟨b,off,ha,hlt,hc⟩
 ·exact .inl h
 ·refine .inr ⟨b,off,ha,Nat.lt_of_lt_of_le hlt hb.size,fun i p hp j v hv=> ?_⟩;rw [hb.cell (p:=⟨b,off+i*16+j,none⟩) hlt];exact hc i p hp j v hv
section
variable {H:Type} {enc:TypeId×Value->H} {P:Program} {W:World}
structure StShape (P:Program) (t:TypeId) (F:List Field):Prop where
 hs:P.underlying t=some (.struct F.toArray)
 hC:P.cellsOf t=16
 ho:F.map (fun f=>(f.offset,P.cellsOf f.type))=[(0,1),(1,1),(2,1),(3,1),(4,1),(5,1),(6,1),(7,5),(12,2),(14,1),(15,1)]
 hi:∀i,i<7->∀f,F[i]?=some f->P.underlying f.type=some (.int .i64)
 hf:∀f,F[7]?=some f->∃f0 f1 f2 f3 f4,P.underlying f.type=some (.struct #[f0,f1,f2,f3,f4])/\oneCellFields P #[f0,f1,f2,f3,f4]=true/\P.underlying f0.type=some (.int .i64)/\P.underlying f1.type=some (.int .i64)/\P.underlying f2.type=some (.int .i64)/\P.underlying f3.type=some (.int .i64)/\P.underlying f4.type=some (.int .i64)
 hv:∀f,F[8]?=some f->∃g0 g1,P.underlying f.type=some (.struct #[g0,g1])/\oneCellFields P #[g0,g1]=true/\P.underlying g0.type=some (.int .i64)/\P.underlying g1.type=some .string
 ht:∀f,F[9]?=some f->Fp P f.type
 hl:∀f,F[10]?=some f->field.wK P f.type
def tZ (P:Program) (t:TypeId):Prop:=∃F,StShape P t F
theorem take_one {cs:List Value} {i:Nat} {c:Value} (h:cs[i]?=some c):(cs.drop i).take 1=[c]:=by
 rw [List.take_one,List.head?_drop,h];rfl
theorem qW {t:TypeId} {fs:Array Field} {n:Nat} {cs:List Value} {y:DataW H×List MemPlace} (hs:P.underlying t=some (.struct fs)) (hone:oneCellFields P fs=true) (h:DataW.trod enc P W 0 (fun _=>true) true n t cs=some y):
  ∃m,∀(i:Nat) (f:Field) (c:Value),fs[i]?=some f->cs[i]?=some c->∃y,DataW.trod enc P W 0 (fun _=>true) true m f.type [c]=some y:=by
 obtain ⟨ys,m,_,_,hl,hlen,hx⟩:=DataW.trod_struct hs h;refine ⟨m,fun i f c hi hc=> ?_⟩;obtain ⟨o,k⟩:=hone_of hone i f hi;have h1:=hx i f hi;rw [o,k,take_one hc] at h1;have hi6:i<fs.size:=(Array.getElem?_eq_some_iff.1 hi).1;exact ⟨_,h1.trans (List.getElem?_eq_getElem (by rw [hlen];exact hi6))⟩
theorem CJ {t:TypeId} {fs:Array Field} {n:Nat} {cs:List Value} {y:DataW H×List MemPlace} (hs:P.underlying t=some (.struct fs)) (h:DataW.trod enc P W 0 (fun _=>true) true n t cs=some y):
  ∃m,∀(i:Nat) (f:Field),fs[i]?=some f->∃y,DataW.trod enc P W 0 (fun _=>true) true m f.type ((cs.drop f.offset).take (P.cellsOf f.type))=some y:=by
 obtain ⟨ys,m,_,_,hl,hlen,hx⟩:=DataW.trod_struct hs h;refine ⟨m,fun i f hi=> ?_⟩;have hi6:i<fs.size:=(Array.getElem?_eq_some_iff.1 hi).1;exact ⟨_,(hx i f hi).trans (List.getElem?_eq_getElem (by rw [hlen];exact hi6))⟩
theorem FD {t:TypeId} {n:Nat} {c0 c1 c2 c3 c4 c5 c6 c7 c8 c9 c10 c11 c12 c13 c14 c15:Value} {y:DataW H×List MemPlace} (hT:tZ P t)
  (h:DataW.trod enc P W 0 (fun _=>true) true n t [c0,c1,c2,c3,c4,c5,c6,c7,c8,c9,c10,c11,c12,c13,c14,c15]=some y):
  ∃p:St,p.Good W/\[c0,c1,c2,c3,c4,c5,c6,c7,c8,c9,c10,c11,c12,c13,c14,c15]=p.C:=by
 obtain ⟨F,S⟩:=hT;have hlen:F.length=11:=by have:=congrArg List.length S.ho;simpa using this
 match F,hlen,S with
 | [F0,F1,F2,F3,F4,F5,F6,F7,F8,F9,F10],_,S=>
  have ho:=S.ho;simp only [List.map_cons,List.map_nil,List.cons.injEq,Prod.mk.injEq,and_true] at ho;obtain ⟨m,hx⟩:=CJ S.hs h;have e0:=hx 0 F0 rfl;have e1:=hx 1 F1 rfl;have e2:=hx 2 F2 rfl;have e3:=hx 3 F3 rfl;have e4:=hx 4 F4 rfl;have e5:=hx 5 F5 rfl;have e6:=hx 6 F6 rfl;have e7:=hx 7 F7 rfl;have e8:=hx 8 F8 rfl;have e9:=hx 9 F9 rfl;have e10:=hx 10 F10 rfl;obtain ⟨⟨o0,k0⟩,⟨o1,k1⟩,⟨o2,k2⟩,⟨o3,k3⟩,⟨o4,k4⟩,⟨o5,k5⟩,⟨o6,k6⟩,⟨o7,k7⟩,⟨o8,k8⟩,⟨o9,k9⟩,⟨o10,k10⟩⟩:=ho;rw [o0,k0] at e0;rw [o1,k1] at e1;rw [o2,k2] at e2;rw [o3,k3] at e3;rw [o4,k4] at e4;rw [o5,k5] at e5;rw [o6,k6] at e6;rw [o7,k7] at e7;rw [o8,k8] at e8;rw [o9,k9] at e9;rw [o10,k10] at e10;obtain ⟨y0,e0⟩:=e0;obtain ⟨y1,e1⟩:=e1;obtain ⟨y2,e2⟩:=e2;obtain ⟨y3,e3⟩:=e3;obtain ⟨y4,e4⟩:=e4;obtain ⟨y5,e5⟩:=e5;obtain ⟨y6,e6⟩:=e6;obtain ⟨y7,e7⟩:=e7;obtain ⟨y8,e8⟩:=e8;obtain ⟨y9,e9⟩:=e9;obtain ⟨y10,e10⟩:=e10;replace e0:DataW.trod enc P W 0 (fun _=>true) true m F0.type [c0]=some y0:=e0;replace e1:DataW.trod enc P W 0 (fun _=>true) true m F1.type [c1]=some y1:=e1;replace e2:DataW.trod enc P W 0 (fun _=>true) true m F2.type [c2]=some y2:=e2;replace e3:DataW.trod enc P W 0 (fun _=>true) true m F3.type [c3]=some y3:=e3;replace e4:DataW.trod enc P W 0 (fun _=>true) true m F4.type [c4]=some y4:=e4;replace e5:DataW.trod enc P W 0 (fun _=>true) true m F5.type [c5]=some y5:=e5;replace e6:DataW.trod enc P W 0 (fun _=>true) true m F6.type [c6]=some y6:=e6;replace e7:DataW.trod enc P W 0 (fun _=>true) true m F7.type [c7,c8,c9,c10,c11]=some y7:=e7;replace e8:DataW.trod enc P W 0 (fun _=>true) true m F8.type [c12,c13]=some y8:=e8;replace e9:DataW.trod enc P W 0 (fun _=>true) true m F9.type [c14]=some y9:=e9;replace e10:DataW.trod enc P W 0 (fun _=>true) true m F10.type [c15]=some y10:=e10;obtain ⟨x0,q0,_,w0⟩:=DataW.trod_int (S.hi 0 om_ F0 rfl) e0;obtain ⟨x1,q1,_,w1⟩:=DataW.trod_int (S.hi 1 om_ F1 rfl) e1;obtain ⟨x2,q2,_,w2⟩:=DataW.trod_int (S.hi 2 om_ F2 rfl) e2;obtain ⟨x3,q3,_,w3⟩:=DataW.trod_int (S.hi 3 om_ F3 rfl) e3;obtain ⟨x4,q4,_,w4⟩:=DataW.trod_int (S.hi 4 om_ F4 rfl) e4;obtain ⟨x5,q5,_,w5⟩:=DataW.trod_int (S.hi 5 om_ F5 rfl) e5;obtain ⟨x6,q6,_,w6⟩:=DataW.trod_int (S.hi 6 om_ F6 rfl) e6;obtain ⟨f0,f1,f2,f3,f4,hf,hfo,a0,a1,a2,a3,a4⟩:=S.hf F7 rfl;obtain ⟨m7,r7⟩:=qW hf hfo e7;obtain ⟨z0,r70⟩:=r7 0 f0 c7 rfl rfl;obtain ⟨z1,r71⟩:=r7 1 f1 c8 rfl rfl;obtain ⟨z2,r72⟩:=r7 2 f2 c9 rfl rfl;obtain ⟨z3,r73⟩:=r7 3 f3 c10 rfl rfl;obtain ⟨z4,r74⟩:=r7 4 f4 c11 rfl rfl;obtain ⟨pf,hpf,rfl,rfl,rfl,rfl,rfl⟩:=field.yY a0 a1 a2 a3 a4 r70 r71 r72 r73 r74;obtain ⟨g0,g1,hv,hvo,b0,b1⟩:=S.hv F8 rfl;obtain ⟨m8,r8⟩:=qW hv hvo e8;obtain ⟨z5,r80⟩:=r8 0 g0 c12 rfl rfl;obtain ⟨z6,r81⟩:=r8 1 g1 c13 rfl rfl;obtain ⟨pv,hpv,rfl,rfl⟩:=field.FI b0 b1 r80 r81;obtain ⟨ta,tc,tL,rfl,t1,t2,t3,t4⟩:=Ce (S.ht F9 rfl) e9;obtain ⟨la,lc,lL,rfl,l1,l2,l3,l4⟩:=field.uX (S.hl F10 rfl) e10;refine ⟨⟨⟨x0,x1,x2,x3,x4,x5,x6,pf,pv,tL,lL⟩,ta,tc,la,lc⟩,⟨⟨wf_i64 _ w0,wf_i64 _ w1,wf_i64 _ w2,wf_i64 _ w3,wf_i64 _ w4,wf_i64 _ w5,wf_i64 _ w6,hpv.bn,t2⟩,hpf,t1,t3,t4,l1,l2,l3,l4⟩, ?_⟩;simp only [List.cons.injEq,and_true] at q0 q1 q2 q3 q4 q5 q6;rw [q0,q1,q2,q3,q4,q5,q6];rfl
theorem H7 {t e:TypeId} {a:Option Addr} {len cap:Nat} {d:DataW H} {pl:List MemPlace} (ht:P.underlying t=some (.slice e)) (hT:tZ P e)
  (h0:DataW.Trod enc P W 0 (fun _=>true) true t (.slice a len cap) d pl):∃l:List St,len=l.length/\Sts W a l/\(∀p∈l,p.Good W)/\len<=cap/\cap<=maxLen:=by
 obtain ⟨fuel,hf⟩:=h0;have hf2:DataW.trod enc P W 0 (fun _=>true) true fuel t [.slice a len cap]=some (d,pl):=by simpa [Value.cells] using hf
 rcases open_slice ht hf2 with ⟨hcs,_⟩ | ⟨A,len',cap',q,n,D,Pl,hcs,_,hlc,hcm,hm,hx0,hrow⟩
 ·exact t53
 ·simp at hcs;obtain ⟨rfl,rfl,rfl⟩:=hcs;simp only [if_true] at hm;have hC:P.cellsOf e=16:=by obtain ⟨F,S⟩:=id hT;exact S.hC
  have each:∀r,r<len->∃p:St,p.Good W/\∀(j:Nat) v,p.C[j]?=some v->W.cell? (A.add (r*16+j))=some v:=by
   intro r hr;obtain ⟨cs',h1,h2⟩:=hrow r om_;rw [hC] at h1;obtain ⟨_,hlen0,hcell⟩:=World.cells?_some h1;obtain ⟨F,S⟩:=id hT;obtain ⟨ys,m,_,_,hl,hlen,hx⟩:=DataW.trod_struct S.hs h2;rw [hC] at hl;match cs',hl with
   | [c0,c1,c2,c3,c4,c5,c6,c7,c8,c9,c10,c11,c12,c13,c14,c15],_=>
    obtain ⟨p,hp,he⟩:=FD hT h2;refine ⟨p,hp,fun j v hj=> ?_⟩;have hjl:j<16:=(List.getElem?_eq_some_iff.1 hj).1;have k:=hcell j om_;rw [add_add] at k;rw [k,he];exact hj
  obtain ⟨y,hy⟩:=choose_lt each;refine ⟨(List.range len).map y,by simp, ?_, ?_,by omega,hcm⟩
  ·by_cases hz:len=0
   ·subst hz;exact .inl rfl
   ·right;obtain ⟨b,off,spot⟩:=A;have hc0:=(hy 0 om_).2 0 _ rfl;have hspot:spot=none:=by simpa [Addr.add] using World.cell?_spot hc0
    subst hspot;have hb:b<W.heap.size:=by
     exact t79
    refine ⟨b,off,rfl,hb,fun i p hp j v hj=> ?_⟩;have hi:i<len:=by have:=(List.getElem?_eq_some_iff.1 hp).1;simpa using this
    simp [hi] at hp;subst hp;have e:=(hy i hi).2 j v hj;rw [Addr.add_lit] at e;rw [Nat.add_assoc];exact e
  ·exact t66
end
theorem KE:tZ prog 57:=by
 refine ⟨_,⟨underlying57,by kernel_rfl,by kernel_rfl, ?_, ?_, ?_, ?_, ?_⟩⟩;rotate_left
 ·intro f hf;obtain rfl:=Option.some.inj hf;exact ⟨_,_,_,_,_,underlying52,by kernel_rfl,by kernel_rfl,by kernel_rfl,by kernel_rfl,by kernel_rfl,by kernel_rfl⟩
 ·intro f hf;obtain rfl:=Option.some.inj hf;exact ⟨_,_,underlying54,by kernel_rfl,by kernel_rfl,by kernel_rfl⟩
 ·intro f hf;obtain rfl:=Option.some.inj hf;exact L9
 ·intro f hf;obtain rfl:=Option.some.inj hf;exact field.Jr
 ·intro i hi f hf;have h:i=0\/i=1\/i=2\/i=3\/i=4\/i=5\/i=6:=by omega
  rcases h with rfl | rfl | rfl | rfl | rfl | rfl | rfl <;> (obtain rfl:=Option.some.inj hf;exact underlying3)
end step
section
structure zP_ (s:step.Sp) (a:Option Addr) (c:Nat) (d:Option Addr) (e:Nat) where
def zP (s:step.Sp) (a:Option Addr) (c:Nat) (d:Option Addr) (e:Nat):zP_ s a c d e:=⟨⟩
instance (s:step.Sp) (a:Option Addr) (c:Nat) (d:Option Addr) (e:Nat) (m:zP_ s a c d e):CoeDep (zP_ s a c d e) m (List Value):=⟨[.int .i64 s.op,.int .i64 s.fm,.int .i64 s.fd,.int .i64 s.pl,.int .i64 s.tt,.int .i64 s.a,.int .i64 s.b,.int .i64 s.f.id,.int .i64 s.f.kind,.int .i64 s.f.lo,.int .i64 s.f.hi,.int .i64 s.f.most,.int .i64 s.v.n,.string s.v.s,.slice a s.t.length c,.slice d s.l.length e]⟩
instance (s:step.Sp) (a:Option Addr) (c:Nat) (d:Option Addr) (e:Nat) (m:zP_ s a c d e):CoeDep (zP_ s a c d e) m (Array Value):=⟨#[.int .i64 s.op,.int .i64 s.fm,.int .i64 s.fd,.int .i64 s.pl,.int .i64 s.tt,.int .i64 s.a,.int .i64 s.b,.int .i64 s.f.id,.int .i64 s.f.kind,.int .i64 s.f.lo,.int .i64 s.f.hi,.int .i64 s.f.most,.int .i64 s.v.n,.string s.v.s,.slice a s.t.length c,.slice d s.l.length e]⟩
instance (s:step.Sp) (a:Option Addr) (c:Nat) (d:Option Addr) (e:Nat) (m:zP_ s a c d e):CoeDep (zP_ s a c d e) m Value:=⟨.agg #[.int .i64 s.op,.int .i64 s.fm,.int .i64 s.fd,.int .i64 s.pl,.int .i64 s.tt,.int .i64 s.a,.int .i64 s.b,.int .i64 s.f.id,.int .i64 s.f.kind,.int .i64 s.f.lo,.int .i64 s.f.hi,.int .i64 s.f.most,.int .i64 s.v.n,.string s.v.s,.slice a s.t.length c,.slice d s.l.length e]⟩
end
section
structure zZ_  where
def zZ  :zZ_  :=⟨⟩
instance  (m:zZ_):CoeDep (zZ_) m (List Value):=⟨[.int .i64 0,.int .i64 0,.int .i64 0,.int .i64 0,.int .i64 0,.int .i64 0,.int .i64 0,.int .i64 0,.int .i64 0,.int .i64 0,.int .i64 0,.int .i64 0,.int .i64 0,.string ⟨#[]⟩,.slice none 0 0,.slice none 0 0]⟩
instance  (m:zZ_):CoeDep (zZ_) m (Array Value):=⟨#[.int .i64 0,.int .i64 0,.int .i64 0,.int .i64 0,.int .i64 0,.int .i64 0,.int .i64 0,.int .i64 0,.int .i64 0,.int .i64 0,.int .i64 0,.int .i64 0,.int .i64 0,.string ⟨#[]⟩,.slice none 0 0,.slice none 0 0]⟩
instance  (m:zZ_):CoeDep (zZ_) m Value:=⟨.agg #[.int .i64 0,.int .i64 0,.int .i64 0,.int .i64 0,.int .i64 0,.int .i64 0,.int .i64 0,.int .i64 0,.int .i64 0,.int .i64 0,.int .i64 0,.int .i64 0,.int .i64 0,.string ⟨#[]⟩,.slice none 0 0,.slice none 0 0]⟩
end
namespace schema
open Go.ChangeShapes Go.WideShapes Go.ChangeAt Go.RowKit Go.Deep
structure Sc where
 (ver:Int) (f:Option Addr) (fCap:Nat) (fL:List Fm)
instance:Inhabited Sc:=⟨⟨0,none,0,[]⟩⟩
structure Sc.Good (W:World) (p:Sc):Prop where
 unit:True
 bver: -9223372036854775808<=p.ver/\p.ver<=9223372036854775807
 rf:Fms W p.f p.fL
 mf:∀y∈p.fL,y.Good W
 cf:p.fL.length<=p.fCap
 df:p.fCap<=maxLen
theorem Sc.Good.below {W W':World} {p:Sc} (h:p.Good W) (hb:Below W.heap.size W W'):p.Good W':=⟨h.unit,h.bver,h.rf.below hb,fun y hy=>(h.mf y hy).below hb,h.cf,h.df⟩
section
variable {H:Type} {enc:TypeId×Value->H} {P:Program} {W:World}
theorem Fz {t0 t1:TypeId} {n:Nat} {v0 v1:Value} {y0 y1:DataW H×List MemPlace} (u0:P.underlying t0=some (.int .i64)) (u1:CY P t1)
  (h0:DataW.trod enc P W 0 (fun _=>true) true n t0 [v0]=some y0) (h1:DataW.trod enc P W 0 (fun _=>true) true n t1 [v1]=some y1):
  ∃p:Sc,p.Good W/\v0=.int .i64 p.ver/\v1=.slice p.f p.fL.length p.fCap:=by
 obtain ⟨x0,e0,_,w0⟩:=DataW.trod_int u0 h0;have a0:=wf_i64 _ w0;obtain ⟨q1,c1,M1,rfl,hr1,hM1,hl1,hc1⟩:=Cc u1 h1
 exact t105
def Scs (w:World) (a:Option Addr) (l:List Sc):Prop:=
 l=[]\/∃b off,a=some ⟨b,off,none⟩/\b<w.heap.size/\∀i p,l[i]?=some p->w.cell? ⟨b,off+i*2,none⟩=some (.int .i64 p.ver)/\w.cell? ⟨b,off+i*2+1,none⟩=some (.slice p.f p.fL.length p.fCap)
end
theorem Scs.below {w w':World} {a:Option Addr} {l:List Sc} (h:Scs w a l) (hb:Below w.heap.size w w'):Scs w' a l:=by
 rcases h with h | ⟨b,off,ha,hlt,hc⟩
 ·exact .inl h
 ·refine .inr ⟨b,off,ha,Nat.lt_of_lt_of_le hlt hb.size,fun i p hp=> ?_⟩;rw [hb.cell (p:=⟨b,off+i*2,none⟩) hlt,hb.cell (p:=⟨b,off+i*2+1,none⟩) hlt];exact hc i p hp
theorem Scs.at {w:World} {a:Option Addr} {l:List Sc} (h:Scs w a l) {i:Nat} (hi:i<l.length):
  ∃b off p,a=some ⟨b,off,none⟩/\b<w.heap.size/\l[i]?=some p/\w.cell? ⟨b,off+i*2,none⟩=some (.int .i64 p.ver)/\w.cell? ⟨b,off+i*2+1,none⟩=some (.slice p.f p.fL.length p.fCap):=by
 rcases h with rfl | ⟨b,off,ha,hlt,hc⟩
 ·simp at hi
 ·have hp:=List.getElem?_eq_getElem hi;exact ⟨b,off,_,ha,hlt,hp,hc i _ hp⟩
end schema
namespace schema
open Go.RowKit pen
instance:DecidableEq field.Fd:=fun a b=>
 if h:a.id=b.id/\a.kind=b.kind/\a.lo=b.lo/\a.hi=b.hi/\a.most=b.most then isTrue (by cases a;cases b;simp_all) else isFalse (by rintro rfl;simp at h)
abbrev Form:=Int×List field.Fd
def Fm.p (f:Fm):Form:=(f.id,f.fL)
def forms (F:List Fm):List Form:=F.map Fm.p
theorem aF (F:List Fm):(forms F).length=F.length:=List.length_map _
theorem fF {F:List Fm} {i:Nat} {p:Fm} (h:F[i]?=some p):(forms F)[i]?=some p.p:=by simp [forms,h]
def size (L:List field.Fd):Nat:=(L.map field.Fd.size).sum
def ids (L:List field.Fd):List Int:=L.map field.Fd.id
def jC (L:List field.Fd):Prop:=(∀f∈L,f.Right)/\(ids L).Nodup
instance (L:List field.Fd):Decidable (jC L):=by unfold jC;infer_instance
def Fine (p:Form):Prop:=(0<=p.1/\p.1<=200)/\(1<=p.2.length/\p.2.length<=8)/\jC p.2/\size p.2<=64
instance (p:Form):Decidable (Fine p):=by unfold Fine;infer_instance
def jl (F:List Form):Prop:=(∀p∈F,Fine p)/\(F.map (·.1)).Pairwise (· < ·)
instance (F:List Form):Decidable (jl F):=by unfold jl;infer_instance
def Right (v:Int) (F:List Form):Prop:=(1<=v/\v<=65535)/\F.length<=8/\jl F
instance (v:Int) (F:List Form):Decidable (Right v F):=by unfold Right;infer_instance
theorem uw (f:field.Fd):f.size<=33:=by
 have:= @field.tX;unfold field.Fd.size;split
 ·rename_i h;split
  ·unfold field.Fd.Right at h;omega
  ·exact Nat.le_trans (this _) om_
 ·omega
theorem size_le (L:List field.Fd):size L<=33*L.length:=by
 induction L with
 | nil=>simp [size]
 | cons f L ih=>
  have:=uw f;simp only [size,List.map_cons,List.sum_cons,List.length_cons] at ih ⊢;omega
theorem aH {α:Type} {L:List α} {k:Nat} {x:α} (h:L[k]?=some x):L.take (k+1)=L.take k++[x]:=by
 rw [List.take_add_one,h];rfl
theorem EU {L:List field.Fd} {k:Nat} {x:field.Fd} (h:L[k]?=some x):size (L.take (k+1))=size (L.take k)+x.size:=by
 rw [aH h];simp [size]
theorem size_take (L:List field.Fd) (k:Nat):size (L.take k)<=33*k:=by
 have:=size_le (L.take k);simp at this;omega
theorem jC.nil:jC []:=⟨by simp,by simp [ids]⟩
theorem uz {L:List field.Fd} {k:Nat} {x:field.Fd} (h:L[k]?=some x):jC (L.take (k+1))↔jC (L.take k)/\x.Right/\x.id∉ids (L.take k):=by
 rw [aH h];unfold jC ids;simp only [List.map_append,List.map_cons,List.map_nil,List.nodup_append,List.mem_append,List.mem_singleton];constructor
 ·rintro ⟨h1,h2,h3,h4⟩;refine ⟨⟨fun f hf=>h1 f (.inl hf),h2⟩,h1 x (.inr rfl),fun hm=>h4 _ hm _ rfl rfl⟩
 ·rintro ⟨⟨h1,h2⟩,h3,h4⟩;refine ⟨fun f hf=>hf.elim (h1 f) (fun e=>e ▸ h3),h2,by simp,fun a ha b hb e=>h4 (by rw [<-hb,<-e];exact ha)⟩
theorem BJ {L:List field.Fd} (h:jC L) (k:Nat):jC (L.take k):=
 ⟨fun f hf=>h.1 f (List.mem_of_mem_take hf),by unfold ids;rw [List.map_take];exact h.2.sublist (List.take_sublist _ _)⟩
theorem Gf {L:List field.Fd} {k:Nat} {x:field.Fd} (h:L[k]?=some x) (hn:¬(x.Right/\x.id∉ids (L.take k))):¬jC L:=fun hf=>hn ((uz h).1 (BJ hf _)).2
theorem jl.nil:jl []:=⟨by simp,by simp⟩
theorem oV {F:List Form} {k:Nat} {x:Form} (h:F[k]?=some x):jl (F.take (k+1))↔jl (F.take k)/\Fine x/\∀p∈F.take k,p.1<x.1:=by
 rw [aH h];unfold jl;simp only [List.map_append,List.map_cons,List.map_nil,List.pairwise_append,List.mem_append,List.mem_singleton,List.mem_map];constructor
 ·rintro ⟨h1,h2,h3,h4⟩;exact ⟨⟨fun f hf=>h1 f (.inl hf),h2⟩,h1 x (.inr rfl),fun p hp=>h4 _ ⟨p,hp,rfl⟩ _ rfl⟩
 ·rintro ⟨⟨h1,h2⟩,h3,h4⟩;exact ⟨fun f hf=>hf.elim (h1 f) (fun e=>e ▸ h3),h2,by simp,by rintro a ⟨p,hp,rfl⟩ b rfl;exact h4 p hp⟩
theorem BK {F:List Form} (h:jl F) (k:Nat):jl (F.take k):=
 ⟨fun f hf=>h.1 f (List.mem_of_mem_take hf),by rw [List.map_take];exact h.2.sublist (List.take_sublist _ _)⟩
theorem Gg {F:List Form} {k:Nat} {x:Form} (h:F[k]?=some x) (hn:¬(Fine x/\∀p∈F.take k,p.1<x.1)):¬jl F:=fun hf=>hn ((oV h).1 (BK hf _)).2
theorem rise {F:List Form} {k:Nat} {y x:Form} (hy:F[k]?=some y) (hk:jl (F.take (k+1))):(∀p∈F.take (k+1),p.1<x.1)↔y.1<x.1:=by
 have h1:=(oV hy).1 hk;rw [aH hy];constructor
 ·intro h;exact h y si_
 ·intro h p hp;rcases List.mem_append.1 hp with h2 | h2
  ·have:=h1.2.2 p h2;omega
  ·obtain rfl:=List.mem_singleton.1 h2;exact h
theorem Cm {f:field.Fd} (h:f.Right):(0<=f.id/\f.id<=255)/\(1<=f.kind/\f.kind<=4)/\(-1099511627776<=f.lo/\f.lo<=1099511627776)/\(-1099511627776<=f.hi/\f.hi<=1099511627776)/\(0<=f.most/\f.most<=1000):=by
 unfold field.Fd.Right at h;omega
end schema
namespace step
open Go.RowKit pen
open schema (aH)
open field (bytesOf)
instance:DecidableEq Sp:=fun x y=>
 if h:x.op=y.op/\x.fm=y.fm/\x.fd=y.fd/\x.pl=y.pl/\x.tt=y.tt/\x.a=y.a/\x.b=y.b/\x.f=y.f/\x.v=y.v/\x.t=y.t/\x.l=y.l then isTrue (by
  cases x;cases y;simp only at h
  obtain ⟨rfl,rfl,rfl,rfl,rfl,rfl,rfl,rfl,rfl,rfl,rfl⟩:=h;rfl) else isFalse (by rintro rfl;simp at h)
abbrev fd0:field.Fd:=⟨0,0,0,0,0⟩
abbrev va0:field.Va:=⟨0,⟨#[]⟩⟩
abbrev Sp.zero:Sp:=⟨0,0,0,0,0,0,0,fd0,va0,[],[]⟩
def mem (op:Int):List Nat:=
 if op=1\/op=22 then [0,2,9] else if op=2 then [0,1,10] else if op=3\/op=23 then [0,1,8] else if op=4 then [0,1,5] else if op=24 then [0,1,5,8]
 else if op=5 then [0,1,6] else if op=25 then [0,1,7] else if op=6 then [0,1,4,3] else if op=26 then [0,1,4,3,8] else if op=7\/op=27 then [0,1,2]
 else if op=8\/op=28 then [0,1,3] else if op=9\/op=30 then [0,11] else if op=10\/op=29 then [0] else if op=21 then [0,1] else []
def uses (op:Int):List UInt8:=
 if op=1\/op=22 then [102,112,70,86] else if op=2 then [102,100,86] else if op=3\/op=23 then [102,100,70] else if op=4 then [102,100,98] else if op=24 then [102,100,98,70]
 else if op=5 then [102,100,97,84] else if op=25 then [102,100,84] else if op=6 then [102,100,97,116] else if op=26 then [102,100,97,116,70] else if op=7\/op=27 then [102,100,112]
 else if op=8\/op=28 then [102,100,116] else if op=9\/op=30 then [102,76] else if op=10\/op=29 then [102] else if op=21 then [102,100] else []
theorem ops (op:Int):(op=1\/op=22\/op=2\/op=3\/op=23\/op=4\/op=24\/op=5\/op=25\/op=6\/op=26\/op=7\/op=27\/op=8\/op=28\/op=9\/op=30\/op=10\/op=29\/op=21)\/
  (¬op=1/\¬op=22/\¬op=2/\¬op=3/\¬op=23/\¬op=4/\¬op=24/\¬op=5/\¬op=25/\¬op=6/\¬op=26/\¬op=7/\¬op=27/\¬op=8/\¬op=28/\¬op=9/\¬op=30/\¬op=10/\¬op=29/\¬op=21):=by omega
theorem nC {op:Int} (h:¬op=1/\¬op=22/\¬op=2/\¬op=3/\¬op=23/\¬op=4/\¬op=24/\¬op=5/\¬op=25/\¬op=6/\¬op=26/\¬op=7/\¬op=27/\¬op=8/\¬op=28/\¬op=9/\¬op=30/\¬op=10/\¬op=29/\¬op=21):mem op=[]/\uses op=[]:=by
 unfold mem uses;simp [h]
theorem xZ {Q:Int->Prop} (h1:Q 1) (h22:Q 22) (h2:Q 2) (h3:Q 3) (h23:Q 23) (h4:Q 4) (h24:Q 24) (h5:Q 5) (h25:Q 25) (h6:Q 6) (h26:Q 26) (h7:Q 7) (h27:Q 27) (h8:Q 8) (h28:Q 28) (h9:Q 9) (h30:Q 30) (h10:Q 10) (h29:Q 29) (h21:Q 21)
  (h0:∀op,mem op=[]->uses op=[]->Q op) (op:Int):Q op:=by
 rcases ops op with h | h
 ·rcases h with rfl | rfl | rfl | rfl | rfl | rfl | rfl | rfl | rfl | rfl | rfl | rfl | rfl | rfl | rfl | rfl | rfl | rfl | rfl | rfl <;> assumption
 ·exact h0 op (nC h).1 (nC h).2
theorem Kv (op:Int):∀m∈mem op,m<12:=by
 refine xZ (Q:=fun op=>∀m∈mem op,m<12) ?_ ?_ ?_ ?_ ?_ ?_ ?_ ?_ ?_ ?_ ?_ ?_ ?_ ?_ ?_ ?_ ?_ ?_ ?_ ?_ ?h0 op;case h0=>intro op h1 h2;rw [h1];simp
 all_goals decide
theorem Ak {op:Int} (h:mem op≠[]):1<=op/\op<=30:=by
 rcases ops op with h1 | h1
 ·omega
 ·exact absurd (nC h1).1 h
theorem IX (op:Int):(mem op).length<=5:=by
 refine xZ (Q:=fun op=>(mem op).length<=5) ?_ ?_ ?_ ?_ ?_ ?_ ?_ ?_ ?_ ?_ ?_ ?_ ?_ ?_ ?_ ?_ ?_ ?_ ?_ ?_ ?h0 op;case h0=>intro op h1 h2;rw [h1];simp
 all_goals decide
theorem Ie (op:Int):(uses op).length<=5:=by
 refine xZ (Q:=fun op=>(uses op).length<=5) ?_ ?_ ?_ ?_ ?_ ?_ ?_ ?_ ?_ ?_ ?_ ?_ ?_ ?_ ?_ ?_ ?_ ?_ ?_ ?_ ?h0 op;case h0=>intro op h1 h2;rw [h2];simp
 all_goals decide
def Table (t:List Int) (lim:Int):Prop:=(1<=t.length/\t.length<=64)/\(∀n∈t,0<=n/\n<=lim - 1)/\t.Nodup
instance (t:List Int) (lim:Int):Decidable (Table t lim):=by unfold Table;infer_instance
def Sp.Fine (s:Sp) (m:Nat):Prop:=
 if m=0 then 0<=s.fm/\s.fm<=200 else if m=1 then 0<=s.fd/\s.fd<=255 else if m=2 then 0<=s.pl/\s.pl<=8 else if m=3 then (0<=s.tt/\s.tt<=255)/\s.tt≠s.fd
 else if m=4 then 2<=s.a/\s.a<=1048576 else if m=5 then ((-1048576<=s.a/\s.a<=1048576)/\s.a≠0)/\(-1099511627776<=s.b/\s.b<=1099511627776)
 else if m=6 then (1<=s.a/\s.a<=1000)/\Table s.t s.a else if m=7 then Table s.t 1000 else if m=8 then s.f.Right/\s.f.id=s.fd else if m=9 then s.f.Has s.v
 else if m=10 then (-1099511627776<=s.v.n/\s.v.n<=1099511627776)/\s.v.s.size<=32 else schema.Fine (s.fm,s.l)
instance (s:Sp) (m:Nat):Decidable (s.Fine m):=by unfold Sp.Fine;infer_instance
def Sp.clear (s:Sp) (m:Nat):Sp:=
 if m=0 then { s with fm:=0} else if m=1 then { s with fd:=0} else if m=2 then { s with pl:=0} else if m=3 then { s with tt:=0} else if m=4 then { s with a:=0}
 else if m=5 then { s with a:=0,b:=0} else if m=6 then { s with a:=0,t:=[]} else if m=7 then { s with t:=[]} else if m=8 then { s with f:=fd0} else if m=9 then { s with f:=fd0,v:=va0}
 else if m=10 then { s with v:=va0} else { s with l:=[]}
def Sp.Right (s:Sp):Prop:=(∀m∈mem s.op,s.Fine m)/\mem s.op≠[]/\(mem s.op).foldl Sp.clear { s with op:=0}=Sp.zero
instance (s:Sp):Decidable s.Right:=by unfold Sp.Right;infer_instance
def takeA (e:Sight):field.Fd×Sight:=
 let a:=bY 255 e
 let k:=bY 4 a.2
 let l:=eInt k.2
 let h:=eInt l.2
 let m:=bY 1000 h.2
 (⟨a.1,k.1,l.1,h.1,m.1⟩,m.2)
def vJ:Nat->Sight->List field.Fd×Sight
 | 0,e=>([],e)
 | n+1,e=>((vJ n e).1++[(takeA (vJ n e).2).1],(takeA (vJ n e).2).2)
def vK:Nat->Sight->List Int×Sight
 | 0,e=>([],e)
 | n+1,e=>((vK n e).1++[((bY 1000 (vK n e).2).1:Int)],(bY 1000 (vK n e).2).2)
def eF (c:UInt8) (s:Sp) (e:Sight):Sp×Sight:=
 if c=102 then ({ s with fm:=(bY 200 e).1},(bY 200 e).2) else if c=100 then ({ s with fd:=(bY 255 e).1},(bY 255 e).2)
 else if c=112 then ({ s with pl:=(bY 8 e).1},(bY 8 e).2) else if c=116 then ({ s with tt:=(bY 255 e).1},(bY 255 e).2)
 else if c=97 then ({ s with a:=(bY 1048576 e).1},(bY 1048576 e).2) else if c=98 then ({ s with a:=(eInt e).1,b:=(eInt (eInt e).2).1},(eInt (eInt e).2).2)
 else if c=70 then ({ s with f:=(takeA e).1},(takeA e).2) else if c=86 then ({ s with v:=⟨(eInt e).1,strOf (Jo 32 (eInt e).2).1⟩},(Jo 32 (eInt e).2).2)
 else if c=84 then ({ s with t:=s.t++(vK (bY 64 e).1 (bY 64 e).2).1},(vK (bY 64 e).1 (bY 64 e).2).2)
 else ({ s with l:=s.l++(vJ (bY 8 e).1 (bY 8 e).2).1},(vJ (bY 8 e).1 (bY 8 e).2).2)
def run (cs:List UInt8) (p:Sp×Sight):Sp×Sight:=cs.foldl (fun p c=>eF c p.1 p.2) p
end step
theorem t129{P:Prop}(h:P:=by
 clear hm;go_enter func204,ntmps204
 exact t50):P:=h
namespace field
open Go.RowKit
theorem kinds {f:Fd} (h:f.Right):f.kind=1\/f.kind=2\/f.kind=3\/f.kind=4:=by unfold Fd.Right at h;omega
theorem lX (f:Fd) (h:f.Right) (w:World):Calls prog 204 #[zF f] w (Gives (.int .i64 f.great) w):=by
 have hk:=kinds h;have hs:=h.span;obtain ⟨i,k,lo,hi,m⟩:=f;simp only at hk ⊢;have hm:k=3->1<=m/\m<=1000:=by intro h3;unfold Fd.Right at h;simp only at h;omega
 clear h hs;unfold Gives;rcases hk with rfl | rfl | rfl | rfl
 ·rw [show Fd.great ⟨i,1,lo,hi,m⟩=hi from rfl]
  exact t129
 ·rw [show Fd.great ⟨i,2,lo,hi,m⟩=1 from rfl]
  exact t129
 ·rw [show Fd.great ⟨i,3,lo,hi,m⟩=m - 1 from rfl];obtain ⟨m1,m2⟩:=hm rfl
  exact t129
 ·rw [show Fd.great ⟨i,4,lo,hi,m⟩=0 from rfl]
  exact t129
theorem aj {P:Program} {F:FuncId} {args:Array Value} {v:Value} {w0 w:World} (h:Calls P F args w (Gives v w)) (hb:Below w0.heap.size w0 w):Calls P F args w fun e w'=>e=.returned v/\Below w0.heap.size w0 w':=
 h.mono fun _ _ ⟨he,hw⟩=>⟨he,hb.trans (hw.mono hb.size)⟩
theorem DF (f:Fd) (h:f.Right) (w:World):Calls prog 157 #[zF f] w (Gives (.int .i64 (f.great - f.lo)) w):=by
 have HS:=hid (five f w);have HB:=hid (oP f w);have hs:=h.span;have s1:=hs.1;have s2:=hs.2.1;have hb0:Below (w.alloc (.cells (zF f) 52)).heap.size (w.alloc (.cells (zF f) 52)) (w.alloc (.cells (zF f) 52)).drew:=below_drewN (Below.refl _ _) 1;have cg:=aj (lX f h (w.alloc (.cells (zF f) 52)).drew) hb0;have hk0:=HS.o _ hb0;clear h hs;unfold Gives;generalize f.great=G at *;go_enter func157,ntmps157;go_wp2;go_region_held3 (fun w'=>(w'.cell? ⟨w.heap.size,0,none⟩=some (.int .i64 f.id)/\w'.cell? ⟨w.heap.size,1,none⟩=some (.int .i64 f.kind)/\w'.cell? ⟨w.heap.size,2,none⟩=some (.int .i64 f.lo)/\w'.cell? ⟨w.heap.size,3,none⟩=some (.int .i64 f.hi)/\w'.cell? ⟨w.heap.size,4,none⟩=some (.int .i64 f.most))) (first | assumption | go_keep) ((go_at_call 204;(with_reducible refine cg.mono ?_);rintro e w2 ⟨rfl,hb2⟩;have hk2:=HS.o w2 hb2));go_wp2;go_ret;exact ⟨iZ (IntWalk.i64_in _ om_),HB.o _ hb2⟩
end field
theorem t61{P:Prop}(h:P:=by
 go_enter func155,ntmps155;go_wp2_with (go_at_call 153;(with_reducible refine cr.mono ?_);rintro e w1 ⟨rfl,hb1⟩;have hk1:=HS.o _ hb1);go_ret;exact ⟨rfl,HB.o _ hb1⟩):P:=h
theorem t23{P:Prop}(h:P:=by
 clear h4 h2;rw [if_neg de_];clear hTb;have hu:IntKind.u64.wrap (T:Int)=(T:Int):=by have:=HT.o;rw [IntWalk.u64_in _ om_]
 go_enter func155,ntmps155;go_wp2_with (first
  | (go_at_call 153;(with_reducible refine cr.mono ?_);rintro e w1 ⟨rfl,hb1⟩;have hk1:=HS.o _ hb1)
  | (go_at_call 157;(with_reducible refine (ct _ hb1).mono ?_);rintro e w2 ⟨rfl,hb2⟩)
  | (go_at_call 58;(with_reducible refine (cl _).mono ?_);rintro e w3 ⟨L,rfl,hL1,hL2,nd,rfl⟩;have HL:=hid hL2;clear hL2))
 go_ret;exact ⟨iZ (by have:=HL.o;omega),HB.o _ (below_drewN hb2 _)⟩):P:=h
namespace field
open Go.RowKit
theorem size_any (f:Fd) (w:World):Calls prog 155 #[zF f] w (Gives (.int .i64 (f.size:Int)) w):=by
 have HB:=hid (oP f w);have HS:=hid (five f w);have hsz:f.size=if f.Right then (if f.kind=4 then 1+f.most.toNat else wide (f.great - f.lo).toNat) else 0:=rfl
 rw [hsz];have cr:=aj (aX f (w.alloc (.cells (zF f) 52))) (w0:=(w.alloc (.cells (zF f) 52))) (Below.refl _ _);by_cases hr:f.Right
 ·rw [if_pos hr];rw [decide_eq_true hr] at cr;have hk:=kinds hr;have hsp:=hr.span;obtain ⟨T,hT⟩:∃T:Nat,f.great - f.lo=(T:Int):=⟨(f.great - f.lo).toNat,by omega⟩;have hTb:T<=2199023255552:=by omega
  have ct:=fun (w1:World) (hb:Below (w.alloc (.cells (zF f) 52)).heap.size (w.alloc (.cells (zF f) 52)) w1)=>aj (DF f hr w1) hb
  rw [hT] at ct;have cl:=len_any T om_;rw [hT];have h4:f.kind=4->0<=f.most/\f.most<=32:=by intro h4;unfold Fd.Right at hr;omega
  have h2:f.kind=2->f.great - f.lo=1:=by intro h2;unfold Fd.Right at hr;unfold Fd.great;rw [h2];simp;omega
  rw [hT] at h2;clear hr hsp hsz hT;obtain ⟨i,k,lo,hi,m⟩:=f;simp only at hk h4 h2 HB HS cr ct ⊢;rw [show ((T:Int)).toNat=T from rfl];unfold Gives;have HT:=hid hTb;rcases hk with rfl | rfl | rfl | rfl
  ·exact t23
  ·have hT1:T=1:=by have:=h2 rfl;omega
   subst hT1;clear h4 h2;rw [if_neg de_,show wide 1=1 from rfl]
   exact t61
  ·exact t23
  ·obtain ⟨m1,m2⟩:=h4 rfl;clear h4 h2;rw [if_pos rfl];obtain ⟨M,rfl⟩:=Int.eq_ofNat_of_zero_le m1;rw [show ((M:Int)).toNat=M from rfl];go_enter func155,ntmps155;go_wp2_with (go_at_call 153;(with_reducible refine cr.mono ?_);rintro e w1 ⟨rfl,hb1⟩;have hk1:=HS.o _ hb1);go_ret;exact ⟨iZ om_,HB.o _ hb1⟩
 ·rw [if_neg hr];rw [decide_eq_false hr] at cr;clear hr hsz;unfold Gives
  exact t61
end field
namespace schema
open Go.RowKit
open field (Gives ak aj size_any)
theorem aW {w:World} {B B' e size n:Nat} {v:Value} {xs:List Value} (h:w.ownsRow B e size v n xs) (hB:B'<=B):w.ownsRow B' e size v n xs:=by
 refine ⟨h.1, ?_⟩;rcases h.2 with h0 | ⟨g,cap,cur,hv,hb,hg⟩
 ·exact .inl h0
 ·exact .inr ⟨g,cap,cur,hv,Nat.le_trans hB hb,hg⟩
theorem aP {w w':World} {d:Obj} (hb:Below (w.alloc d).heap.size (w.alloc d) w'):Below w.heap.size w w':=((Below.refl _ _).alloc (Nat.le_refl _) _).trans (hb.mono si_)
theorem eP {w w':World} {a:Option Addr} {L:List field.Fd} (h:field.Fds w a L) (hb:Below w.heap.size w w') {k:Nat} (hk:k<L.length):
  ∃b off p,a=some ⟨b,off,none⟩/\b<w'.heap.size/\L[k]?=some p/\w'.cell? ⟨b,off+k*5,none⟩=some (.int .i64 p.id)/\w'.cell? ⟨b,off+k*5+1,none⟩=some (.int .i64 p.kind)/\w'.cell? ⟨b,off+k*5+2,none⟩=some (.int .i64 p.lo)/\w'.cell? ⟨b,off+k*5+3,none⟩=some (.int .i64 p.hi)/\w'.cell? ⟨b,off+k*5+4,none⟩=some (.int .i64 p.most):=(h.below hb).at hk
theorem GH (i:Int) (a:Option Addr) (cap:Nat) (L:List field.Fd) (w:World) (h:field.Fds w a L) (hL:L.length<=40):
  Calls prog 138 #[zS i a L.length cap] w (Gives (.int .i64 (size L:Int)) w):=by
 have HO:=hid (fun (w':World) hb=>aP (w:=w) (d:=.cells (zS i a L.length cap) 49) (w':=w') hb);have HF:=hid (h.below (ak w (.cells (zS i a L.length cap) 49)));obtain ⟨S,hS⟩:∃S:Nat,Hid (size L=S):=⟨_,rfl⟩;rw [hS.o];unfold Gives;clear h;go_enter func138,ntmps138;go_wp2;go_loopw [3,9] (fun s n wr=>∃k:Nat,k<=L.length/\s=.int .i64 (size (L.take k):Int)/\n=.int .i64 (k:Int)/\Hid (Below (w.alloc (.cells (zS i a L.length cap) 49)).heap.size (w.alloc (.cells (zS i a L.length cap) 49)) wr)) (fun _ n _=>L.length - (intOf n).toNat);case atStart=>exact ⟨0,Nat.zero_le _,rfl,rfl,hid (Below.refl _ _)⟩
 case round=>
  obtain ⟨k,hk,rfl,rfl,HB⟩:=hrel;by_cases hlt:k<L.length
  ·obtain ⟨b,off,p,rfl,hbl,hp,c0,c1,c2,c3,c4⟩:=eP HF.o HB.o hlt;have i1:(k:Int)<L.length:=by omega
   have HP:=hid hp;have HSZ:=hid (EU hp);have hst:=size_take L k;have hst2:=field.tX;have cs:=fun w'=>size_any p w'
   have hps:=uw p;clear hp hst2;generalize size (L.take k)=s at *;go_wp2_with (go_at_call 155;((with_reducible refine (cs _).mono ?_);rintro e w2 ⟨rfl,hb2⟩));exact ⟨⟨k+1,by omega,by rw [HSZ.o];go_num,by go_num,hid (HB.o.trans ((aP hb2).mono HB.o.size))⟩,by simp [intOf];omega⟩
  ·obtain rfl:k=L.length:=by omega
   go_wp2;go_ret;exact ⟨iZ (by rw [<-hS.o,List.take_of_length_le (Nat.le_refl _)]),HO.o _ HB.o⟩
end schema
theorem t96{P:Prop}(h:P:=by
 have:=(Prod.mk.inj (Prod.mk.inj h).2).2;simp at this):P:=h
namespace record
open Go.RowKit
open field (Va bytesOf gW)
open schema (Fine size aH)
def aY:List field.Fd->List Va->Prop
 | [],[]=>True
 | f :: L,v :: V=>f.Has v/\aY L V
 | [],_ :: _=>False
 | _ :: _,[]=>False
instance Iz:∀L V,Decidable (aY L V)
 | [],[]=>.isTrue trivial
 | f :: L,v :: V=>by unfold aY;have:=Iz L V;infer_instance
 | [],_ :: _=>.isFalse id
 | _ :: _,[]=>.isFalse id
theorem aY.length:∀ {L:List field.Fd} {V:List Va},aY L V->L.length=V.length
 | [],[],_=>rfl
 | f :: L,v :: V,h=>by simp [aY.length h.2]
theorem qQ:∀ {L:List field.Fd} {V:List Va} {k:Nat} {f:field.Fd} {v:Va},L[k]?=some f->V[k]?=some v->(aY (L.take (k+1)) (V.take (k+1))↔aY (L.take k) (V.take k)/\f.Has v)
 | [],_,k,f,v,h,_=>by simp at h
 | _ :: _,[],k,f,v,_,h=>by simp at h
 | g :: L,u :: V,0,f,v,h,h'=>by
  simp at h h';subst h h';simp [aY]
 | g :: L,u :: V,k+1,f,v,h,h'=>by
  have:=qQ (L:=L) (V:=V) (k:=k) (by simpa using h) (by simpa using h');simp only [List.take_succ_cons,aY,this];exact and_assoc.symm
theorem aY.at :∀ {L:List field.Fd} {V:List Va} {k:Nat} {f:field.Fd} {v:Va},aY L V->L[k]?=some f->V[k]?=some v->f.Has v
 | [],_,k,f,v,_,h,_=>by simp at h
 | _ :: _,[],k,f,v,_,_,h=>by simp at h
 | g :: L,u :: V,0,f,v,hh,h,h'=>by
  simp at h h';subst h h';exact hh.1
 | g :: L,u :: V,k+1,f,v,hh,h,h'=>hh.2.at (k:=k) (by simpa using h) (by simpa using h')
def Has (i:Int) (L:List field.Fd) (j:Int) (V:List Va):Prop:=Fine (i,L)/\j=i/\aY L V
instance (i:Int) (L:List field.Fd) (j:Int) (V:List Va):Decidable (Has i L j V):=by unfold Has;infer_instance
theorem pU {i:Int} {L:List field.Fd} (h:Fine (i,L)):L.length<=8:=h.2.1.2
def dJ:List field.Fd->List Va->List Nat
 | f :: L,v :: V=>f.bZ v++dJ L V
 | [],_=>[]
 | _ :: _,[]=>[]
theorem Ag (V:List Va):dJ [] V=[]:=by cases V <;> rfl
theorem xC:∀ {L:List field.Fd} {V:List Va} {k:Nat} {f:field.Fd} {v:Va},L[k]?=some f->V[k]?=some v->dJ (L.take (k+1)) (V.take (k+1))=dJ (L.take k) (V.take k)++f.bZ v
 | [],_,k,f,v,h,_=>by simp at h
 | _ :: _,[],k,f,v,_,h=>by simp at h
 | g :: L,u :: V,0,f,v,h,h'=>by
  simp at h h';subst h h';simp [dJ]
 | g :: L,u :: V,k+1,f,v,h,h'=>by
  have:=xC (L:=L) (V:=V) (k:=k) (by simpa using h) (by simpa using h');simp only [List.take_succ_cons,dJ,this,List.append_assoc]
theorem qo:∀(L:List field.Fd) (V:List Va),∀x∈dJ L V,x<256
 | [],V,x,h=>by rw [Ag] at h;simp at h
 | _ :: _,[],x,h=>by simp [dJ] at h
 | f :: L,v :: V,x,h=>by
  rw [dJ,List.mem_append] at h;rcases h with h | h
  ·exact f.Dw v x h
  ·exact qo L V x h
theorem Dv (f:field.Fd) (v:Va):(f.bZ v).length<=f.size:=by
 by_cases h:f.Has v
 ·exact (field.Fd.lF h []).2
 ·rw [show f.bZ v=[] by unfold field.Fd.bZ;rw [if_pos h]];exact Nat.zero_le _
theorem Dx:∀(L:List field.Fd) (V:List Va),(dJ L V).length<=size L
 | [],V=>by rw [Ag];exact Nat.zero_le _
 | _ :: _,[]=>Nat.zero_le _
 | f :: L,v :: V=>by
  have h1:=Dv f v;have h2:=Dx L V;rw [dJ,List.length_append];unfold size at h2 ⊢;rw [List.map_cons,List.sum_cons];omega
theorem BR (L:List field.Fd) (V:List Va):(dJ L V).length<=33*L.length:=Nat.le_trans (Dx L V) (schema.size_le L)
def lu (i:Int) (L:List field.Fd) (j:Int) (V:List Va):Int:=if ¬Fine (i,L) then 2 else if ¬(j=i/\aY L V) then 16 else 0
def bZ (i:Int) (L:List field.Fd) (j:Int) (V:List Va):List Nat:=if Has i L j V then dJ L V else []
def eF:List field.Fd->List Nat->List Va×List Nat×Int
 | [],xs=>([],xs,0)
 | f :: L,xs=>if (f.take xs).e=0 then (⟨(f.take xs).n,strOf (f.take xs).s⟩ :: (eF L (xs.drop (f.take xs).c)).1,(eF L (xs.drop (f.take xs).c)).2) else ([],xs,(f.take xs).e)
theorem CQ {L:List field.Fd} {k:Nat} {f:field.Fd} {xs:List Nat} (h:L[k]?=some f) (he:(f.take xs).e=0):
  eF (L.drop k) xs=(⟨(f.take xs).n,strOf (f.take xs).s⟩ :: (eF (L.drop (k+1)) (xs.drop (f.take xs).c)).1,(eF (L.drop (k+1)) (xs.drop (f.take xs).c)).2):=by
 obtain ⟨hk,hf⟩:=List.getElem?_eq_some_iff.1 h;rw [List.drop_eq_getElem_cons hk,hf,eF,if_pos he]
theorem CS {L:List field.Fd} {k:Nat} {f:field.Fd} {xs:List Nat} (h:L[k]?=some f) (he:(f.take xs).e≠0):eF (L.drop k) xs=([],xs,(f.take xs).e):=by
 obtain ⟨hk,hf⟩:=List.getElem?_eq_some_iff.1 h;rw [List.drop_eq_getElem_cons hk,hf,eF,if_neg he]
theorem xR (L:List field.Fd) (xs:List Nat):eF (L.drop L.length) xs=([],xs,0):=by rw [List.drop_length];rfl
def fin (i:Int) (t:List Va×List Nat×Int):Int×List Va×Int:=if t.2.2≠0 then (0,[],t.2.2) else if t.2.1.length≠0 then (0,[],6) else (i,t.1,0)
def onto (V:List Va) (t:List Va×List Nat×Int):List Va×List Nat×Int:=(V++t.1,t.2)
theorem GX (t:List Va×List Nat×Int):onto [] t=t:=rfl
theorem EK {L:List field.Fd} {k:Nat} {f:field.Fd} {xs:List Nat} (V:List Va) (h:L[k]?=some f) (he:(f.take xs).e=0):
  onto V (eF (L.drop k) xs)=onto (V++[⟨(f.take xs).n,strOf (f.take xs).s⟩]) (eF (L.drop (k+1)) (xs.drop (f.take xs).c)):=by
 rw [CQ h he];simp [onto]
theorem G7 {L:List field.Fd} {k:Nat} {f:field.Fd} {xs:List Nat} (i:Int) (V:List Va) (h:L[k]?=some f) (he:(f.take xs).e≠0):fin i (onto V (eF (L.drop k) xs))=(0,[],(f.take xs).e):=by
 rw [CS h he];exact if_pos he
theorem G6 {L:List field.Fd} {xs:List Nat} (i:Int) (V:List Va) (h:xs.length≠0):fin i (onto V (eF (L.drop L.length) xs))=(0,[],6):=by
 rw [xR];exact (if_neg (fun k=>k rfl)).trans (if_pos h)
theorem IE {L:List field.Fd} {xs:List Nat} (i:Int) (V:List Va) (h:xs.length=0):fin i (onto V (eF (L.drop L.length) xs))=(i,V,0):=by
 rw [xR];refine ((if_neg (fun k=>k rfl)).trans (if_neg (fun k=>k h))).trans ?_;show (i,V++[],(0:Int))=_;rw [List.append_nil]
def dN (i:Int) (L:List field.Fd) (xs:List Nat):Int×List Va×Int:=if ¬Fine (i,L) then (0,[],2) else fin i (eF L xs)
theorem lF:∀ {L:List field.Fd} {V:List Va} (more:List Nat),aY L V->eF L (dJ L V++more)=(V,more,0)
 | [],[],more,_=>rfl
 | f :: L,v :: V,more,h=>by
  obtain ⟨h1,h2⟩:=h;have ht:=(field.Fd.lF h1 (dJ L V++more)).1;rw [dJ,List.append_assoc,eF,ht];simp only [if_true];rw [List.drop_left,lF more h2,gW]
theorem jS:∀ {L:List field.Fd} {xs:List Nat},(∀x∈xs,x<256)->(eF L xs).2.2=0->aY L (eF L xs).1/\xs=dJ L (eF L xs).1++(eF L xs).2.1
 | [],xs,_,_=>⟨trivial,by simp [eF,dJ]⟩
 | f :: L,xs,hx,h=>by
  by_cases he:(f.take xs).e=0
  ·obtain ⟨h1,h2,h3⟩:=field.Fd.jS hx he;rw [eF,if_pos he] at h ⊢;simp only at h ⊢;obtain ⟨h4,h5⟩:=jS (fun x hm=>hx x (List.mem_of_mem_drop hm)) h;refine ⟨⟨h1,h4⟩, ?_⟩;rw [dJ,h3,List.append_assoc,<-h5,List.take_append_drop]
  ·rw [eF,if_neg he] at h;exact absurd h he
theorem mF {i:Int} {L:List field.Fd} {j:Int} {V:List Va} (h:Has i L j V):dN i L (dJ L V)=(j,V,0):=by
 obtain ⟨h1,rfl,h2⟩:=h;have:=lF [] h2;rw [List.append_nil] at this;unfold dN;rw [if_neg (fun k=>k h1),this];rfl
theorem nK {i:Int} {L:List field.Fd} {xs:List Nat} {j:Int} {V:List Va} (hx:∀x∈xs,x<256) (h:dN i L xs=(j,V,0)):Has i L j V/\dJ L V=xs:=by
 unfold dN at h;by_cases hf:Fine (i,L)
 ·rw [if_neg (fun k=>k hf)] at h;unfold fin at h;split at h
  ·rename_i h0;exact absurd (Prod.mk.inj (Prod.mk.inj h).2).2 h0
  ·split at h
   ·exact t96
   ·rename_i h0 h1;have h0':(eF L xs).2.2=0:=Classical.byContradiction h0;obtain ⟨k1,k2⟩:=jS hx h0';obtain ⟨rfl,hv,_⟩:i=j/\(eF L xs).1=V/\True:=⟨(Prod.mk.inj h).1,(Prod.mk.inj (Prod.mk.inj h).2).1,trivial⟩;rw [List.eq_nil_of_length_eq_zero (Nat.le_zero.1 (Nat.not_lt.1 (fun k=>h1 (Nat.ne_of_gt k)))),List.append_nil] at k2;exact ⟨⟨hf,rfl,hv ▸ k1⟩,by rw [<-hv];exact k2.symm⟩
 ·rw [if_pos hf] at h
  exact t96
end record
theorem t130{P:Prop}(h:P:=by
 cases ap with
 | none=>exact Src.ofNil w ht c
 | some ad=>exact Src.ofSlice w ht ad 0 c [] si_ si_ si_):P:=h
theorem t29{P:Prop}(h:P:=by
 obtain ⟨bp,cp,rfl,hcp⟩:=aA hown;have hsrc:Src P i.size t (.slice ap 0 c) 0 [] w:=by
  exact t130
 have hrun:=run_append_nothing w t t o.type e i ht hi bp n cp hcp _ hsrc;refine wpList_plain hgd fun K hK=> ?_
 unfold Oper.wp;simp [execOp,ho,resolve,invoke,builtin,hs,hx,hrun,Result.andThen];exact hK _ _ (h _ w (by simpa using hown) (lY _ _))):P:=h
section
open Go.RowKit
theorem bT {w w':World} {base e size n:Nat} {v:Value} {xs:List Value} (h:w.ownsRow base e size v n xs) (hh:∀g,v.ownBlock=some g->w'.heap[g]?=w.heap[g]?):w'.ownsRow base e size v n xs:=by
 refine ⟨h.1, ?_⟩;rcases h.2 with h0 | ⟨g,cap,cur,hv,h1,hg,h2,h3,h4,h5⟩
 ·exact .inl h0
 ·exact .inr ⟨g,cap,cur,hv,h1,(hh g (by rw [hv];rfl)).trans hg,h2,h3,h4,h5⟩
theorem lY (w:World) (row:Option Nat):w.grownBy w row:=⟨rfl,rfl,rfl,Nat.le_refl _,fun _ _ _=>rfl⟩
theorem jZ {P:Program} {w:World} {ops:Array Oper} {rest:List Oper} {o:Oper} {a:Act} {Q:Exit->Act->World->Prop} (hgd:o.guard=none) (s x:Operand) (t:TypeId)
  (ho:o.op=.call { callee:=.builtin .append,args:=#[s,x],argTypes:=#[t,t]})
  (base:Nat) (e:TypeId) (i:TypeInfo) (z:Value) (bytes:Nat) (ht:P.underlying t=some (.slice e)) (hi:P.info? e=some i) (hz:i.zero=some z)
  (hsize:i.size=1) (hby:i.bytes=bytes) (hzs:z.cells.size=1)
  (v:Value) (n:Nat) (xs:List Value) (hs:a.eval s=v) (hown:w.ownsRow base e 1 v n xs)
  (ap:Option Addr) (m c:Nat) (news:List Value) (hx:a.eval x=.slice ap m c) (hl:news.length=m)
  (hnews:m=0\/∃ad,ap=some ad/\∀j u,news[j]?=some u->w.cell? (ad.add j)=some u) (h1:∀u∈news,u.oneCell'=true)
  (h63:n+m<=maxLen) (hbytes:(n+m)*bytes<=140737488355328) (hbase:base<=w.heap.size)
  (h:∀v' w',w'.ownsRow base e 1 v' (n+m) (xs++news)->w.grownBy w' v.ownBlock->wpList P ops Q rest (a.put o.dst v') w'):wpList P ops Q (o :: rest) a w:=by
 by_cases hm:m=0
 ·subst hm;obtain rfl:news=[]:=List.eq_nil_of_length_eq_zero hl
  exact t29
 ·rcases hnews with h0 | ⟨ad,rfl,hc⟩
  ·exact absurd h0 hm
  ·exact wpList_append_own w hgd s x t ho base e i z 1 bytes ht hi hz hsize hby hzs de_ v n xs hs hown ad m c news hx om_ hc h1 h63 hbytes hbase (fun v' w' h2 h3 _=>h v' w' h2 h3)
end
namespace field
open Go.RowKit
theorem two (v:Va) (w w':World) (hb:Below (w.alloc (.cells (zV v) 54)).heap.size (w.alloc (.cells (zV v) 54)) w'):(w'.cell? ⟨w.heap.size,0,none⟩=some (.int .i64 v.n)/\w'.cell? ⟨w.heap.size,1,none⟩=some (.string v.s)):=by
 have hB:=(Block.new w 54 (zV v)).later hb;exact ⟨hB.cell 0,hB.cell 1⟩
def W2 (f:Fd) (w:World):World:=(w.alloc (.cells (zF f) 52)).alloc (.cells #[.int .i64 0,.string ⟨#[]⟩] 54)
theorem W2.all (f:Fd) (w w':World) (hb:Below (W2 f w).heap.size (W2 f w) w'):(w'.cell? ⟨w.heap.size,0,none⟩=some (.int .i64 f.id)/\w'.cell? ⟨w.heap.size,1,none⟩=some (.int .i64 f.kind)/\w'.cell? ⟨w.heap.size,2,none⟩=some (.int .i64 f.lo)/\w'.cell? ⟨w.heap.size,3,none⟩=some (.int .i64 f.hi)/\w'.cell? ⟨w.heap.size,4,none⟩=some (.int .i64 f.most))/\Block w' (w.heap.size+1) 54 [.int .i64 0,.string ⟨#[]⟩]/\Below w.heap.size w w':=by
 have h1:Below (w.alloc (.cells (zF f) 52)).heap.size (w.alloc (.cells (zF f) 52)) w':=(ak _ _).trans (hb.mono (by unfold W2;simp));refine ⟨five f w w' h1, ?_,oP f w w' h1⟩;have h2:=(Block.new (w.alloc (.cells (zF f) 52)) 54 [.int .i64 0,.string ⟨#[]⟩]).later hb;simpa using h2
theorem jL {w:World} {b:Nat} {x y:Value} (h:Block w b 54 [x,y]) (n:Int) (s:ByteArray):w.there b 0 (#[.int .i64 n,.string s]:Array Value).size:=h.there 0 2 si_
theorem fA (n:Int) (s:ByteArray):(prog.info? 54).map (·.size)=some (#[.int .i64 n,.string s]:Array Value).size:=by kernel_rfl
theorem dV (n:Int) (s:ByteArray):(prog.info? 54).map (·.size)=some [Value.int .i64 n,Value.string s].length:=by kernel_rfl
theorem val_one (n:Int) (s:ByteArray):(#[.int .i64 n,.string s]:Array Value).all (·.oneCell')=true:=by simp [Value.oneCell']
theorem jg {w w2 a:World} {b B:Nat} {x y:Value} {n:Int} {s:ByteArray} (h:Block w b 54 [x,y]) (hw:Hid (w.setCells b 0 (#[.int .i64 n,.string s]:Array Value).toList=w2)) (hb:B<=b) (ha:Below B a w):
  Block w2 b 54 [.int .i64 n,.string s]/\Below B a w2:=by
 constructor
 ·have:=h.setCells (vs:=[.int .i64 n,.string s]) (o:=0);rw [dS _ _ si_] at this;rw [<-hw.o];exact this
 ·rw [<-hw.o];exact below_setCells ha hb _ _
theorem iy {fn:Func} {p u v:Tmp} {ty:TypeId} {tmps:Array Value} {P:Program} {w:World} {b o:Nat} {cs:List Value} {d:TypeDesc} (h:fn.results=#[.cell p ty,.tmp u,.tmp v])
  (hp:tmps.getD p undef=.pointer (some ⟨b,o,none⟩)) (hc:w.rangeAt b o cs) (hu:P.underlying ty=some d) (hd:d.isRow=true) (hi:(P.info? ty).map (·.size)=some cs.length):
  (results fn tmps).run P w=.ok (.tuple #[.agg cs.toArray,tmps.getD u undef,tmps.getD v undef]) w:=by
 exact t48
end field
namespace schema
open Go.RowKit
theorem aO {P:Program} {w:World} {ops:Array Oper} {rest:List Oper} {o:Oper} {a:Act} {Q:Exit->Act->World->Prop} (hgd:o.guard=none) (s x:Operand) (t:TypeId)
  (ho:o.op=.call { callee:=.builtin .append,args:=#[s,x],argTypes:=#[t,t]})
  (base:Nat) (e:TypeId) (i:TypeInfo) (z:Value) (size bytes:Nat) (ht:P.underlying t=some (.slice e)) (hi:P.info? e=some i) (hz:i.zero=some z)
  (hsize:i.size=size) (hby:i.bytes=bytes) (hzs:z.cells.size=size) (hsz:0<size)
  (v:Value) (n:Nat) (xs:List Value) (hs:a.eval s=v) (hown:w.ownsRow base e size v n xs)
  (ap:Option Addr) (m c:Nat) (news:List Value) (hx:a.eval x=.slice ap m c) (hl:news.length=m*size)
  (hnews:m=0\/∃ad,ap=some ad/\∀j u,news[j]?=some u->w.cell? (ad.add j)=some u) (h1:∀u∈news,u.oneCell'=true)
  (h63:n+m<=maxLen) (hbytes:(n+m)*bytes<=140737488355328) (hbase:base<=w.heap.size)
  (h:∀v' w',w'.ownsRow base e size v' (n+m) (xs++news)->w.grownBy w' v.ownBlock->wpList P ops Q rest (a.put o.dst v') w'):wpList P ops Q (o :: rest) a w:=by
 by_cases hm:m=0
 ·subst hm;obtain rfl:news=[]:=List.eq_nil_of_length_eq_zero om_
  exact t29
 ·rcases hnews with h0 | ⟨ad,rfl,hc⟩
  ·exact absurd h0 hm
  ·exact wpList_append_own w hgd s x t ho base e i z size bytes ht hi hz hsize hby hzs hsz v n xs hs hown ad m c news hx hl hc h1 h63 hbytes hbase (fun v' w' h2 h3 _=>h v' w' h2 h3)
end schema
namespace schema
open Go.RowKit
def fdC (p:field.Fd):List Value:=(zF p)
def fdV:List field.Fd->List Value
 | []=>[]
 | p :: L=>fdC p++fdV L
theorem fC:∀a b,fdV (a++b)=fdV a++fdV b
 | [],_=>rfl
 | p :: a,b=>by rw [List.cons_append,fdV,fdV,fC a b,List.append_assoc]
theorem fO:∀L,(fdV L).length=L.length*5
 | []=>rfl
 | p :: L=>by rw [fdV];simp only [fdC,List.length_append,List.length_cons,List.length_nil,fO L];omega
theorem lM:∀L,∀u∈fdV L,u.oneCell'=true
 | [],u,h=>by simp [fdV] at h
 | p :: L,u,h=>by
  rw [fdV,List.mem_append] at h;rcases h with h | h
  ·simp [fdC] at h;rcases h with rfl | rfl | rfl | rfl | rfl <;> rfl
  ·exact lM L u h
theorem Df:∀(L:List field.Fd) (j:Nat) (u:Value),(fdV L)[j]?=some u->∃i p c,L[i]?=some p/\j=i*5+c/\c<5/\(fdC p)[c]?=some u
 | [],j,u,h=>by simp [fdV] at h
 | p :: L,j,u,h=>by
  rw [fdV] at h;by_cases hj:j<5
  ·rw [List.getElem?_append_left (by simp [fdC];omega)] at h;exact ⟨0,p,j,rfl,by omega,hj,h⟩
  ·rw [List.getElem?_append_right (by simp [fdC];omega)] at h;obtain ⟨i,q,c,h1,h2,h3,h4⟩:=Df L _ u h;simp only [fdC,List.length_cons,List.length_nil] at h2;exact ⟨i+1,q,c,by simpa using h1,by omega,h3,h4⟩
theorem FX:∀(L:List field.Fd) (i:Nat) (p:field.Fd) (c:Nat),L[i]?=some p->c<5->(fdV L)[i*5+c]?=(fdC p)[c]?
 | [],i,p,c,h,_=>by simp at h
 | q :: L,0,p,c,h,hc=>by
  simp at h;subst h;rw [fdV,List.getElem?_append_left (by simp [fdC];omega)];simp
 | q :: L,i+1,p,c,h,hc=>by
  rw [fdV,List.getElem?_append_right (by simp [fdC];omega)];rw [<-FX L i p c (by simpa using h) hc];congr 1;simp only [fdC,List.length_cons,List.length_nil];omega
theorem G5 {w:World} {a:Option Addr} {L:List field.Fd} (h:field.Fds w a L):L.length=0\/∃ad,a=some ad/\∀j u,(fdV L)[j]?=some u->w.cell? (ad.add j)=some u:=by
 rcases h with h | ⟨b,off,ha,hlt,hc⟩
 ·exact .inl (by rw [h];rfl)
 ·refine .inr ⟨_,ha,fun j u hj=> ?_⟩;obtain ⟨i,p,c,h1,rfl,h3,h4⟩:=Df L j u hj;obtain ⟨c0,c1,c2,c3,c4⟩:=hc i p h1;rw [Addr.add_lit];match c,h3,h4 with
  | 0,_,h4=>rw [show (some u)=some (.int .i64 p.id) from h4.symm.trans rfl];exact c0
  | 1,_,h4=>rw [show (some u)=some (.int .i64 p.kind) from h4.symm.trans rfl,<-Nat.add_assoc];exact c1
  | 2,_,h4=>rw [show (some u)=some (.int .i64 p.lo) from h4.symm.trans rfl,<-Nat.add_assoc];exact c2
  | 3,_,h4=>rw [show (some u)=some (.int .i64 p.hi) from h4.symm.trans rfl,<-Nat.add_assoc];exact c3
  | 4,_,h4=>rw [show (some u)=some (.int .i64 p.most) from h4.symm.trans rfl,<-Nat.add_assoc];exact c4
theorem eu {w:World} {base n:Nat} {a:Option Addr} {cap:Nat} {L:List field.Fd} {e:TypeId} (h:w.ownsRow base e 5 (.slice a n cap) n (fdV L)):field.Fds w a L/\n=L.length/\n<=cap:=by
 obtain ⟨hl,hr⟩:=h;have hn:n=L.length:=by have:=fO L;rw [hl] at this;omega
 rcases hr with ⟨hv,h0⟩ | ⟨b,cap',cur,hv,_,hg,hcp,_,_,htake⟩
 ·cases hv
  exact ⟨.inl (List.eq_nil_of_length_eq_zero om_),hn,by omega⟩
 ·cases hv
  refine ⟨.inr ⟨b,0,rfl,(Array.getElem?_eq_some_iff.1 hg).1,fun i p hp=> ?_⟩,hn,hcp⟩;have hi:i<L.length:=(List.getElem?_eq_some_iff.1 hp).1;have key:∀c x,c<5->(fdC p)[c]?=some x->w.cell? ⟨b,0+(i*5+c),none⟩=some x:=by
   intro c x hc hx;have h1:=FX L i p c hp hc;rw [hx,<-htake,List.getElem?_take,if_pos om_] at h1;rw [cell_of_row w b _ cur _ _ hg,Nat.zero_add,<-h1,Array.getElem?_toList]
  exact ⟨key 0 _ om_ rfl,key 1 _ om_ rfl,key 2 _ om_ rfl,key 3 _ om_ rfl,key 4 _ om_ rfl⟩
theorem IC:(prog.info? 52).map (fun i=>(i.zero,i.size,i.bytes))=some (some (.agg #[.int .i64 0,.int .i64 0,.int .i64 0,.int .i64 0,.int .i64 0]),5,40):=by kernel_rfl
theorem dL:∃i,prog.info? 52=some i/\i.zero=some (.agg #[.int .i64 0,.int .i64 0,.int .i64 0,.int .i64 0,.int .i64 0])/\i.size=5/\i.bytes=40:=by
 obtain ⟨i,hi,he⟩:=Option.map_eq_some_iff.1 IC;simp only [Prod.mk.injEq] at he;exact ⟨i,hi,he.1,he.2.1,he.2.2⟩
end schema
namespace field
open Go.RowKit
theorem Ah (f:Fd) (w:World):Calls prog 209 #[zF f] w (Gives (.int .i64 f.long) w):=by
 obtain ⟨i,k,lo,hi,m⟩:=f;simp only;unfold Gives;by_cases hk:k=4
 ·subst hk;rw [show Fd.long ⟨i,4,lo,hi,m⟩=m from rfl];go_enter func209,ntmps209
  exact t50
 ·rw [show Fd.long ⟨i,k,lo,hi,m⟩=0 from if_neg hk];have e4:(k == 4)=false:=by rw [beq_eq_false_iff_ne];exact hk
  clear hk;go_enter func209,ntmps209
  exact t50
end field
namespace step
open Go.RowKit
open field (Gives ak aj)
open schema (aP)
theorem ou (s:Sp) (ta:Option Addr) (tc:Nat) (la:Option Addr) (lc:Nat) (w w':World) (hb:Below (w.alloc (.cells (zP s ta tc la lc) 57)).heap.size (w.alloc (.cells (zP s ta tc la lc) 57)) w'):(w'.cell? ⟨w.heap.size,0,none⟩=some (.int .i64 s.op)/\w'.cell? ⟨w.heap.size,1,none⟩=some (.int .i64 s.fm)/\w'.cell? ⟨w.heap.size,2,none⟩=some (.int .i64 s.fd)/\w'.cell? ⟨w.heap.size,3,none⟩=some (.int .i64 s.pl)/\w'.cell? ⟨w.heap.size,4,none⟩=some (.int .i64 s.tt)/\w'.cell? ⟨w.heap.size,5,none⟩=some (.int .i64 s.a)/\w'.cell? ⟨w.heap.size,6,none⟩=some (.int .i64 s.b)/\w'.cell? ⟨w.heap.size,7,none⟩=some (.int .i64 s.f.id)/\w'.cell? ⟨w.heap.size,8,none⟩=some (.int .i64 s.f.kind)/\w'.cell? ⟨w.heap.size,9,none⟩=some (.int .i64 s.f.lo)/\w'.cell? ⟨w.heap.size,10,none⟩=some (.int .i64 s.f.hi)/\w'.cell? ⟨w.heap.size,11,none⟩=some (.int .i64 s.f.most)/\w'.cell? ⟨w.heap.size,12,none⟩=some (.int .i64 s.v.n)/\w'.cell? ⟨w.heap.size,13,none⟩=some (.string s.v.s)/\w'.cell? ⟨w.heap.size,14,none⟩=some (.slice ta s.t.length tc)/\w'.cell? ⟨w.heap.size,15,none⟩=some (.slice la s.l.length lc))/\Below w.heap.size w w':=by
 have hB:=(Block.new w 57 (zP s ta tc la lc)).later hb;exact ⟨⟨hB.cell 0,hB.cell 1,hB.cell 2,hB.cell 3,hB.cell 4,hB.cell 5,hB.cell 6,hB.cell 7,hB.cell 8,hB.cell 9,hB.cell 10,hB.cell 11,hB.cell 12,hB.cell 13,hB.cell 14,hB.cell 15⟩,aP hb⟩
structure Lists (w:World) (s:Sp) (ta la:Option Addr):Prop where
 t:Ins w ta s.t
 l:field.Fds w la s.l
 mt:s.t.length<=maxLen
 ml:s.l.length<=maxLen
theorem Lists.below {w w':World} {s:Sp} {ta la:Option Addr} (h:Lists w s ta la) (hb:Below w.heap.size w w'):Lists w' s ta la:=⟨h.t.below hb,h.l.below hb,h.mt,h.ml⟩
theorem St.Good.lists {w:World} {p:St} (h:p.Good w):Lists w p.s p.ta p.la:=⟨h.rt,h.rl,Nat.le_trans h.ct h.dt,Nat.le_trans h.cl h.dl⟩
abbrev From (F:FuncId) (args:Array Value) (v:Value) (w0:World):Prop:=∀w',Below w0.heap.size w0 w'->Calls prog F args w' fun e w2=>e=.returned v/\Below w0.heap.size w0 w2
theorem fG {F:FuncId} {args:Array Value} {v:Value} (w0:World) (h:∀w',Calls prog F args w' (Gives v w')):From F args v w0:=fun w' hb=>aj (h w') hb
theorem yI {F:FuncId} {args:Array Value} {v:Value} (w0:World) (h:∀w',Below w0.heap.size w0 w'->Calls prog F args w' (Gives v w')):From F args v w0:=fun w' hb=>aj (h w' hb) hb
end step
namespace whole
open Go.ChangeShapes Go.WideShapes Go.ChangeAt Go.RowKit Go.Deep
structure Ca where
 (p:schema.Sc) (l:Option Addr) (lc:Nat) (L:List step.St) (i:Option Addr) (ic:Nat) (I:List item.It)
instance:Inhabited Ca:=⟨⟨default,none,0,[],none,0,[]⟩⟩
def Ca.val (x:Ca):Value:=.agg #[.int .i64 x.p.ver,.slice x.p.f x.p.fL.length x.p.fCap,.slice x.l x.L.length x.lc,.slice x.i x.I.length x.ic]
structure Ca.Good (W:World) (x:Ca):Prop where
 p:x.p.Good W
 l:step.Sts W x.l x.L
 ml:∀y∈x.L,y.Good W
 cl:x.L.length<=x.lc
 dl:x.lc<=maxLen
 i:item.Its W x.i x.I
 mi:∀y∈x.I,y.Good W
 ci:x.I.length<=x.ic
 di:x.ic<=maxLen
def Fh (P:Program) (t:TypeId):Prop:=∃(F0 F1 F2 f0 f1:Field) (e:TypeId),P.underlying t=some (.struct #[F0,F1,F2])/\P.cellsOf t=4/\(F0.offset=0/\F1.offset=2/\F2.offset=3/\P.cellsOf F0.type=2/\P.cellsOf F1.type=1/\P.cellsOf F2.type=1)/\
 (P.underlying F0.type=some (.struct #[f0,f1])/\oneCellFields P #[f0,f1]=true/\P.underlying f0.type=some (.int .i64)/\schema.CY P f1.type)/\(P.underlying F1.type=some (.slice e)/\step.tZ P e)/\item.Jl P F2.type
section
variable {H:Type} {enc:TypeId×Value->H} {P:Program} {W:World}
theorem Ci {t e:TypeId} {v:Value} {n:Nat} {y:DataW H×List MemPlace} (ht:P.underlying t=some (.slice e)) (hT:step.tZ P e) (h:DataW.trod enc P W 0 (fun _=>true) true n t [v]=some y):∃a cap L,v=.slice a (List.length L) cap/\step.Sts W a L/\(∀p∈L,p.Good W)/\L.length<=cap/\cap<=maxLen:=by
 have hv:∃a len cap,v=.slice a len cap:=by
  exact t42
 obtain ⟨a,len,cap,rfl⟩:=hv;obtain ⟨L,rfl,h1,h2,h3,h4⟩:=step.H7 ht hT (W:=W) (enc:=enc) (d:=y.1) (pl:=y.2) ⟨n,by simpa [Value.cells] using h⟩;exact ⟨a,cap,L,rfl,h1,h2,h3,h4⟩
theorem Au {r:Reach} {b0:Nat} {t:TypeId} {v:Value} {d:DataW H} {pl:List MemPlace} (hT:Fh P t) (hv:Value.okWide P W r b0 t v) (h:DataW.Trod enc P W 0 (fun _=>true) true t v d pl):∃x:Ca,x.Good W/\v=x.val:=by
 obtain ⟨F0,F1,F2,f0,f1,e,hs,hC,⟨o0,o1,o2,k0,k1,k2⟩,⟨s0,n0,u0,u1⟩,⟨s1,hS⟩,hI⟩:=hT;obtain ⟨cs,rfl,hsz⟩:=okWide_struct hs hv;obtain ⟨fuel,hf⟩:=h;rw [hC] at hsz;obtain ⟨l⟩:=cs;match l,hsz with
 | [c0,c1,c2,c3],_=>
  obtain ⟨y0,y1,y2,n,_,_,e0,e1,e2⟩:=trod_struct3 hs hf;rw [o0,k0] at e0;rw [o1,k1] at e1;rw [o2,k2] at e2;replace e0:DataW.trod enc P W 0 (fun _=>true) true n F0.type [c0,c1]=some y0:=e0;replace e1:DataW.trod enc P W 0 (fun _=>true) true n F1.type [c2]=some y1:=e1;replace e2:DataW.trod enc P W 0 (fun _=>true) true n F2.type [c3]=some y2:=e2;obtain ⟨m,hx⟩:=step.qW s0 n0 e0;obtain ⟨_,q0⟩:=hx 0 f0 c0 rfl rfl;obtain ⟨_,q1⟩:=hx 1 f1 c1 rfl rfl;obtain ⟨p,hp,rfl,rfl⟩:=schema.Fz u0 u1 q0 q1;obtain ⟨a,c,L,rfl,h1,h2,h3,h4⟩:=Ci s1 hS e1;obtain ⟨i,d,I,rfl,h5,h6,h7,h8⟩:=item.Cf hI e2;exact ⟨⟨p,a,c,L,i,d,I⟩,⟨hp,h1,h2,h3,h4,h5,h6,h7,h8⟩,rfl⟩
end
theorem JM:Fh prog 28:=
 ⟨_,_,_,_,_,_,underlying28,by kernel_rfl,⟨by kernel_rfl,by kernel_rfl,by kernel_rfl,by kernel_rfl,by kernel_rfl,by kernel_rfl⟩,⟨underlying24,by kernel_rfl,by kernel_rfl,schema.KT⟩,⟨underlying25,step.KE⟩,⟨_,_,_,underlying26,underlying43,by kernel_rfl,by kernel_rfl,by kernel_rfl,by kernel_rfl⟩⟩
end whole
end Go.Proofs.YtogkgbnpodojjaaGreat
