/- Contracts and lemmas that claims of this seat share: StepOpen, FieldRow. Each says its own conditions. -/
import Derived.Test.YtogfefdlffmioaaGreatCmWord
import Derived.Maps.AppendAt
import Derived.Laws.Cover3
import Derived.Test.YtogfefdlffmioaaGreatCmB
import Derived.Test.YtogfefdlffmioaaGreatCmD
import Derived.Test.YtogfefdlffmioaaGreatCmI
import Derived.Test.YtogfefdlffmioaaGreatCmK
set_option linter.unusedVariables false
namespace Go.Proofs.YtogfefdlffmioaaGreat
open Go.Proofs.Tryz
namespace step
open Go.ChangeShapes Go.WideShapes Go.ChangeAt Go.RowKit Go.Deep
structure Sp where
 (op fm fd pl tt a b:Int) (f:field.Fd) (v:field.Va) (t:List Int) (l:List field.Fd)
structure St where
 (s:Sp) (ta:Option Addr) (tc:Nat) (la:Option Addr) (lc:Nat)
instance:Inhabited St:=⟨⟨⟨0,0,0,0,0,0,0,⟨0,0,0,0,0⟩,⟨0,⟨#[]⟩⟩,[],[]⟩,none,0,none,0⟩⟩
def spC(s:Sp)(x y:Value):List Value:=[.int .i64 s.op,.int .i64 s.fm,.int .i64 s.fd,.int .i64 s.pl,.int .i64 s.tt,.int .i64 s.a,.int .i64 s.b,.int .i64 s.f.id,.int .i64 s.f.kind,.int .i64 s.f.lo,.int .i64 s.f.hi,.int .i64 s.f.most,.int .i64 s.v.n,.string s.v.s,x,y]
def St.C(p:St):List Value:=spC p.s (.slice p.ta p.s.t.length p.tc) (.slice p.la p.s.l.length p.lc)
def St.val(p:St):Value:=.agg ⟨p.C⟩
structure Sp.Ints (s:Sp):Prop where
 bop:InOk s.op
 bfm:InOk s.fm
 bfd:InOk s.fd
 bpl:InOk s.pl
 btt:InOk s.tt
 ba:InOk s.a
 bb:InOk s.b
 bn:InOk s.v.n
 bt:∀n∈s.t,InOk n
structure St.Good (W:World) (p:St):Prop where
 ints:p.s.Ints
 bf:p.s.f.Good W
 rt:Ins W p.ta p.s.t
 ct:p.s.t.length<=p.tc
 dt:p.tc<=maxLen
 rl:field.Fds W p.la p.s.l
 ml:∀y∈p.s.l,y.Good W
 cl:p.s.l.length<=p.lc
 dl:p.lc<=maxLen
theorem St.Good.below{W W':World}{p:St}(h:p.Good W)(hb:Below W.heap.size W W'):p.Good W':=
 ⟨h.ints,h.bf.below hb,h.rt.below hb,h.ct,h.dt,h.rl.below hb,fun y hy=>(h.ml y hy).below hb,h.cl,h.dl⟩
def Sts(w:World)(a:Option Addr)(l:List St):Prop:=
 l=[]\/∃b off,a=some ⟨b,off,none⟩/\b<w.heap.size/\∀(i:Nat) p,l[i]?=some p->∀(j:Nat) v,p.C[j]?=some v->w.cell? ⟨b,off+i*16+j,none⟩=some v
theorem Sts.below{w w':World}{a:Option Addr}{l:List St}(h:Sts w a l)(hb:Below w.heap.size w w'):Sts w' a l:=by
 rcases h with h | ⟨b,off,ha,au,hc⟩
 ·exact .inl h
 ·refine .inr ⟨b,off,ha,Nat.lt_of_lt_of_le au hb.size,fun i p hp j v hv=> ?_⟩;rw[hb.cell (p:=⟨b,off+i*16+j,none⟩) au];exact hc i p hp j v hv
section
variable {H:Type} {enc:TypeId×Value->H} {P:Program} {W:World}
structure StShape (P:Program) (t:TypeId) (F:List Field):Prop where
 hs:P.underlying t=some (.struct F.toArray)
 hC:P.cellsOf t=16
 ho:F.map (fun f=>(f.offset,P.cellsOf f.type))=[(0,1),(1,1),(2,1),(3,1),(4,1),(5,1),(6,1),(7,5),(12,2),(14,1),(15,1)]
 hi:∀i,i<7->∀f,F[i]?=some f->P.underlying f.type=some (.int .i64)
 hf:∀f,F[7]?=some f->∃f0 f1 f2 f3 f4,P.underlying f.type=some (.struct #[f0,f1,f2,f3,f4])/\oneCellFields P #[f0,f1,f2,f3,f4]=true/\P.underlying f0.type=some (.int .i64)/\P.underlying f1.type=some (.int .i64)/\P.underlying f2.type=some (.int .i64)/\P.underlying f3.type=some (.int .i64)/\P.underlying f4.type=some (.int .i64)
 hv:∀f,F[8]?=some f->∃g0 g1,P.underlying f.type=some (.struct #[g0,g1])/\oneCellFields P #[g0,g1]=true/\P.underlying g0.type=some (.int .i64)/\P.underlying g1.type=some .string
 ht:∀f,F[9]?=some f->InRow P f.type
 hl:∀f,F[10]?=some f->field.FdRow P f.type
def StType(P:Program)(t:TypeId):Prop:=∃F,StShape P t F
theorem take_one{cs:List Value}{i:Nat}{c:Value}(h:cs[i]?=some c):(cs.drop i).take 1=[c]:=by
 rw[List.take_one,List.head?_drop,h];rfl
theorem one_cells{t:TypeId}{fs:Array Field}{n:Nat}{cs:List Value}{y:DataW H×List MemPlace}(hs:P.underlying t=some (.struct fs))(hone:oneCellFields P fs=true)(h:DataW.trod enc P W 0 (fun _=>true) true n t cs=some y):
  ∃m,∀(i:Nat) (f:Field) (c:Value),fs[i]?=some f->cs[i]?=some c->∃y,DataW.trod enc P W 0 (fun _=>true) true m f.type [c]=some y:=by
 obtain⟨ys,m,_,_,hl,hlen,hx⟩:=DataW.trod_struct hs h;refine⟨m,fun i f c hi hc=> ?_⟩;obtain⟨o,k⟩:=hone_of hone i f hi;have h1:=hx i f hi;rw[o,k,take_one hc] at h1;have hi6:i<fs.size:=(Array.getElem?_eq_some_iff.1 hi).1;exact⟨_,h1.trans (List.getElem?_eq_getElem (by rw[hlen];exact hi6))⟩
theorem some_cells{t:TypeId}{fs:Array Field}{n:Nat}{cs:List Value}{y:DataW H×List MemPlace}(hs:P.underlying t=some (.struct fs))(h:DataW.trod enc P W 0 (fun _=>true) true n t cs=some y):
  ∃m,∀(i:Nat) (f:Field),fs[i]?=some f->∃y,DataW.trod enc P W 0 (fun _=>true) true m f.type ((cs.drop f.offset).take (P.cellsOf f.type))=some y:=by
 obtain⟨ys,m,_,_,hl,hlen,hx⟩:=DataW.trod_struct hs h;refine⟨m,fun i f hi=> ?_⟩;have hi6:i<fs.size:=(Array.getElem?_eq_some_iff.1 hi).1;exact⟨_,(hx i f hi).trans (List.getElem?_eq_getElem (by rw[hlen];exact hi6))⟩
theorem St_cells{t:TypeId}{n:Nat}{c0 c1 c2 c3 c4 c5 c6 c7 c8 c9 c10 c11 c12 c13 c14 c15:Value}{y:DataW H×List MemPlace}(hT:StType P t)
  (h:DataW.trod enc P W 0 (fun _=>true) true n t [c0,c1,c2,c3,c4,c5,c6,c7,c8,c9,c10,c11,c12,c13,c14,c15]=some y):
  ∃p:St,p.Good W/\[c0,c1,c2,c3,c4,c5,c6,c7,c8,c9,c10,c11,c12,c13,c14,c15]=p.C:=by
 obtain⟨F,S⟩:=hT;have hlen:F.length=11:=by have:=congrArg List.length S.ho;simpa using this
 match F,hlen,S with
 | [F0,F1,F2,F3,F4,F5,F6,F7,F8,F9,F10],_,S=>
  have ho:=S.ho;simp only[List.map_cons,List.map_nil,List.cons.injEq,Prod.mk.injEq,and_true] at ho;obtain⟨m,hx⟩:=some_cells S.hs h;have e0:=hx 0 F0 rfl;have e1:=hx 1 F1 rfl;have e2:=hx 2 F2 rfl;have e3:=hx 3 F3 rfl;have e4:=hx 4 F4 rfl;have e5:=hx 5 F5 rfl;have e6:=hx 6 F6 rfl;have e7:=hx 7 F7 rfl;have e8:=hx 8 F8 rfl;have e9:=hx 9 F9 rfl;have e10:=hx 10 F10 rfl;obtain⟨⟨o0,k0⟩,⟨o1,k1⟩,⟨o2,k2⟩,⟨o3,k3⟩,⟨o4,k4⟩,⟨o5,k5⟩,⟨o6,k6⟩,⟨o7,k7⟩,⟨o8,k8⟩,⟨o9,k9⟩,⟨o10,k10⟩⟩:=ho;rw[o0,k0] at e0;rw[o1,k1] at e1;rw[o2,k2] at e2;rw[o3,k3] at e3;rw[o4,k4] at e4;rw[o5,k5] at e5;rw[o6,k6] at e6;rw[o7,k7] at e7;rw[o8,k8] at e8;rw[o9,k9] at e9;rw[o10,k10] at e10;obtain⟨y0,e0⟩:=e0;obtain⟨y1,e1⟩:=e1;obtain⟨y2,e2⟩:=e2;obtain⟨y3,e3⟩:=e3;obtain⟨y4,e4⟩:=e4;obtain⟨y5,e5⟩:=e5;obtain⟨y6,e6⟩:=e6;obtain⟨y7,e7⟩:=e7;obtain⟨y8,e8⟩:=e8;obtain⟨y9,e9⟩:=e9;obtain⟨y10,e10⟩:=e10;replace e0:DataW.trod enc P W 0 (fun _=>true) true m F0.type [c0]=some y0:=e0;replace e1:DataW.trod enc P W 0 (fun _=>true) true m F1.type [c1]=some y1:=e1;replace e2:DataW.trod enc P W 0 (fun _=>true) true m F2.type [c2]=some y2:=e2;replace e3:DataW.trod enc P W 0 (fun _=>true) true m F3.type [c3]=some y3:=e3;replace e4:DataW.trod enc P W 0 (fun _=>true) true m F4.type [c4]=some y4:=e4;replace e5:DataW.trod enc P W 0 (fun _=>true) true m F5.type [c5]=some y5:=e5;replace e6:DataW.trod enc P W 0 (fun _=>true) true m F6.type [c6]=some y6:=e6;replace e7:DataW.trod enc P W 0 (fun _=>true) true m F7.type [c7,c8,c9,c10,c11]=some y7:=e7;replace e8:DataW.trod enc P W 0 (fun _=>true) true m F8.type [c12,c13]=some y8:=e8;replace e9:DataW.trod enc P W 0 (fun _=>true) true m F9.type [c14]=some y9:=e9;replace e10:DataW.trod enc P W 0 (fun _=>true) true m F10.type [c15]=some y10:=e10;obtain⟨x0,q0,_,w0⟩:=DataW.trod_int (S.hi 0 om_ F0 rfl) e0;obtain⟨x1,q1,_,w1⟩:=DataW.trod_int (S.hi 1 om_ F1 rfl) e1;obtain⟨x2,q2,_,w2⟩:=DataW.trod_int (S.hi 2 om_ F2 rfl) e2;obtain⟨x3,q3,_,w3⟩:=DataW.trod_int (S.hi 3 om_ F3 rfl) e3;obtain⟨x4,q4,_,w4⟩:=DataW.trod_int (S.hi 4 om_ F4 rfl) e4;obtain⟨x5,q5,_,w5⟩:=DataW.trod_int (S.hi 5 om_ F5 rfl) e5;obtain⟨x6,q6,_,w6⟩:=DataW.trod_int (S.hi 6 om_ F6 rfl) e6;obtain⟨f0,f1,f2,f3,f4,hf,qX,a0,a1,a2,a3,a4⟩:=S.hf F7 rfl;obtain⟨m7,r7⟩:=one_cells hf qX e7;obtain⟨z0,r70⟩:=r7 0 f0 c7 rfl rfl;obtain⟨z1,r71⟩:=r7 1 f1 c8 rfl rfl;obtain⟨z2,r72⟩:=r7 2 f2 c9 rfl rfl;obtain⟨z3,r73⟩:=r7 3 f3 c10 rfl rfl;obtain⟨z4,r74⟩:=r7 4 f4 c11 rfl rfl;obtain⟨pf,rG,rfl,rfl,rfl,rfl,rfl⟩:=field.Fd_cells a0 a1 a2 a3 a4 r70 r71 r72 r73 r74;obtain⟨g0,g1,hv,hvo,b0,b1⟩:=S.hv F8 rfl;obtain⟨m8,r8⟩:=one_cells hv hvo e8;obtain⟨z5,r80⟩:=r8 0 g0 c12 rfl rfl;obtain⟨z6,r81⟩:=r8 1 g1 c13 rfl rfl;obtain⟨pv,rH,rfl,rfl⟩:=field.Va_cells b0 b1 r80 r81;obtain⟨ta,tc,tL,rfl,t1,t2,t3,t4⟩:=open_InRow (S.ht F9 rfl) e9;obtain⟨la,lc,lL,rfl,l1,l2,l3,l4⟩:=field.open_FdRow (S.hl F10 rfl) e10;refine⟨⟨⟨x0,x1,x2,x3,x4,x5,x6,pf,pv,tL,lL⟩,ta,tc,la,lc⟩,⟨⟨wf_i64 _ w0,wf_i64 _ w1,wf_i64 _ w2,wf_i64 _ w3,wf_i64 _ w4,wf_i64 _ w5,wf_i64 _ w6,rH.bn,t2⟩,rG,t1,t3,t4,l1,l2,l3,l4⟩, ?_⟩;simp only[List.cons.injEq,and_true] at q0 q1 q2 q3 q4 q5 q6;rw[q0,q1,q2,q3,q4,q5,q6];rfl
theorem open_Sts{t e:TypeId}{a:Option Addr}{len cap:Nat}{d:DataW H}{pl:List MemPlace}(ht:P.underlying t=some (.slice e))(hT:StType P e)
  (h0:DataW.Trod enc P W 0 (fun _=>true) true t (.slice a len cap) d pl):∃l:List St,len=l.length/\Sts W a l/\(∀p∈l,p.Good W)/\len<=cap/\cap<=maxLen:=by
 obtain⟨fuel,hf⟩:=h0;have fD:DataW.trod enc P W 0 (fun _=>true) true fuel t [.slice a len cap]=some (d,pl):=by simpa[Value.cells] using hf
 rcases open_slice ht fD with ⟨hcs,_⟩ | ⟨A,len',cap',q,n,D,Pl,hcs,_,qE,hcm,hm,hx0,dn⟩
 ·exact t43
 ·simp at hcs;obtain⟨rfl,rfl,rfl⟩:=hcs;simp only[if_true] at hm;have hC:P.cellsOf e=16:=by obtain⟨F,S⟩:=id hT;exact S.hC
  have each:∀r,r<len->∃p:St,p.Good W/\∀(j:Nat) v,p.C[j]?=some v->W.cell? (A.add (r*16+j))=some v:=by
   intro r hr;obtain⟨cs',h1,h2⟩:=dn r om_;rw[hC] at h1;obtain⟨_,kQ,hcell⟩:=World.cells?_some h1;obtain⟨F,S⟩:=id hT;obtain⟨ys,m,_,_,hl,hlen,hx⟩:=DataW.trod_struct S.hs h2;rw[hC] at hl;match cs',hl with
   | [c0,c1,c2,c3,c4,c5,c6,c7,c8,c9,c10,c11,c12,c13,c14,c15],_=>
    obtain⟨p,hp,he⟩:=St_cells hT h2;refine⟨p,hp,fun j v hj=> ?_⟩;have hjl:j<16:=(List.getElem?_eq_some_iff.1 hj).1;have k:=hcell j om_;rw[add_add] at k;rw[k,he];exact hj
  obtain⟨y,hy⟩:=choose_lt each;refine⟨(List.range len).map y,by simp, ?_, ?_,by omega,hcm⟩
  ·by_cases hz:len=0
   ·subst hz;exact .inl rfl
   ·right;obtain⟨b,off,spot⟩:=A;have hc0:=(hy 0 om_).2 0 _ rfl;have hspot:spot=none:=by simpa[Addr.add] using World.cell?_spot hc0
    subst hspot;have hb:b<W.heap.size:=by
     exact t64
    refine⟨b,off,rfl,hb,fun i p hp j v hj=> ?_⟩;have hi:i<len:=by have:=(List.getElem?_eq_some_iff.1 hp).1;simpa using this
    simp[hi] at hp;subst hp;have e:=(hy i hi).2 j v hj;rw[Addr.add_lit] at e;rw[Nat.add_assoc];exact e
  ·exact t56
end
theorem stType:StType prog 84:=by
 refine⟨_,⟨underlying84,by kernel_rfl,by kernel_rfl, ?_, ?_, ?_, ?_, ?_⟩⟩;rotate_left
 ·intro f hf;obtain rfl:=Option.some.inj hf;exact⟨_,_,_,_,_,underlying79,by kernel_rfl,by kernel_rfl,by kernel_rfl,by kernel_rfl,by kernel_rfl,by kernel_rfl⟩
 ·intro f hf;obtain rfl:=Option.some.inj hf;exact⟨_,_,underlying81,by kernel_rfl,by kernel_rfl,by kernel_rfl⟩
 ·intro f hf;obtain rfl:=Option.some.inj hf;exact inRow
 ·intro f hf;obtain rfl:=Option.some.inj hf;exact field.fdRow
 ·intro i hi f hf;have h:i=0\/i=1\/i=2\/i=3\/i=4\/i=5\/i=6:=by omega
  rcases h with rfl | rfl | rfl | rfl | rfl | rfl | rfl <;> (obtain rfl:=Option.some.inj hf;exact underlying3)
end step
section
structure zP_ (s:step.Sp) (a:Option Addr) (c:Nat) (d:Option Addr) (e:Nat) where
def zP(s:step.Sp)(a:Option Addr)(c:Nat)(d:Option Addr)(e:Nat):zP_ s a c d e:=⟨⟩
instance (s:step.Sp) (a:Option Addr) (c:Nat) (d:Option Addr) (e:Nat) (m:zP_ s a c d e):CoeDep (zP_ s a c d e) m (List Value):=⟨[.int .i64 s.op,.int .i64 s.fm,.int .i64 s.fd,.int .i64 s.pl,.int .i64 s.tt,.int .i64 s.a,.int .i64 s.b,.int .i64 s.f.id,.int .i64 s.f.kind,.int .i64 s.f.lo,.int .i64 s.f.hi,.int .i64 s.f.most,.int .i64 s.v.n,.string s.v.s,.slice a s.t.length c,.slice d s.l.length e]⟩
instance (s:step.Sp) (a:Option Addr) (c:Nat) (d:Option Addr) (e:Nat) (m:zP_ s a c d e):CoeDep (zP_ s a c d e) m (Array Value):=⟨#[.int .i64 s.op,.int .i64 s.fm,.int .i64 s.fd,.int .i64 s.pl,.int .i64 s.tt,.int .i64 s.a,.int .i64 s.b,.int .i64 s.f.id,.int .i64 s.f.kind,.int .i64 s.f.lo,.int .i64 s.f.hi,.int .i64 s.f.most,.int .i64 s.v.n,.string s.v.s,.slice a s.t.length c,.slice d s.l.length e]⟩
instance (s:step.Sp) (a:Option Addr) (c:Nat) (d:Option Addr) (e:Nat) (m:zP_ s a c d e):CoeDep (zP_ s a c d e) m Value:=⟨.agg #[.int .i64 s.op,.int .i64 s.fm,.int .i64 s.fd,.int .i64 s.pl,.int .i64 s.tt,.int .i64 s.a,.int .i64 s.b,.int .i64 s.f.id,.int .i64 s.f.kind,.int .i64 s.f.lo,.int .i64 s.f.hi,.int .i64 s.f.most,.int .i64 s.v.n,.string s.v.s,.slice a s.t.length c,.slice d s.l.length e]⟩
end
section
structure zZ_  where
def zZ  :zZ_  :=⟨⟩
instance  (m:zZ_):CoeDep (zZ_) m (List Value):=⟨[.int .i64 0,.int .i64 0,.int .i64 0,.int .i64 0,.int .i64 0,.int .i64 0,.int .i64 0,.int .i64 0,.int .i64 0,.int .i64 0,.int .i64 0,.int .i64 0,.int .i64 0,.string ⟨#[]⟩,.slice none 0 0,.slice none 0 0]⟩
instance  (m:zZ_):CoeDep (zZ_) m (Array Value):=⟨#[.int .i64 0,.int .i64 0,.int .i64 0,.int .i64 0,.int .i64 0,.int .i64 0,.int .i64 0,.int .i64 0,.int .i64 0,.int .i64 0,.int .i64 0,.int .i64 0,.int .i64 0,.string ⟨#[]⟩,.slice none 0 0,.slice none 0 0]⟩
instance  (m:zZ_):CoeDep (zZ_) m Value:=⟨.agg #[.int .i64 0,.int .i64 0,.int .i64 0,.int .i64 0,.int .i64 0,.int .i64 0,.int .i64 0,.int .i64 0,.int .i64 0,.int .i64 0,.int .i64 0,.int .i64 0,.int .i64 0,.string ⟨#[]⟩,.slice none 0 0,.slice none 0 0]⟩
end
theorem t144{P:Prop}(h:P:=by
 rw[hx,<-dP,List.getElem?_take,if_pos om_] at h1
 exact t62):P:=h
theorem t99{P:Prop}(h:P:=by
 cases hv
 exact⟨.inl (List.eq_nil_of_length_eq_zero om_),hn,by omega⟩):P:=h
theorem t62{P:Prop}(h:P:=by
 rw[cell_of_row w b _ cur _ _ hg,Nat.zero_add,<-h1,Array.getElem?_toList]):P:=h
namespace schema
open Go.RowKit
def fdC(p:field.Fd):List Value:=(zF p)
def fdV:List field.Fd->List Value
 | []=>[]
 | p :: L=>fdC p++fdV L
theorem fdV_append:∀a b,fdV (a++b)=fdV a++fdV b
 | [],_=>rfl
 | p :: a,b=>by rw[List.cons_append,fdV,fdV,fdV_append a b,List.append_assoc]
theorem fdV_length:∀L,(fdV L).length=L.length*5
 | []=>rfl
 | p :: L=>by rw[fdV];simp only[fdC,List.length_append,List.length_cons,List.length_nil,fdV_length L];omega
theorem fdV_one:∀L,∀u∈fdV L,u.oneCell'=true
 | [],u,h=>by simp[fdV] at h
 | p :: L,u,h=>by
  rw[fdV,List.mem_append] at h;rcases h with h | h
  ·simp[fdC] at h;rcases h with rfl | rfl | rfl | rfl | rfl <;> rfl
  ·exact fdV_one L u h
theorem fdV_at:∀(L:List field.Fd) (i:Nat) (p:field.Fd) (c:Nat),L[i]?=some p->c<5->(fdV L)[i*5+c]?=(fdC p)[c]?
 | [],i,p,c,h,_=>by simp at h
 | q :: L,0,p,c,h,hc=>by
  simp at h;subst h;rw[fdV,List.getElem?_append_left (by simp[fdC];omega)];simp
 | q :: L,i+1,p,c,h,hc=>by
  rw[fdV,List.getElem?_append_right (by simp[fdC];omega)];rw[<-fdV_at L i p c (by simpa using h) hc];congr 1;simp only[fdC,List.length_cons,List.length_nil];omega
theorem own_fds{w:World}{base n:Nat}{a:Option Addr}{cap:Nat}{L:List field.Fd}{e:TypeId}(h:w.ownsRow base e 5 (.slice a n cap) n (fdV L)):field.Fds w a L/\n=L.length/\n<=cap:=by
 obtain⟨hl,hr⟩:=h;have hn:n=L.length:=by have:=fdV_length L;rw[hl] at this;omega
 rcases hr with ⟨hv,h0⟩ | ⟨b,cap',cur,hv,_,hg,hcp,_,_,dP⟩
 ·exact t99
 ·cases hv
  refine⟨.inr ⟨b,0,rfl,(Array.getElem?_eq_some_iff.1 hg).1,fun i p hp=> ?_⟩,hn,hcp⟩;have hi:i<L.length:=(List.getElem?_eq_some_iff.1 hp).1;have key:∀c x,c<5->(fdC p)[c]?=some x->w.cell? ⟨b,0+(i*5+c),none⟩=some x:=by
   intro c x hc hx;have h1:=fdV_at L i p c hp hc
   exact t144
  exact⟨key 0 _ om_ rfl,key 1 _ om_ rfl,key 2 _ om_ rfl,key 3 _ om_ rfl,key 4 _ om_ rfl⟩
theorem fd_info:(prog.info? 79).map (fun i=>(i.zero,i.size,i.bytes))=some (some (.agg #[.int .i64 0,.int .i64 0,.int .i64 0,.int .i64 0,.int .i64 0]),5,40):=by kernel_rfl
theorem fd_info_parts:∃i,prog.info? 79=some i/\i.zero=some (.agg #[.int .i64 0,.int .i64 0,.int .i64 0,.int .i64 0,.int .i64 0])/\i.size=5/\i.bytes=40:=by
 obtain⟨i,hi,he⟩:=Option.map_eq_some_iff.1 fd_info;simp only[Prod.mk.injEq] at he;exact⟨i,hi,he.1,he.2.1,he.2.2⟩
end schema
end Go.Proofs.YtogfefdlffmioaaGreat
