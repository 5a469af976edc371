/- Contracts and lemmas that claims of this seat share: SchemaMath, SchemaLong, SchemaEye, SchemaRow. Each says its own conditions. -/
import Derived.Test.YtogfefdlffmioaaGreatCmWord
import Derived.Test.YtogfefdlffmioaaGreatCmC
import Derived.Test.YtogfefdlffmioaaGreatCmG
import Derived.Test.YtogfefdlffmioaaGreatCmH
import Derived.Test.YtogfefdlffmioaaGreatCmD
import Derived.Test.YtogfefdlffmioaaGreatCmL
import Derived.Test.YtogfefdlffmioaaGreatCmI
import Derived.Test.YtogfefdlffmioaaGreatCmK
import Derived.Test.YtogfefdlffmioaaGreatCmM
import Derived.Test.YtogfefdlffmioaaGreatCmN
set_option linter.unusedVariables false
namespace Go.Proofs.YtogfefdlffmioaaGreat
open Go.Proofs.Tryz
namespace schema
open Go.RowKit pen
instance:DecidableEq field.Fd:=fun a b=>
 if h:a.id=b.id/\a.kind=b.kind/\a.lo=b.lo/\a.hi=b.hi/\a.most=b.most then isTrue (by cases a;cases b;simp_all) else isFalse (by rintro rfl;simp at h)
abbrev Form:=Int×List field.Fd
def Fm.p(f:Fm):Form:=(f.id,f.fL)
def forms(F:List Fm):List Form:=F.map Fm.p
theorem forms_length(F:List Fm):(forms F).length=F.length:=List.length_map _
theorem forms_at{F:List Fm}{i:Nat}{p:Fm}(h:F[i]?=some p):(forms F)[i]?=some p.p:=by simp[forms,h]
def size(L:List field.Fd):Nat:=(L.map field.Fd.size).sum
def ids(L:List field.Fd):List Int:=L.map field.Fd.id
def FineF(L:List field.Fd):Prop:=(∀f∈L,f.Right)/\(ids L).Nodup
instance (L:List field.Fd):Decidable (FineF L):=by unfold FineF;infer_instance
def Fine(p:Form):Prop:=(0<=p.1/\p.1<=200)/\(1<=p.2.length/\p.2.length<=8)/\FineF p.2/\size p.2<=64
instance (p:Form):Decidable (Fine p):=by unfold Fine;infer_instance
def FineS(F:List Form):Prop:=(∀p∈F,Fine p)/\(F.map (·.1)).Pairwise (· < ·)
instance (F:List Form):Decidable (FineS F):=by unfold FineS;infer_instance
def Right(v:Int)(F:List Form):Prop:=(1<=v/\v<=65535)/\F.length<=8/\FineS F
instance (v:Int) (F:List Form):Decidable (Right v F):=by unfold Right;infer_instance
theorem fd_size_le(f:field.Fd):f.size<=33:=by
 have:= @field.wide_le;unfold field.Fd.size;split
 ·rename_i h;split
  ·unfold field.Fd.Right at h;omega
  ·exact Nat.le_trans (this _) om_
 ·omega
theorem size_le(L:List field.Fd):size L<=33*L.length:=by
 induction L with
 | nil=>simp[size]
 | cons f L ih=>
  have:=fd_size_le f;simp only[size,List.map_cons,List.sum_cons,List.length_cons] at ih ⊢;omega
theorem take_succ_at{α:Type}{L:List α}{k:Nat}{x:α}(h:L[k]?=some x):L.take (k+1)=L.take k++[x]:=by
 rw[List.take_add_one,h];rfl
theorem size_succ{L:List field.Fd}{k:Nat}{x:field.Fd}(h:L[k]?=some x):size (L.take (k+1))=size (L.take k)+x.size:=by
 rw[take_succ_at h];simp[size]
theorem size_take(L:List field.Fd)(k:Nat):size (L.take k)<=33*k:=by
 have:=size_le (L.take k);simp at this;omega
theorem FineF.nil:FineF []:=⟨by simp,by simp[ids]⟩
theorem fineF_succ{L:List field.Fd}{k:Nat}{x:field.Fd}(h:L[k]?=some x):FineF (L.take (k+1))↔FineF (L.take k)/\x.Right/\x.id∉ids (L.take k):=by
 rw[take_succ_at h];unfold FineF ids;simp only[List.map_append,List.map_cons,List.map_nil,List.nodup_append,List.mem_append,List.mem_singleton];constructor
 ·rintro⟨h1,h2,h3,h4⟩;refine⟨⟨fun f hf=>h1 f (.inl hf),h2⟩,h1 x (.inr rfl),fun hm=>h4 _ hm _ rfl rfl⟩
 ·rintro⟨⟨h1,h2⟩,h3,h4⟩;refine⟨fun f hf=>hf.elim (h1 f) (fun e=>e ▸ h3),h2,by simp,fun a ha b hb e=>h4 (by rw[<-hb,<-e];exact ha)⟩
theorem fineF_take{L:List field.Fd}(h:FineF L)(k:Nat):FineF (L.take k):=
 ⟨fun f hf=>h.1 f (List.mem_of_mem_take hf),by unfold ids;rw[List.map_take];exact h.2.sublist (List.take_sublist _ _)⟩
theorem fineF_no{L:List field.Fd}{k:Nat}{x:field.Fd}(h:L[k]?=some x)(hn:¬(x.Right/\x.id∉ids (L.take k))):¬FineF L:=fun hf=>hn ((fineF_succ h).1 (fineF_take hf _)).2
theorem FineS.nil:FineS []:=⟨by simp,by simp⟩
theorem fineS_succ{F:List Form}{k:Nat}{x:Form}(h:F[k]?=some x):FineS (F.take (k+1))↔FineS (F.take k)/\Fine x/\∀p∈F.take k,p.1<x.1:=by
 rw[take_succ_at h];unfold FineS;simp only[List.map_append,List.map_cons,List.map_nil,List.pairwise_append,List.mem_append,List.mem_singleton,List.mem_map];constructor
 ·rintro⟨h1,h2,h3,h4⟩;exact⟨⟨fun f hf=>h1 f (.inl hf),h2⟩,h1 x (.inr rfl),fun p hp=>h4 _ ⟨p,hp,rfl⟩ _ rfl⟩
 ·rintro⟨⟨h1,h2⟩,h3,h4⟩;exact⟨fun f hf=>hf.elim (h1 f) (fun e=>e ▸ h3),h2,by simp,by rintro a ⟨p,hp,rfl⟩ b rfl;exact h4 p hp⟩
theorem fineS_take{F:List Form}(h:FineS F)(k:Nat):FineS (F.take k):=
 ⟨fun f hf=>h.1 f (List.mem_of_mem_take hf),by rw[List.map_take];exact h.2.sublist (List.take_sublist _ _)⟩
theorem fineS_no{F:List Form}{k:Nat}{x:Form}(h:F[k]?=some x)(hn:¬(Fine x/\∀p∈F.take k,p.1<x.1)):¬FineS F:=fun hf=>hn ((fineS_succ h).1 (fineS_take hf _)).2
theorem rise{F:List Form}{k:Nat}{y x:Form}(hy:F[k]?=some y)(hk:FineS (F.take (k+1))):(∀p∈F.take (k+1),p.1<x.1)↔y.1<x.1:=by
 have h1:=(fineS_succ hy).1 hk;rw[take_succ_at hy];constructor
 ·intro h;exact h y si_
 ·intro h p hp;rcases List.mem_append.1 hp with h2 | h2
  ·have:=h1.2.2 p h2;omega
  ·obtain rfl:=List.mem_singleton.1 h2;exact h
def fieldB(f:field.Fd):List Nat:=vb f.id.toNat++vb f.kind.toNat++(if f.kind=1 then vb (zig f.lo)++vb (zig f.hi) else if f.kind=3\/f.kind=4 then vb f.most.toNat else [])
def fieldsB(L:List field.Fd):List Nat:=(L.map fieldB).flatten
def formB(p:Form):List Nat:=vb p.1.toNat++vb p.2.length++fieldsB p.2
def formsB(F:List Form):List Nat:=(F.map formB).flatten
def schemaB(v:Int)(F:List Form):List Nat:=vb v.toNat++vb F.length++formsB F
theorem fieldsB_succ{L:List field.Fd}{k:Nat}{x:field.Fd}(h:L[k]?=some x):fieldsB (L.take (k+1))=fieldsB (L.take k)++fieldB x:=by
 rw[take_succ_at h];simp[fieldsB]
theorem formsB_succ{F:List Form}{k:Nat}{x:Form}(h:F[k]?=some x):formsB (F.take (k+1))=formsB (F.take k)++formB x:=by
 rw[take_succ_at h];simp[formsB]
theorem right_span{f:field.Fd}(h:f.Right):(0<=f.id/\f.id<=255)/\(1<=f.kind/\f.kind<=4)/\(-1099511627776<=f.lo/\f.lo<=1099511627776)/\(-1099511627776<=f.hi/\f.hi<=1099511627776)/\(0<=f.most/\f.most<=1000):=by
 unfold field.Fd.Right at h;omega
theorem fieldB_len{f:field.Fd}(h:f.Right):(fieldB f).length<=40:=by
 have hs:=right_span h;have h1:=vb_ten f.id.toNat om_;have h2:=vb_ten f.kind.toNat om_;have h3:=vb_ten (zig f.lo) (zig_lt _ om_ om_);have h4:=vb_ten (zig f.hi) (zig_lt _ om_ om_);have h5:=vb_ten f.most.toNat om_;unfold fieldB;split <;> (try split) <;> simp only[List.length_append,List.length_nil] <;> omega
theorem fieldsB_len{L:List field.Fd}(h:∀f∈L,f.Right):(fieldsB L).length<=40*L.length:=by
 induction L with
 | nil=>simp[fieldsB]
 | cons f L ih=>
  have h1:=fieldB_len (h f si_);have h2:=ih (fun g hg=>h g (by simp[hg]));simp only[fieldsB,List.map_cons,List.flatten_cons,List.length_append,List.length_cons] at h2 ⊢;omega
theorem formB_len{p:Form}(h:Fine p):(formB p).length<=340:=by
 have h1:=vb_ten p.1.toNat (by have:=h.1;omega);have h2:=vb_ten p.2.length (by have:=h.2.1;omega);have h3:=fieldsB_len h.2.2.1.1;have:=h.2.1;simp only[formB,List.length_append];omega
theorem formsB_len{F:List Form}(h:∀p∈F,Fine p):(formsB F).length<=340*F.length:=by
 induction F with
 | nil=>simp[formsB]
 | cons f L ih=>
  have h1:=formB_len (h f si_);have h2:=ih (fun g hg=>h g (by simp[hg]));simp only[formsB,List.map_cons,List.flatten_cons,List.length_append,List.length_cons] at h2 ⊢;omega
def takeF(s:Sight):field.Fd×Sight:=
 let a:=eCount 255 s
 let k:=eCount 4 a.2
 if k.1=1 then let l:=eInt k.2;let h:=eInt l.2;(⟨a.1,1,l.1,h.1,0⟩,h.2)
 else if k.1=3\/k.1=4 then let m:=eCount 1000 k.2;(⟨a.1,k.1,0,0,m.1⟩,m.2)
 else(⟨a.1,k.1,0,0,0⟩,k.2)
def takeFs:Nat->Sight->List field.Fd×Sight
 | 0,s=>([],s)
 | n+1,s=>((takeFs n s).1++[(takeF (takeFs n s).2).1],(takeF (takeFs n s).2).2)
def takeFm(s:Sight):Form×Sight:=
 let a:=eCount 200 s
 let n:=eCount 8 a.2
 let r:=takeFs n.1 n.2
 (((a.1:Int),r.1),r.2)
def takeFms:Nat->Sight->List Form×Sight
 | 0,s=>([],s)
 | n+1,s=>((takeFms n s).1++[(takeFm (takeFms n s).2).1],(takeFm (takeFms n s).2).2)
theorem takeFs_len(n:Nat)(s:Sight):(takeFs n s).1.length=n:=by
 induction n with
 | zero=>rfl
 | succ n ih=>simp[takeFs,ih]
theorem takeFms_len(n:Nat)(s:Sight):(takeFms n s).1.length=n:=by
 induction n with
 | zero=>rfl
 | succ n ih=>simp[takeFms,ih]
def readV(xs:List Nat):Nat×Sight:=eCount 65535 (xs,0)
def readN(xs:List Nat):Nat×Sight:=eCount 8 (readV xs).2
def readF(xs:List Nat):List Form×Sight:=takeFms (readN xs).1 (readN xs).2
def parsed(xs:List Nat):Int×List Form×Nat:=
 if eEnd (readF xs).2≠0 then(0,[],eEnd (readF xs).2)
 else if Right (readV xs).1 (readF xs).1 then((readV xs).1,(readF xs).1,0)
 else(0,[],2)
end schema
namespace schema
open Go.RowKit
open field (Gives newB gives_from size_any)
theorem own_low{w:World}{B B' e size n:Nat}{v:Value}{xs:List Value}(h:w.ownsRow B e size v n xs)(hB:B'<=B):w.ownsRow B' e size v n xs:=by
 refine⟨h.1, ?_⟩;rcases h.2 with h0 | ⟨g,cap,cur,hv,hb,hg⟩
 ·exact .inl h0
 ·exact .inr ⟨g,cap,cur,hv,Nat.le_trans hB hb,hg⟩
theorem below_out{w w':World}{d:Obj}(hb:Below (w.alloc d).heap.size (w.alloc d) w'):Below w.heap.size w w':=((Below.refl _ _).alloc (Nat.le_refl _) _).trans (hb.mono si_)
theorem field_at{w w':World}{a:Option Addr}{L:List field.Fd}(h:field.Fds w a L)(hb:Below w.heap.size w w'){k:Nat}(hk:k<L.length):
  ∃b off p,a=some ⟨b,off,none⟩/\b<w'.heap.size/\L[k]?=some p/\w'.cell? ⟨b,off+k*5,none⟩=some (.int .i64 p.id)/\w'.cell? ⟨b,off+k*5+1,none⟩=some (.int .i64 p.kind)/\w'.cell? ⟨b,off+k*5+2,none⟩=some (.int .i64 p.lo)/\w'.cell? ⟨b,off+k*5+3,none⟩=some (.int .i64 p.hi)/\w'.cell? ⟨b,off+k*5+4,none⟩=some (.int .i64 p.most):=(h.below hb).at hk
theorem long_any(i:Int)(a:Option Addr)(cap:Nat)(L:List field.Fd)(w:World)(h:field.Fds w a L)(hL:L.length<=40):
  Calls prog 89 #[zS i a L.length cap] w (Gives (.int .i64 (size L:Int)) w):=by
 have HO:=hid (fun(w':World) hb=>below_out (w:=w) (d:=.cells (zS i a L.length cap) 43) (w':=w') hb);have HF:=hid (h.below (newB w (.cells (zS i a L.length cap) 43)));obtain⟨S,hS⟩:∃S:Nat,Hid (size L=S):=⟨_,rfl⟩;rw[hS.o];unfold Gives;clear h;go_enter func89,ntmps89;go_wp2;go_loopw [3,9] (fun s n wr=>∃k:Nat,k<=L.length/\s=.int .i64 (size (L.take k):Int)/\n=.int .i64 (k:Int)/\Hid (Below (w.alloc (.cells (zS i a L.length cap) 43)).heap.size (w.alloc (.cells (zS i a L.length cap) 43)) wr)) (fun _ n _=>L.length - (intOf n).toNat);case atStart=>exact⟨0,Nat.zero_le _,rfl,rfl,hid (Below.refl _ _)⟩
 case round=>
  obtain⟨k,hk,rfl,rfl,HB⟩:=hrel;by_cases au:k<L.length
  ·obtain⟨b,off,p,rfl,bQ,hp,c0,c1,c2,c3,c4⟩:=field_at HF.o HB.o au;have i1:(k:Int)<L.length:=by omega
   have HP:=hid hp;have HSZ:=hid (size_succ hp);have hst:=size_take L k;have hst2:=field.wide_le;have cs:=fun w'=>size_any p w'
   have mG:=fd_size_le p;clear hp hst2;generalize size (L.take k)=s at *;go_wp2_with (go_at_call 103;((with_reducible refine(cs _).mono ?_);rintro e w2 ⟨rfl,aj⟩));exact⟨⟨k+1,by omega,by rw[HSZ.o];go_num,by go_num,hid (HB.o.trans ((below_out aj).mono HB.o.size))⟩,by simp[intOf];omega⟩
  ·obtain rfl:k=L.length:=by omega
   go_wp2;go_ret;exact⟨ret_int (by rw[<-hS.o,List.take_of_length_le (Nat.le_refl _)]),HO.o _ HB.o⟩
end schema
namespace schema
open Go.RowKit pen
def NoByte(cs:List Value):Prop:=∀v∈cs,∀n,v≠ .int .u8 n
theorem eye_but{t t':TypeId}{b g:Nat}{s:Sight}{cs:List Value}{w w':World}(h:EyeAt t b s w)(hB:Block w g t' cs)(aH:b≠g)(hcs:NoByte cs)(hb:But w.heap.size g w w'):EyeAt t b s w':=by
 obtain⟨h1,h2,a,cap,h3,h4,h5,h6⟩:=h;refine⟨h1,h2,a,cap,h3.but hb h3.lt aH,h4, ?_,h6⟩;by_cases h0:s.1.length=0
 ·exact⟨h5.1,.inl h0⟩
 ·refine reads_but h5 hb (fun x hx=> ?_);rintro rfl;rcases h5.2 with e | ⟨b',off,ha,_,hc⟩
  ·exact h0 e
  ·rw[hx] at ha;cases ha
   have:=hc 0 om_;rw[hB.cell] at this;exact hcs _ (List.mem_of_getElem? this) _ rfl
theorem noByte5(f:field.Fd):NoByte (zF f):=by
 intro v hv n e;simp at hv;rcases hv with rfl | rfl | rfl | rfl | rfl <;> cases e
end schema
theorem t106{P:Prop}(h:P:=by
 simp only[IntKind.wrap,IntKind.bits,IntKind.signed];simp;omega):P:=h
namespace schema
open Go.RowKit pen
def aA(B:Nat)(W0:World)(xs:List Nat)(u:Value)(w:World):Prop:=w.ownsRow B 5 1 u xs.length (u8v xs)/\Below B W0 w/\B<=w.heap.size
theorem aA.later{B:Nat}{W0:World}{xs:List Nat}{u:Value}{w w':World}(h:aA B W0 xs u w)(hb:Below w.heap.size w w'):aA B W0 xs u w':=
 ⟨ownsRow_later h.1 hb,h.2.1.trans (hb.mono h.2.2),Nat.le_trans h.2.2 hb.size⟩
theorem aA.of{B:Nat}{W0:World}{xs:List Nat}{u:Value}{w w':World}(bT:Below B W0 w)(hB:B<=w.heap.size)(ho:w'.ownsRow w.heap.size 5 1 u xs.length (u8v xs))(hb:Below w.heap.size w w'):aA B W0 xs u w':=by
 refine⟨⟨ho.1, ?_⟩,bT.trans (hb.mono hB),Nat.le_trans hB hb.size⟩;rcases ho.2 with h0 | ⟨g,cap,cur,hv,hg,hr⟩
 ·exact .inl h0
 ·exact .inr ⟨g,cap,cur,hv,Nat.le_trans hB hg,hr⟩
theorem ai{w:World}{B n:Nat}{u:Value}{ys:List Nat}(h:w.ownsRow B 5 1 u n (u8v ys)):∃a c,u=.slice a n c/\Reads .u8 w a n ys:=by
 obtain⟨a,c,rfl,_⟩:=ownsRow_slice h;exact⟨a,c,rfl,Reads.own h⟩
theorem fV{w w':World}{B n:Nat}{u:Value}{xs:List Value}(ho:w.ownsRow B 5 1 u n xs)(hg:w.grownBy w' u.ownBlock){k:Nat}{t:TypeId}{cs:List Value}(hB:Block w k t cs)(hT:t≠5):Block w' k t cs:=by
 refine(hg.block k hB.lt ?_).trans hB;intro e;rcases ho.2 with ⟨hv,_⟩ | ⟨g,cap,cur,hv,_,hh,_⟩
 ·rw[hv] at e;simp[Value.ownBlock] at e
 ·rw[hv] at e;simp[Value.ownBlock] at e;subst e;unfold Block at hB;rw[hh] at hB;exact hT ((Obj.cells.inj (Option.some.inj hB)).2.1.symm)
def kT(w w':World):Prop:=∀k t cs,Block w k t cs->t≠5->Block w' k t cs
theorem dm{o:Oper}{act:Act}{w:World}{x y:Operand}{u:Value}{B m c:Nat}{ap:Option Addr}{xs ys:List Nat}{W0:World}
  (ho:o.op=.call { callee:=.builtin .append,args:=#[x,y],argTypes:=#[28,28]}) (hx:act.eval x=u) (hy:act.eval y=.slice ap m c)
  (hR:aA B W0 xs u w) (hr:Reads .u8 w ap m ys) (hl:xs.length+m<=1000000):
  ∃z w',(execOp act.eval o).run prog w=.ok (.value z) w'/\aA B W0 (xs++ys) z w'/\kT w w':=by
 obtain⟨z,w',h1,h2,h3,h4⟩:=eG ho hx hy hR.1 hr hR.2.2 om_;refine⟨z,w',h1,⟨?_,hR.2.1.grown h3 hR.2.2 (fun k hk=>(World.ownsRow.lt hR.1 k hk).1),Nat.le_trans hR.2.2 h3.size⟩,fun k t cs hB hT=>fV hR.1 h3 hB hT⟩;have dJ:=hr.1;rw[show(xs++ys).length=xs.length+m by rw[List.length_append,dJ]];exact h2
theorem ah{w:World}{ops:Array Oper}{rest:List Oper}{o:Oper}{a:Act}{Q:Exit->Act->World->Prop}(hgd:o.guard=none)(s x:Operand)
  (ho:o.op=.call { callee:=.builtin .append,args:=#[s,x],argTypes:=#[28,28]}) {u:Value} {B m c:Nat} {ap:Option Addr} {xs ys:List Nat} {W0:World}
  (hs:a.eval s=u) (hx:a.eval x=.slice ap m c) (hR:aA B W0 xs u w) (hr:Reads .u8 w ap m ys) (hl:xs.length+m<=1000000)
  (h:∀z w',aA B W0 (xs++ys) z w'->kT w w'->wpList prog ops Q rest (a.put o.dst z) w'):wpList prog ops Q (o :: rest) a w:=by
 obtain⟨z,w',h1,h2,h3⟩:=dm ho hs hx hR hr hl;refine wpList_plain hgd fun K hK=> ?_
 unfold Oper.wp;rw[h1];exact hK _ _ (h z w' h2 h3)
theorem ay{md:Region.Mode}{Q:Exit->Act->World->Prop}{l:List Oper}{S:World->Prop}{f:Nat}{listed:Array Bool}{a:Act}{w:World}(i:Nat){o:Oper}{x y:Operand}{u:Value}{B m c:Nat}{ap:Option Addr}{xs ys:List Nat}{W0:World}
  (hR:aA B W0 xs u w) (hr:Reads .u8 w ap m ys) (hi:l[i]?=some o) (hg:o.guard=none)
  (ho:o.op=.call { callee:=.builtin .append,args:=#[x,y],argTypes:=#[28,28]}) (hl:xs.length+m<=1000000)
  (h:∀z w',aA B W0 (xs++ys) z w'->kT w w'->S w'/\wpAnyH prog md l.toArray (NoPanic Q) S f (listed.setIfInBounds i true) (a.put o.dst z) w') (gy:Region.ready md l.toArray listed=[i]:=by kernel_rfl) (hx:a.eval x=u:=by kernel_rfl) (hy:a.eval y=.slice ap m c:=by kernel_rfl):
  wpAnyH prog md l.toArray (NoPanic Q) S (f+1) listed a w:=by
 obtain⟨z,w',h1,h2,h3⟩:=dm ho hx hy hR hr hl;obtain⟨h4,h5⟩:=h z w' h2 h3;exact plan.oneS i o z hi hg (hr:=gy) (hv:=h1) h4 h5
theorem aQ{o:Oper}{a:Act}{w:World}{x:Operand}{n:Int}(ho:o.op=.convert 3 55 x)(h0:0<=n)(hn:n<=9223372036854775807)(hx:a.eval x=.int .i64 n:=by kernel_rfl):
  (execOp a.eval o).run prog w=.ok (.value (.int .u64 n)) w:=by
 unfold execOp;rw[ho];simp only[hx];go_simp;show IntKind.u64.wrap n=n
 exact t106
theorem aC(n:Int)(h0:0<=n)(hn:n<=9223372036854775807)(w:World):Calls prog 21 #[.int .u64 n] w (Copies (vb n.toNat) w):=by
 obtain⟨m,rfl⟩:=Int.eq_ofNat_of_zero_le h0;exact aU m om_ w
end schema
end Go.Proofs.YtogfefdlffmioaaGreat
