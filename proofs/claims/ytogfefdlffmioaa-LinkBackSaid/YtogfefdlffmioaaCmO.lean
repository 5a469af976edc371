/- Contracts and lemmas that claims of this seat share: SchemaMath, SchemaLong, AppendN. Each says its own conditions. -/
import Derived.Test.YtogfefdlffmioaaCmWord
import Derived.Maps.AppendAt
import Derived.Laws.Cover3
import Derived.Test.YtogfefdlffmioaaCmD
import Derived.Test.YtogfefdlffmioaaCmJ
import Derived.Test.YtogfefdlffmioaaCmK
import Derived.Test.YtogfefdlffmioaaCmL
import Derived.Test.YtogfefdlffmioaaCmF
import Derived.Test.YtogfefdlffmioaaCmN
set_option linter.unusedVariables false
namespace Go.Proofs.Ytogfefdlffmioaa
open Go.Proofs.Try
namespace ak
open Go.RowKit pen
instance:DecidableEq field.Fd:=fun a b=>
 if h:a.id=b.id/\a.kind=b.kind/\a.lo=b.lo/\a.hi=b.hi/\a.most=b.most then isTrue (by cases a;cases b;simp_all) else isFalse (by rintro rfl;simp at h)
abbrev Form:=Int×List field.Fd
def Fm.p(f:Fm):Form:=(f.id,f.fL)
def forms(F:List Fm):List Form:=F.map Fm.p
theorem bg(F:List Fm):(forms F).length=F.length:=List.length_map _
theorem dW{F:List Fm}{i:Nat}{p:Fm}(h:F[i]?=some p):(forms F)[i]?=some p.p:=by simp[forms,h]
def size(L:List field.Fd):Nat:=(L.map field.Fd.size).sum
def ids(L:List field.Fd):List Int:=L.map field.Fd.id
def iV(L:List field.Fd):Prop:=(∀f∈L,f.Right)/\(ids L).Nodup
instance (L:List field.Fd):Decidable (iV L):=by unfold iV;infer_instance
def Fine(p:Form):Prop:=(0<=p.1/\p.1<=200)/\(1<=p.2.length/\p.2.length<=8)/\iV p.2/\size p.2<=64
instance (p:Form):Decidable (Fine p):=by unfold Fine;infer_instance
def iW(F:List Form):Prop:=(∀p∈F,Fine p)/\(F.map (·.1)).Pairwise (· < ·)
instance (F:List Form):Decidable (iW F):=by unfold iW;infer_instance
def Right(v:Int)(F:List Form):Prop:=(1<=v/\v<=65535)/\F.length<=8/\iW F
instance (v:Int) (F:List Form):Decidable (Right v F):=by unfold Right;infer_instance
theorem pK(f:field.Fd):f.size<=33:=by
 have:= @field.tK;unfold field.Fd.size;split
 ·rename_i h;split
  ·unfold field.Fd.Right at h;omega
  ·exact Nat.le_trans (this _) om_
 ·omega
theorem size_le(L:List field.Fd):size L<=33*L.length:=by
 induction L with
 | nil=>simp[size]
 | cons f L ih=>
  have:=pK f;simp only[size,List.map_cons,List.sum_cons,List.length_cons] at ih ⊢;omega
theorem aH{α:Type}{L:List α}{k:Nat}{x:α}(h:L[k]?=some x):L.take (k+1)=L.take k++[x]:=by
 rw[List.take_add_one,h];rfl
theorem wW{L:List field.Fd}{k:Nat}{x:field.Fd}(h:L[k]?=some x):size (L.take (k+1))=size (L.take k)+x.size:=by
 rw[aH h];simp[size]
theorem size_take(L:List field.Fd)(k:Nat):size (L.take k)<=33*k:=by
 have:=size_le (L.take k);simp at this;omega
theorem iV.nil:iV []:=⟨by simp,by simp[ids]⟩
theorem pO{L:List field.Fd}{k:Nat}{x:field.Fd}(h:L[k]?=some x):iV (L.take (k+1))↔iV (L.take k)/\x.Right/\x.id∉ids (L.take k):=by
 rw[aH h];unfold iV ids;simp only[List.map_append,List.map_cons,List.map_nil,List.nodup_append,List.mem_append,List.mem_singleton];constructor
 ·rintro⟨h1,h2,h3,h4⟩;refine⟨⟨fun f hf=>h1 f (.inl hf),h2⟩,h1 x (.inr rfl),fun hm=>h4 _ hm _ rfl rfl⟩
 ·rintro⟨⟨h1,h2⟩,h3,h4⟩;refine⟨fun f hf=>hf.elim (h1 f) (fun e=>e ▸ h3),h2,by simp,fun a ha b hb e=>h4 (by rw[<-hb,<-e];exact ha)⟩
theorem Af{L:List field.Fd}(h:iV L)(k:Nat):iV (L.take k):=
 ⟨fun f hf=>h.1 f (List.mem_of_mem_take hf),by unfold ids;rw[List.map_take];exact h.2.sublist (List.take_sublist _ _)⟩
theorem yL{L:List field.Fd}{k:Nat}{x:field.Fd}(h:L[k]?=some x)(hn:¬(x.Right/\x.id∉ids (L.take k))):¬iV L:=fun hf=>hn ((pO h).1 (Af hf _)).2
theorem iW.nil:iW []:=⟨by simp,by simp⟩
theorem mr{F:List Form}{k:Nat}{x:Form}(h:F[k]?=some x):iW (F.take (k+1))↔iW (F.take k)/\Fine x/\∀p∈F.take k,p.1<x.1:=by
 rw[aH h];unfold iW;simp only[List.map_append,List.map_cons,List.map_nil,List.pairwise_append,List.mem_append,List.mem_singleton,List.mem_map];constructor
 ·rintro⟨h1,h2,h3,h4⟩;exact⟨⟨fun f hf=>h1 f (.inl hf),h2⟩,h1 x (.inr rfl),fun p hp=>h4 _ ⟨p,hp,rfl⟩ _ rfl⟩
 ·rintro⟨⟨h1,h2⟩,h3,h4⟩;exact⟨fun f hf=>hf.elim (h1 f) (fun e=>e ▸ h3),h2,by simp,by rintro a ⟨p,hp,rfl⟩ b rfl;exact h4 p hp⟩
theorem Ag{F:List Form}(h:iW F)(k:Nat):iW (F.take k):=
 ⟨fun f hf=>h.1 f (List.mem_of_mem_take hf),by rw[List.map_take];exact h.2.sublist (List.take_sublist _ _)⟩
theorem yM{F:List Form}{k:Nat}{x:Form}(h:F[k]?=some x)(hn:¬(Fine x/\∀p∈F.take k,p.1<x.1)):¬iW F:=fun hf=>hn ((mr h).1 (Ag hf _)).2
theorem rise{F:List Form}{k:Nat}{y x:Form}(hy:F[k]?=some y)(hk:iW (F.take (k+1))):(∀p∈F.take (k+1),p.1<x.1)↔y.1<x.1:=by
 have h1:=(mr hy).1 hk;rw[aH hy];constructor
 ·intro h;exact h y si_
 ·intro h p hp;rcases List.mem_append.1 hp with h2 | h2
  ·have:=h1.2.2 p h2;omega
  ·obtain rfl:=List.mem_singleton.1 h2;exact h
def iQ(f:field.Fd):List Nat:=vb f.id.toNat++vb f.kind.toNat++(if f.kind=1 then vb (zig f.lo)++vb (zig f.hi) else if f.kind=3\/f.kind=4 then vb f.most.toNat else [])
def fieldsB(L:List field.Fd):List Nat:=(L.map iQ).flatten
def ng(p:Form):List Nat:=vb p.1.toNat++vb p.2.length++fieldsB p.2
def dX(F:List Form):List Nat:=(F.map ng).flatten
def dU(v:Int)(F:List Form):List Nat:=vb v.toNat++vb F.length++dX F
theorem xM{L:List field.Fd}{k:Nat}{x:field.Fd}(h:L[k]?=some x):fieldsB (L.take (k+1))=fieldsB (L.take k)++iQ x:=by
 rw[aH h];simp[fieldsB]
theorem yP{F:List Form}{k:Nat}{x:Form}(h:F[k]?=some x):dX (F.take (k+1))=dX (F.take k)++ng x:=by
 rw[aH h];simp[dX]
theorem mP{f:field.Fd}(h:f.Right):(0<=f.id/\f.id<=255)/\(1<=f.kind/\f.kind<=4)/\(-1099511627776<=f.lo/\f.lo<=1099511627776)/\(-1099511627776<=f.hi/\f.hi<=1099511627776)/\(0<=f.most/\f.most<=1000):=by
 unfold field.Fd.Right at h;omega
theorem Ae{f:field.Fd}(h:f.Right):(iQ f).length<=40:=by
 have hs:=mP h;have h1:=aT f.id.toNat om_;have h2:=aT f.kind.toNat om_;have h3:=aT (zig f.lo) (iU _ om_ om_);have h4:=aT (zig f.hi) (iU _ om_ om_);have h5:=aT f.most.toNat om_;unfold iQ;split <;> (try split) <;> simp only[List.length_append,List.length_nil] <;> omega
theorem rM{L:List field.Fd}(h:∀f∈L,f.Right):(fieldsB L).length<=40*L.length:=by
 induction L with
 | nil=>simp[fieldsB]
 | cons f L ih=>
  have h1:=Ae (h f si_);have h2:=ih (fun g hg=>h g (by simp[hg]));simp only[fieldsB,List.map_cons,List.flatten_cons,List.length_append,List.length_cons] at h2 ⊢;omega
theorem CY{p:Form}(h:Fine p):(ng p).length<=340:=by
 have h1:=aT p.1.toNat (by have:=h.1;omega);have h2:=aT p.2.length (by have:=h.2.1;omega);have h3:=rM h.2.2.1.1;have:=h.2.1;simp only[ng,List.length_append];omega
theorem uo{F:List Form}(h:∀p∈F,Fine p):(dX F).length<=340*F.length:=by
 induction F with
 | nil=>simp[dX]
 | cons f L ih=>
  have h1:=CY (h f si_);have h2:=ih (fun g hg=>h g (by simp[hg]));simp only[dX,List.map_cons,List.flatten_cons,List.length_append,List.length_cons] at h2 ⊢;omega
def jR(s:Sight):field.Fd×Sight:=
 let a:=au 255 s
 let k:=au 4 a.2
 if k.1=1 then let l:=eInt k.2;let h:=eInt l.2;(⟨a.1,1,l.1,h.1,0⟩,h.2)
 else if k.1=3\/k.1=4 then let m:=au 1000 k.2;(⟨a.1,k.1,0,0,m.1⟩,m.2)
 else(⟨a.1,k.1,0,0,0⟩,k.2)
def dh:Nat->Sight->List field.Fd×Sight
 | 0,s=>([],s)
 | n+1,s=>((dh n s).1++[(jR (dh n s).2).1],(jR (dh n s).2).2)
def iT(s:Sight):Form×Sight:=
 let a:=au 200 s
 let n:=au 8 a.2
 let r:=dh n.1 n.2
 (((a.1:Int),r.1),r.2)
def bC:Nat->Sight->List Form×Sight
 | 0,s=>([],s)
 | n+1,s=>((bC n s).1++[(iT (bC n s).2).1],(iT (bC n s).2).2)
theorem vC(n:Nat)(s:Sight):(dh n s).1.length=n:=by
 induction n with
 | zero=>rfl
 | succ n ih=>simp[dh,ih]
theorem sF(n:Nat)(s:Sight):(bC n s).1.length=n:=by
 induction n with
 | zero=>rfl
 | succ n ih=>simp[bC,ih]
def lM(xs:List Nat):Nat×Sight:=au 65535 (xs,0)
def jr(xs:List Nat):Nat×Sight:=au 8 (lM xs).2
def jl(xs:List Nat):List Form×Sight:=bC (jr xs).1 (jr xs).2
def parsed(xs:List Nat):Int×List Form×Nat:=
 if gI (jl xs).2≠0 then(0,[],gI (jl xs).2)
 else if Right (lM xs).1 (jl xs).1 then((lM xs).1,(jl xs).1,0)
 else(0,[],2)
end ak
namespace ak
open Go.RowKit
open field (Gives aI ay size_any)
theorem dM{w:World}{B B' e size n:Nat}{v:Value}{xs:List Value}(h:w.ownsRow B e size v n xs)(hB:B'<=B):w.ownsRow B' e size v n xs:=by
 refine⟨h.1, ?_⟩;rcases h.2 with h0 | ⟨g,cap,cur,hv,hb,hg⟩
 ·exact .inl h0
 ·exact .inr ⟨g,cap,cur,hv,Nat.le_trans hB hb,hg⟩
theorem aX{w w':World}{d:Obj}(hb:Below (w.alloc d).heap.size (w.alloc d) w'):Below w.heap.size w w':=((Below.refl _ _).alloc (Nat.le_refl _) _).trans (hb.mono si_)
theorem eX{w w':World}{a:Option Addr}{L:List field.Fd}(h:field.Fds w a L)(hb:Below w.heap.size w w'){k:Nat}(hk:k<L.length):
  ∃b off p,a=some ⟨b,off,none⟩/\b<w'.heap.size/\L[k]?=some p/\w'.cell? ⟨b,off+k*5,none⟩=some (.int .i64 p.id)/\w'.cell? ⟨b,off+k*5+1,none⟩=some (.int .i64 p.kind)/\w'.cell? ⟨b,off+k*5+2,none⟩=some (.int .i64 p.lo)/\w'.cell? ⟨b,off+k*5+3,none⟩=some (.int .i64 p.hi)/\w'.cell? ⟨b,off+k*5+4,none⟩=some (.int .i64 p.most):=(h.below hb).at hk
theorem EZ(i:Int)(a:Option Addr)(cap:Nat)(L:List field.Fd)(w:World)(h:field.Fds w a L)(hL:L.length<=40):
  Calls prog 59 #[zS i a L.length cap] w (Gives (.int .i64 (size L:Int)) w):=by
 have HO:=hid (fun(w':World) hb=>aX (w:=w) (d:=.cells (zS i a L.length cap) 40) (w':=w') hb);have HF:=hid (h.below (aI w (.cells (zS i a L.length cap) 40)));obtain⟨S,hS⟩:∃S:Nat,Hid (size L=S):=⟨_,rfl⟩;rw[hS.o];unfold Gives;clear h;go_enter func59,ntmps59;go_wp2;go_loopw [3,9] (fun s n wr=>∃k:Nat,k<=L.length/\s=.int .i64 (size (L.take k):Int)/\n=.int .i64 (k:Int)/\Hid (Below (w.alloc (.cells (zS i a L.length cap) 40)).heap.size (w.alloc (.cells (zS i a L.length cap) 40)) wr)) (fun _ n _=>L.length - (intOf n).toNat);case atStart=>exact⟨0,Nat.zero_le _,rfl,rfl,hid (Below.refl _ _)⟩
 case round=>
  obtain⟨k,hk,rfl,rfl,HB⟩:=hrel;by_cases bI:k<L.length
  ·obtain⟨b,off,p,rfl,jV,hp,c0,c1,c2,c3,c4⟩:=eX HF.o HB.o bI;have i1:(k:Int)<L.length:=by omega
   have HP:=hid hp;have oD:=hid (wW hp);have hst:=size_take L k;have hst2:=field.tK;have cs:=fun w'=>size_any p w'
   have Ob:=pK p;clear hp hst2;generalize size (L.take k)=s at *;go_wp2_with (go_at_call 82;((with_reducible refine(cs _).mono ?_);rintro e w2 ⟨rfl,aQ⟩));exact⟨⟨k+1,by omega,by rw[oD.o];go_num,by go_num,hid (HB.o.trans ((aX aQ).mono HB.o.size))⟩,by simp[intOf];omega⟩
  ·obtain rfl:k=L.length:=by omega
   go_wp2;go_ret;exact⟨iK (by rw[<-hS.o,List.take_of_length_le (Nat.le_refl _)]),HO.o _ HB.o⟩
end ak
namespace ak
open Go.RowKit
end ak
end Go.Proofs.Ytogfefdlffmioaa
