/- Contracts and lemmas that claims of this seat share: WholeOne, WholeMath, AppendAt, Gather, TypingSteps, StepRange, WholeForm, ItemFound, ItemPush, SortRow, TurnBackMath, FieldLay. Each says its own conditions. -/
import Derived.Test.YtogkgbnpodojjaaGreatCmWord
import Derived.Maps.AppendAt
import Derived.Shelf.SlSortCmp.NoneTotal
import Derived.Test.YtogkgbnpodojjaaGreatCmE
import Derived.Test.YtogkgbnpodojjaaGreatCmF
import Derived.Test.YtogkgbnpodojjaaGreatCmJ
import Derived.Test.YtogkgbnpodojjaaGreatCmQ
import Derived.Test.YtogkgbnpodojjaaGreatCmW
import Derived.Test.YtogkgbnpodojjaaGreatCmAB
import Derived.Test.YtogkgbnpodojjaaGreatCmAE
import Derived.Test.YtogkgbnpodojjaaGreatCmAF
import Derived.Test.YtogkgbnpodojjaaGreatCmAG
import Derived.Test.YtogkgbnpodojjaaGreatCmS
set_option linter.unusedVariables false
namespace Go.Proofs.YtogkgbnpodojjaaGreat
open Go.Proofs.Tryz
namespace whole
open Go.RowKit schema step typing turn
open field (Va)
def after (v:Int):List schema.Form->List Sp->List schema.Form
 | F,[]=>F
 | F,s :: r=>after v (on v F s).2.1 r
def Ok (v:Int):List schema.Form->List Sp->Prop
 | _,[]=>True
 | F,s :: r=>(on v F s).2.2=0/\Ok v (on v F s).2.1 r
noncomputable def up (v j:Int):Nat->List schema.Form->List Sp->List Va->List (Nat×ByteArray)×Option (List Va)
 | _,_,[],V=>([],some V)
 | n,F,s :: r,V=>
  if (onR v F s j V).gone=true then ([(n,(onR v F s j V).lost)],none)
  else ((if (onR v F s j V).has=true then [(n,(onR v F s j V).lost)] else [])++(up v j (n+1) (on v F s).2.1 r (onR v F s j V).V).1,(up v j (n+1) (on v F s).2.1 r (onR v F s j V).V).2)
def qU (look:Nat->Option ByteArray) (n:Nat):ByteArray:=(look n).getD ⟨#[]⟩
noncomputable def down1 (v j:Int) (n:Nat) (F:List schema.Form) (s:Sp) (look:Nat->Option ByteArray):Option (List Va)->Option (List Va)×Int
 | some V=>if (backR v F s j V (qU look n) (look n).isSome).2.2=0 then (some (backR v F s j V (qU look n) (look n).isSome).2.1,0) else (none,(backR v F s j V (qU look n) (look n).isSome).2.2)
 | none=>if s.op=10/\s.fm=j/\(look n).isSome=true then (if (bC v F s (qU look n)).2.2=0 then (some (bC v F s (qU look n)).2.1,0) else (none,(bC v F s (qU look n)).2.2)) else (none,0)
noncomputable def down (v j:Int) (look:Nat->Option ByteArray):Nat->List schema.Form->List Sp->Option (List Va)->Option (List Va)×Int
 | _,_,[],c=>(c,0)
 | n,F,s :: r,c=>if (down v j look (n+1) (on v F s).2.1 r c).2=0 then down1 v j n F s look (down v j look (n+1) (on v F s).2.1 r c).1 else (none,(down v j look (n+1) (on v F s).2.1 r c).2)
theorem GR {v:Int} {F:List schema.Form} {s:Sp} {j:Int} {V:List Va} (h:(on v F s).2.2=0) (hR:fH F j V):(onR v F s j V).e=0:=by
 unfold onR;rw [if_neg (by simpa using h),if_neg (by simpa using hR)];split
 ·rfl
 split
 ·rfl
 ·rfl
end whole
namespace whole
open Go.RowKit schema step typing turn
open field (Va bytesOf gW gy)
open item (It bK sides)
open record (dN dJ Has)
abbrev Ent:=Nat×List Va
def aK (k:Nat):Int:=((k % 16777216 / 65536:Nat):Int)
def bJ (n k:Nat):Nat:=(n+1)*16777216+k % 16777216
def told (k:Nat):Int:=((k / 16777216:Nat):Int) - 1
def xQ (F:List schema.Form) (p:It):Int×List Va×Int:=dN (aK p.key) (fieldsOf F (aK p.key)) (bytesOf p.data)
def ent (F:List schema.Form) (p:It):Ent:=(p.key,(xQ F p).2.1)
def Fits (v:Int) (F:List schema.Form) (I:List It):Prop:=Right v F/\item.Right I/\∀p∈bK I,(xQ F p).2.2=0
instance (v:Int) (F:List schema.Form) (I:List It):Decidable (Fits v F I):=by unfold Fits;infer_instance
def errs (v:Int):List schema.Form->List Sp->Nat
 | _,[]=>0
 | F,s :: r=>if (on v F s).2.2=0 then errs v (on v F s).2.1 r else (on v F s).2.2
def path (v:Int):List schema.Form->List Sp->List (List schema.Form)
 | F,[]=>[F]
 | F,s :: r=>F :: path v (on v F s).2.1 r
def cZ (v:Int) (F:List schema.Form) (L:List Sp) (n:Nat):Int:=
 if ¬Right v F then 2 else if errs v F L≠0 then (errs v F L:Nat) else if n*L.length>20000 then 21 else 0
def laid (F:List schema.Form) (e:Ent):It:=⟨e.1,strOf (dJ (fieldsOf F (aK e.1)) e.2)⟩
noncomputable def applied (v:Int) (F:List schema.Form) (L:List Sp) (e:Ent):List It:=
 (up v (aK e.1) 0 F L e.2).1.map (fun x=>⟨bJ x.1 e.1,x.2⟩)++(match (up v (aK e.1) 0 F L e.2).2 with | none=>[] | some U=>[laid (after v F L) (e.1,U)])
def fP {α:Type} (f:α->Int):List α->Int
 | []=>0
 | x :: r=>if f x=0 then fP f r else f x
def Removed (L:List Sp) (k:Nat):Prop:=0<=told k/\∃s,L[(told k).toNat]?=some s/\s.fm=aK k/\(s.op=2\/s.op=10)
noncomputable def backI (v:Int) (F:List schema.Form) (s:Sp) (n:Nat) (S:List It) (e:Ent):Int×List Va×Int:=
 backR v F s (aK e.1) e.2 (item.data (item.find (bJ n e.1) S)) (item.find (bJ n e.1) S).isSome
noncomputable def fU (v:Int) (F:List schema.Form) (s:Sp) (n:Nat) (S:List It) (E:List Ent):List Ent:=E.map fun e=>(e.1,(backI v F s n S e).2.1)
def bM (n:Nat) (S:List It):List It:=S.filter fun p=>decide (told p.key=n)
noncomputable def regained (v:Int) (F:List schema.Form) (s:Sp) (n:Nat) (S:List It):List Ent:=(bM n S).map fun p=>(p.key % 16777216,(bC v F s p.data).2.1)
noncomputable def undoneE (v:Int) (F:List schema.Form) (s:Sp) (n:Nat) (S:List It) (E:List Ent):Int:=
 if fP (fun e=>(backI v F s n S e).2.2) E≠0 then fP (fun e=>(backI v F s n S e).2.2) E else if s.op=10 then fP (fun p:It=>(bC v F s p.data).2.2) (bM n S) else 0
def srt (E:List Ent):List Ent:=E.mergeSort fun a b=>decide (a.1<=b.1)
noncomputable def undone (v:Int) (F:List schema.Form) (s:Sp) (n:Nat) (S:List It) (E:List Ent):List Ent:=
 if s.op=10 then srt (fU v F s n S E++regained v F s n S) else fU v F s n S E
noncomputable def downs (v:Int) (S:List It):Nat->List schema.Form->List Sp->List Ent->List Ent×Int
 | _,_,[],E=>(E,0)
 | n,F,s :: r,E=>
  if (downs v S (n+1) (on v F s).2.1 r E).2≠0 then ([],(downs v S (n+1) (on v F s).2.1 r E).2)
  else if undoneE v F s n S (downs v S (n+1) (on v F s).2.1 r E).1≠0 then ([],undoneE v F s n S (downs v S (n+1) (on v F s).2.1 r E).1)
  else (undone v F s n S (downs v S (n+1) (on v F s).2.1 r E).1,0)
open Classical in
noncomputable def aV (v:Int) (F:List schema.Form) (L:List Sp) (I:List It):List It×Int:=
 if cZ v F L I.length≠0 then ([],cZ v F L I.length) else if ¬(Fits v (after v F L) I/\∀p∈sides I,Removed L p.key) then ([],12)
 else if (downs v (sides I) 0 F L ((bK I).map (ent (after v F L)))).2≠0 then ([],(downs v (sides I) 0 F L ((bK I).map (ent (after v F L)))).2)
 else ((downs v (sides I) 0 F L ((bK I).map (ent (after v F L)))).1.map (laid F),0)
theorem fK {α:Type} {f:α->Int}:∀ {l:List α},fP f l=0↔∀x∈l,f x=0
 | []=>by simp [fP]
 | x :: r=>by
  unfold fP;by_cases h:f x=0
  ·rw [if_pos h,fK];simp [h]
  ·rw [if_neg h];simp [h]
theorem xh {α:Type} {f:α->Int} {l:List α} {k:Nat} {x:α} (h:∀y∈l.take k,f y=0) (hx:l[k]?=some x) (hf:f x≠0):fP f l=f x:=by
 induction l generalizing k with
 | nil=>simp at hx
 | cons y r ih=>
  cases k with
  | zero=>simp at hx;subst hx;unfold fP;rw [if_neg hf]
  | succ k=>
   unfold fP;rw [if_pos (h y si_)];exact ih (fun z hz=>h z (by rw [List.take_succ_cons];exact List.mem_cons_of_mem _ hz)) (by simpa using hx)
theorem fM (v:Int):∀(F:List schema.Form) (L:List Sp),(path v F L).length=L.length+1
 | _,[]=>rfl
 | F,s :: r=>by unfold path;rw [List.length_cons,fM,List.length_cons]
theorem yO (v:Int):∀(F:List schema.Form) (L:List Sp) (n:Nat),n<=L.length->(path v F L)[n]?=some (after v F (L.take n))
 | F,[],n,h=>by
  obtain rfl:n=0:=by simpa using h
  rfl
 | F,s :: r,0,h=>rfl
 | F,s :: r,n+1,h=>by
  unfold path;rw [List.getElem?_cons_succ,yO v _ r n (by simpa using h)];rfl
theorem jM (v:Int):∀(F:List schema.Form) (L:List Sp) (n:Nat) (s:Sp),L[n]?=some s->after v F (L.take (n+1))=(on v (after v F (L.take n)) s).2.1
 | F,[],n,s,h=>by simp at h
 | F,t :: r,0,s,h=>by simp at h;subst h;rfl
 | F,t :: r,n+1,s,h=>by
  simp only [List.take_succ_cons,after];exact jM v _ r n s (by simpa using h)
theorem D9 (v:Int):∀(F:List schema.Form) (L:List Sp),errs v F L=0↔Ok v F L
 | F,[]=>by simp [errs,Ok]
 | F,s :: r=>by
  unfold errs Ok;by_cases h:(on v F s).2.2=0
  ·rw [if_pos h,D9];simp [h]
  ·rw [if_neg h];simp [h]
theorem GL (v:Int):∀(F:List schema.Form) (L:List Sp) (n:Nat) (s:Sp),Ok v F L->L[n]?=some s->(on v (after v F (L.take n)) s).2.2=0
 | F,[],n,s,_,h=>by simp at h
 | F,t :: r,0,s,h,hs=>by simp at hs;subst hs;exact h.1
 | F,t :: r,n+1,s,h,hs=>by
  simp only [List.take_succ_cons,after];exact GL v _ r n s h.2 (by simpa using hs)
theorem nD (v:Int):∀(F:List schema.Form) (L:List Sp),Right v F->Ok v F L->Right v (after v F L)
 | F,[],h,_=>h
 | F,s :: r,h,ho=>nD v _ r (jw ho.1).2.2.1 ho.2
theorem Dy (v:Int):∀(F:List schema.Form) (L:List Sp) (n:Nat),Ok v F L->Ok v F (L.take n)
 | F,[],n,_=>by simp [Ok]
 | F,s :: r,0,_=>trivial
 | F,s :: r,n+1,h=>⟨h.1,Dy v _ r n h.2⟩
theorem wY (v:Int):∀(F:List schema.Form) (L:List Sp) (n:Nat) (s:Sp),errs v F (L.take n)=0->L[n]?=some s->(on v (after v F (L.take n)) s).2.2≠0->errs v F L=(on v (after v F (L.take n)) s).2.2
 | F,[],n,s,_,h,_=>by simp at h
 | F,t :: r,0,s,_,hs,he=>by
  simp at hs;subst hs;simp only [List.take_zero,after] at he ⊢;unfold errs;rw [if_neg he]
 | F,t :: r,n+1,s,h,hs,he=>by
  simp only [List.take_succ_cons,after] at h he ⊢;unfold errs at h;by_cases h0:(on v F t).2.2=0
  ·rw [if_pos h0] at h;conv=>lhs;unfold errs
   rw [if_pos h0];exact wY v _ r n s h (by simpa using hs) he
  ·rw [if_neg h0] at h;exact absurd h h0
theorem Ef (v:Int) (F:List schema.Form) (L:List Sp) (n:Nat) (s:Sp) (h:errs v F (L.take n)=0) (hs:L[n]?=some s) (he:(on v (after v F (L.take n)) s).2.2=0):errs v F (L.take (n+1))=0:=by
 induction L generalizing F n with
 | nil=>simp at hs
 | cons t r ih=>
  cases n with
  | zero=>
   simp at hs;subst hs;simp only [List.take_zero,after] at he;simp [errs,he]
  | succ n=>
   simp only [List.take_succ_cons,after] at h he ⊢;unfold errs at h ⊢;by_cases h0:(on v F t).2.2=0
   ·rw [if_pos h0] at h ⊢;exact ih _ n h (by simpa using hs) he
   ·rw [if_neg h0] at h;exact absurd h h0
end whole
section
open Go.RowKit
end
section
open Go.RowKit
theorem rQ {a b c:World} {r:Option Nat} (h:a.grownBy b r) (k:b.grownBy c r):a.grownBy c r:=
 ⟨k.os.trans h.os,k.tape.trans h.tape,k.output.trans h.output,Nat.le_trans h.size k.size,fun i hi hne=>(k.block i (Nat.lt_of_lt_of_le hi h.size) hne).trans (h.block i hi hne)⟩
theorem grown_below {a b:World} {r:Option Nat} (h:Below a.heap.size a b):a.grownBy b r:=⟨h.os,h.tape,h.output,h.size,fun k hk _=>h.block k hk⟩
def Kept (R:World->Prop) (v:Value) (w:World):Prop:=∀w',w.grownBy w' v.ownBlock->R w'
section
variable {R:World->Prop} {v v':Value} {w w':World}
theorem Kept.now (h:Kept R v w):R w:=h w (lY _ _)
theorem Kept.later (h:Kept R v w) (hb:Below w.heap.size w w'):Kept R v w':=fun _ hg=>h _ (rQ (grown_below hb) hg)
theorem Kept.grown (h:Kept R v w) (hg:w.grownBy w' v.ownBlock) (ho:v'.ownBlock=v.ownBlock\/∀g,v'.ownBlock=some g->w.heap.size<=g):Kept R v' w':=by
 intro w2 h2;rcases ho with ho | ho
 ·rw [ho] at h2;exact h _ (rQ hg h2)
 ·refine h _ ⟨h2.os.trans hg.os,h2.tape.trans hg.tape,h2.output.trans hg.output,Nat.le_trans hg.size h2.size,fun i hi hne=> ?_⟩;exact (h2.block i (Nat.lt_of_lt_of_le hi hg.size) (fun e=>by have:=ho i e.symm;omega)).trans (hg.block i hi hne)
theorem Kept.mono {R':World->Prop} (h:Kept R v w) (f:∀w,R w->R' w):Kept R' v w:=fun w' hg=>f _ (h w' hg)
end
def Lie {α:Type} (k:Nat) (C:α->List Value) (w:World) (a:Option Addr) (L:List α):Prop:=
 L=[]\/∃b off,a=some ⟨b,off,none⟩/\b<w.heap.size/\∀i p,L[i]?=some p->∀c u,(C p)[c]?=some u->w.cell? ⟨b,off+i*k+c,none⟩=some u
section
variable {α:Type} {t:TypeId} {k:Nat} {C:α->List Value} {R:World->α->Prop} {w0 w w':World} {L:List α} {v:Value}
theorem Lie.below {a:Option Addr} (h:Lie k C w a L) (hb:Below w.heap.size w w'):Lie k C w' a L:=by
 rcases h with h | ⟨b,off,ha,hlt,hc⟩
 ·exact .inl h
 ·exact .inr ⟨b,off,ha,Nat.lt_of_lt_of_le hlt hb.size,fun i p hp c u hu=>by rw [World.cell?_of_block (a:=⟨b,off+i*k+c,none⟩) (hb.block b hlt)];exact hc i p hp c u hu⟩
theorem flat_length (hk:∀x,(C x).length=k):∀L:List α,(L.flatMap C).length=L.length*k
 | []=>by simp
 | p :: L=>by rw [List.flatMap_cons,List.length_append,hk,flat_length hk L,List.length_cons,Nat.succ_mul];omega
theorem yF (hk:∀x,(C x).length=k):∀(L:List α) (i:Nat) (p:α) (c:Nat),L[i]?=some p->c<k->(L.flatMap C)[i*k+c]?=(C p)[c]?
 | [],i,p,c,h,_=>by simp at h
 | q :: L,0,p,c,h,hc=>by
  simp at h;subst h;rw [List.flatMap_cons,List.getElem?_append_left (by rw [hk];omega)];simp
 | q :: L,i+1,p,c,h,hc=>by
  rw [List.flatMap_cons,List.getElem?_append_right (by rw [hk,Nat.succ_mul];omega),hk];rw [<-yF hk L i p c (by simpa using h) hc,Nat.succ_mul];congr 1;omega
theorem flat_get (hk:∀x,(C x).length=k):∀(L:List α) (j:Nat) (u:Value),(L.flatMap C)[j]?=some u->∃i p c,L[i]?=some p/\j=i*k+c/\c<k/\(C p)[c]?=some u
 | [],j,u,h=>by simp at h
 | p :: L,j,u,h=>by
  rw [List.flatMap_cons] at h;by_cases hj:j<k
  ·rw [List.getElem?_append_left (by rw [hk];exact hj)] at h;exact ⟨0,p,j,rfl,by omega,hj,h⟩
  ·rw [List.getElem?_append_right (by rw [hk];omega),hk] at h;obtain ⟨i,q,c,h1,h2,h3,h4⟩:=flat_get hk L _ u h;exact ⟨i+1,q,c,by simpa using h1,by rw [Nat.succ_mul];omega,h3,h4⟩
theorem J5 {base n:Nat} {a:Option Addr} {cap:Nat} (hk:∀x,(C x).length=k) (h0:0<k) (h:w.ownsRow base t k (.slice a n cap) L.length (L.flatMap C)):Lie k C w a L/\n=L.length/\n<=cap/\cap<=maxLen:=by
 obtain ⟨hl,hr⟩:=h;rcases hr with ⟨hv,h1⟩ | ⟨b,cap',cur,hv,_,hg,hcp,hcm,_,htake⟩
 ·cases hv
  exact ⟨.inl (List.eq_nil_of_length_eq_zero h1),h1.symm,by omega,by unfold maxLen;omega⟩
 ·cases hv
  refine ⟨.inr ⟨b,0,rfl,(Array.getElem?_eq_some_iff.1 hg).1,fun i p hp c u hu=> ?_⟩,rfl,hcp,hcm⟩;have hi:i<L.length:=(List.getElem?_eq_some_iff.1 hp).1;have hc:c<k:=by have:=(List.getElem?_eq_some_iff.1 hu).1;rw [hk] at this;exact this
  have h1:=yF hk L i p c hp hc;have hlt:i*k+c<L.length*k:=by
   have:(i+1)*k<=L.length*k:=Nat.mul_le_mul_right k hi;rw [Nat.succ_mul] at this;omega
  rw [hu,<-htake,List.getElem?_take,if_pos hlt] at h1;rw [cell_of_row w b _ cur _ _ hg,Nat.zero_add,<-h1,Array.getElem?_toList]
theorem Gz (hk:∀x,(C x).length=k) {a:Option Addr} (h:Lie k C w a L):L.length=0\/∃ad,a=some ad/\∀j u,(L.flatMap C)[j]?=some u->w.cell? (ad.add j)=some u:=by
 rcases h with h | ⟨b,off,ha,hlt,hc⟩
 ·exact .inl (by rw [h];rfl)
 ·refine .inr ⟨_,ha,fun j u hj=> ?_⟩;obtain ⟨i,p,c,h1,rfl,h3,h4⟩:=flat_get hk L j u hj;rw [Addr.add_lit,<-Nat.add_assoc];exact hc i p h1 c u h4
structure Gath (t:TypeId) (k:Nat) (C:α->List Value) (R:World->α->Prop) (w0:World) (L:List α) (v:Value) (w:World):Prop where
 own:w.ownsRow w0.heap.size t k v L.length (L.flatMap C)
 low:Below w0.heap.size w0 w
 each:∀p∈L,Kept (fun W=>R W p) v w
theorem Gath.nil (w:World):Gath t k C R w [] (.slice none 0 0) w:=⟨World.ownsRow_nil _ _ _ _,Below.refl _ _,fun p hp=>by cases hp⟩
theorem Gath.later (h:Gath t k C R w0 L v w) (hb:Below w.heap.size w w'):Gath t k C R w0 L v w':=
 ⟨bT h.own (fun g hg=>hb.block g (World.ownsRow.lt h.own g hg).2),h.low.trans (hb.mono h.low.size),fun p hp=>(h.each p hp).later hb⟩
theorem Gath.of {w1:World} (h:Gath t k C R w1 L v w) (h0:Below w0.heap.size w0 w1):Gath t k C R w0 L v w:=by
 refine ⟨⟨h.own.1, ?_⟩,h0.trans (h.low.mono h0.size),h.each⟩;rcases h.own.2 with h3 | ⟨g,cap,cur,hv,hg,hr⟩
 ·exact .inl h3
 ·exact .inr ⟨g,cap,cur,hv,Nat.le_trans h0.size hg,hr⟩
theorem Gath.form (hk:∀x,(C x).length=k) (h0:0<k) (h:Gath t k C R w0 L v w):∃a c,v=.slice a L.length c/\Lie k C w a L/\L.length<=c/\c<=maxLen:=by
 obtain ⟨a,c,rfl,hc⟩:=aA h.own;obtain ⟨h1,_,h2,h3⟩:=J5 hk h0 h.own;exact ⟨a,c,rfl,h1,h2,h3⟩
theorem iJ {P:Program} {ops:Array Oper} {rest:List Oper} {o:Oper} {a:Act} {Q:Exit->Act->World->Prop} (hgd:o.guard=none) (s x:Operand) (tt:TypeId)
  (ho:o.op=.call { callee:=.builtin .append,args:=#[s,x],argTypes:=#[tt,tt]}) {i:TypeInfo} {z:Value} {bytes:Nat} (ht:P.underlying tt=some (.slice t)) (hi:P.info? t=some i) (hz:i.zero=some z)
  (hsize:i.size=k) (hby:i.bytes=bytes) (hzs:z.cells.size=k) (h0:0<k) (hb64:bytes<=100) (hk:∀x,(C x).length=k) (h1:∀x,∀u∈C x,u.oneCell'=true)
  (M:List α) (hs:a.eval s=v) (ap:Option Addr) (c:Nat) (hx:a.eval x=.slice ap M.length c) (h:Hid (Gath t k C R w0 L v w)) (hM:Hid (Lie k C w ap M)) (hR:Hid (∀p∈M,Kept (fun W=>R W p) v w)) (hn:Hid (L.length+M.length<=1000000))
  (hq:∀v' w',Hid (Gath t k C R w0 (L++M) v' w')->Hid (w.grownBy w' v.ownBlock)->wpList P ops Q rest (a.put o.dst v') w'):wpList P ops Q (o :: rest) a w:=by
 have hL:=hn.o;have hG:=h.o;by_cases hm:M=[]
 ·subst hm;obtain ⟨bp,cp,rfl,hcp⟩:=aA hG.own;have hsrc:Src P i.size tt (.slice ap 0 c) 0 [] w:=by
   exact t130
  have hrun:=run_append_nothing w tt tt o.type t i ht hi bp L.length cp hcp _ hsrc;refine wpList_plain hgd fun K hK=> ?_
  unfold Oper.wp;simp only [List.length_nil] at hx;simp [execOp,ho,resolve,invoke,builtin,hs,hx,hrun,Result.andThen];exact hK _ _ (hq _ w (hid (by rw [List.append_nil];exact hG)) (hid (lY _ _)))
 ·rcases Gz hk hM.o with h2 | ⟨ad,rfl,hc⟩
  ·exact absurd (List.eq_nil_of_length_eq_zero h2) hm
  ·refine wpList_append_own_at w hgd s x tt ho w0.heap.size t i z k bytes ht hi hz hsize hby hzs h0 v L.length (L.flatMap C) hs hG.own ad M.length c (M.flatMap C) hx (flat_length hk M) hc
    (fun u hu=>by obtain ⟨p,_,hp⟩:=List.mem_flatMap.1 hu;exact h1 p u hp) (by unfold maxLen;omega)
    (Nat.le_trans (Nat.mul_le_mul hL hb64) om_) hG.low.size ?_
   intro v' w' h2 h3 _ h5
   have h6:v'.ownBlock=v.ownBlock\/∀g,v'.ownBlock=some g->w.heap.size<=g:=by
    rcases h5 with h5 | h5
    ·exact .inl h5
    ·exact .inr fun g hg=>by rw [h5] at hg;cases hg;exact Nat.le_refl _
   refine hq v' w' (hid ⟨by rw [List.flatMap_append,List.length_append];exact h2,hG.low.grown h3 hG.low.size (fun g hg=>(World.ownsRow.lt hG.own g hg).1),fun p hp=> ?_⟩) (hid h3)
   rcases List.mem_append.1 hp with hp | hp
   ·exact (hG.each p hp).grown h3 h6
   ·exact (hR.o p hp).grown h3 h6
end
end
namespace typing
open Go.RowKit schema
open field (ak)
theorem sG {w:World} {x:Option Addr} {v:Int} {G:List Fm} (h:FmL w x G) (hr:Right v (forms G)):Small w G:=by
 refine ⟨by have:=hr.2.1;rw [aF] at this;omega,fun p hp=>⟨(h.2 p hp).rf, ?_⟩⟩;have:=(hr.2.2.1 p.p (List.mem_map_of_mem hp)).2.1.2;have h2:p.p.2.length=p.fL.length:=rfl;omega
structure Al (S:Nat) (v:Int) (x:Option Addr) (xc:Nat) (G:List Fm) (w wr:World):Prop where
 box:Block wr S 24 (zS v x G.length xc)
 res:Block wr (S+1) 24 [.int .i64 0,.slice none 0 0]
 fml:FmL wr x G
 far:Far (S+2) x G
 small:G.length<=40/\∀p∈G,p.fL.length<=40
 below:Below S w wr
theorem Al.later {S:Nat} {v:Int} {x:Option Addr} {xc:Nat} {G:List Fm} {w wr w':World} (h:Al S v x xc G w wr) (hb:Below wr.heap.size wr w'):Al S v x xc G w w':=
 ⟨h.box.later hb,h.res.later hb,h.fml.below hb,h.far,h.small,h.below.trans (hb.mono (by have:=h.box.lt;omega))⟩
end typing
namespace step
open Go.RowKit
theorem kE {o:Oper} {a:Act} {w:World} {x y:Operand} {b off len cap i:Nat} (ho:o.op=.indexAddr 25 x y) (hi:i<len) (hx:a.eval x=.slice (some ⟨b,off,none⟩) len cap:=by kernel_rfl) (hy:a.eval y=.int .i64 (i:Int):=by kernel_rfl):
  (execOp a.eval o).run prog w=.ok (.value (.pointer (some ⟨b,off+i*16,none⟩))) w:=by
 unfold execOp;rw [ho];simp only [hx,hy];go_simp
theorem step_range {w w':World} {a:Option Addr} {L:List St} (h:StL w a L) (hb:Below w.heap.size w w') {k:Nat} (hk:k<L.length):
  ∃b off p,a=some ⟨b,off,none⟩/\b<w'.heap.size/\L[k]?=some p/\Lists w' p.s p.ta p.la/\w'.rangeAt b (off+k*16) p.C:=by
 have h':=h.below hb;rcases h'.row with rfl | ⟨b,off,ha,hlt,hc⟩
 ·simp at hk
 ·have hp:=List.getElem?_eq_getElem hk;exact ⟨b,off,_,ha,hlt,hp,h'.each _ (List.mem_of_getElem? hp),fun j v hj=>hc k _ hp j v hj⟩
end step
namespace whole
open Go Go.RowKit schema typing turn
open field (Va bytesOf)
open record (dN Has fin)
open item (It)
def fI (F:List schema.Form) (x:Int):Int:=match named F x with | some _=>x | none=>0
theorem zQ (v:Int) (a:Option Addr) (cc:Nat) (F:List Fm) (x:Int) (w:World) (h:FmL w a F) (hF:Small w F):
  Calls prog 53 #[zS v a F.length cc,.int .i64 x] w fun e w'=>∃fa fc kn,e=.returned (.tuple #[.agg #[.int .i64 (fI (forms F) x),.slice fa (fieldsOf (forms F) x).length fc],.bool kn])/\w'.ownsRow w.heap.size 52 5 (.slice fa (fieldsOf (forms F) x).length fc) (fieldsOf (forms F) x).length (fdV (fieldsOf (forms F) x))/\Below w.heap.size w w':=by
 have k:=jd v a cc F ⟨0,x,0,0,0,0,0,step.fd0,step.va0,[],[]⟩ _ rfl w h hF;have e:(aC (forms F) ⟨0,x,0,0,0,0,0,step.fd0,step.va0,[],[]⟩).fi=fI (forms F) x/\(aC (forms F) ⟨0,x,0,0,0,0,0,step.fd0,step.va0,[],[]⟩).L=fieldsOf (forms F) x:=by
  unfold aC fI fieldsOf;cases hn:named (forms F) x with
  | none=>exact ⟨rfl,rfl⟩
  | some p=>exact ⟨rfl,rfl⟩
 rw [e.1,e.2] at k;exact k.mono fun _ _ ⟨fa,fc,he,ho,hb⟩=>⟨fa,fc,_,he,ho,hb⟩
theorem BI {w:World} {F:List Fm} (hF:Small w F) (x:Int):(fieldsOf (forms F) x).length<=40:=by
 have:=gY hF ⟨0,x,0,0,0,0,0,step.fd0,step.va0,[],[]⟩;unfold aC at this;unfold fieldsOf;cases hn:named (forms F) x with
 | none=>simp
 | some p=>simp only [hn] at this;exact this
theorem Jb (F:List schema.Form) (x:Int) (xs:List Nat):dN (fI F x) (fieldsOf F x) xs=dN x (fieldsOf F x) xs:=by
 unfold fI fieldsOf;cases hn:named F x with
 | some p=>rfl
 | none=>
  have h:∀i:Int,¬Fine (i,[]):=fun i h=>by have:=h.2.1.1;simp at this
  simp only;unfold dN;rw [if_pos (h _),if_pos (h _)]
theorem yS {F:List schema.Form} {x:Int} {xs:List Nat} (h:(dN x (fieldsOf F x) xs).2.2=0):dN x (fieldsOf F x) xs=(x,(dN x (fieldsOf F x) xs).2.1,0):=by
 have h1:(dN x (fieldsOf F x) xs).1=x:=by
  unfold dN at h ⊢;split
  ·rename_i hf;rw [if_pos hf] at h;simp at h
  ·rename_i hf;rw [if_neg hf] at h;unfold fin at h ⊢;split
   ·rename_i k;rw [if_pos k] at h;simp only at h;exact absurd h k
   ·rename_i k;rw [if_neg k] at h;split
    ·rename_i k2;rw [if_pos k2] at h;simp at h
    ·rfl
 exact Prod.ext h1 (Prod.ext rfl h)
end whole
namespace item
open Go.RowKit
def Finds (o:Option It) (w:World) (e:Ending) (w':World):Prop:=e=.returned (.tuple #[.string (data o),.bool o.isSome])/\Below w.heap.size w w'
end item
namespace item
open Go.RowKit
def Row (w0:World) (L:List It) (v:Value) (w:World):Prop:=w.ownsRow w0.heap.size 43 2 v L.length (itV L)/\Below w0.heap.size w0 w
theorem Row.nil (w:World):Row w [] (.slice none 0 0) w:=⟨World.ownsRow_nil _ _ _ _,Below.refl _ _⟩
theorem Row.later {w0 w w':World} {L:List It} {v:Value} (h:Row w0 L v w) (hb:Below w.heap.size w w'):Row w0 L v w':=
 ⟨bT h.1 (fun g hg=>hb.block g (World.ownsRow.lt h.1 g hg).2),h.2.trans (hb.mono h.2.size)⟩
theorem Row.form {w0 w:World} {L:List It} {v:Value} (h:Row w0 L v w):∃a c,v=.slice a L.length c/\Its w a L/\L.length<=c/\c<=maxLen:=by
 obtain ⟨a,c,rfl,hc⟩:=aA h.1;obtain ⟨h1,_,h2,h3⟩:=nY h.1;exact ⟨a,c,rfl,h1,h2,h3⟩
theorem Row.of {w0 w1 w2:World} {L:List It} {v:Value} (h:w2.ownsRow w1.heap.size 43 2 v L.length (itV L)) (hb:Below w1.heap.size w1 w2) (h0:Below w0.heap.size w0 w1):Row w0 L v w2:=by
 refine ⟨⟨h.1, ?_⟩,h0.trans (hb.mono h0.size)⟩;rcases h.2 with h3 | ⟨g,cap,cur,hv,hg,hr⟩
 ·exact .inl h3
 ·exact .inr ⟨g,cap,cur,hv,Nat.le_trans h0.size hg,hr⟩
theorem Row.lists {w0 w:World} {L:List It} {v:Value} (h:Row w0 L v w):Lists L w0 (.returned v) w:=by
 obtain ⟨a,c,rfl,_⟩:=h.form;exact ⟨a,c,rfl,h.1,h.2⟩
theorem qG {ops:Array Oper} {rest:List Oper} {o:Oper} {a:Act} {Q:Exit->Act->World->Prop} {w0 wr:World} (hgd:o.guard=none) (s x:Operand)
  (ho:o.op=.call { callee:=.builtin .append,args:=#[s,x],argTypes:=#[26,26]})
  (L:List It) (p:It) (v:Value) (hs:a.eval s=v) (hx:a.eval x=.slice (some ⟨wr.heap.size,0,none⟩) 1 1) (h:Hid (Row w0 L v wr)) (hk:Hid (L.length<=8589934592))
  (hq:∀v' w',Hid (Row w0 (L++[p]) v' w')->Hid (∀g,v.ownBlock≠some g->g<wr.heap.size->w'.heap[g]?=wr.heap[g]?)->wpList prog ops Q rest (a.put o.dst v') w'):wpList prog ops Q (o :: rest) a (wr.alloc (.cells #[.int .u32 (p.key:Nat),.string p.data] 43)):=by
 have hL:=hk.o;obtain ⟨h0,hb⟩:=h.o;have h1:=h.o.later (ak wr (.cells #[.int .u32 (p.key:Nat),.string p.data] 43));refine qH hgd s x ho w0.heap.size v L.length L hs h1.1 (some ⟨wr.heap.size,0,none⟩) 1 1 [p] hx rfl (.inr ⟨wr.heap.size,0,rfl,by simp, ?_⟩) om_ (h1.2.size) ?_
 ·intro i q hq;obtain ⟨rfl,rfl⟩:i=0/\p=q:=by
   cases i with
   | zero=>exact ⟨rfl,by simpa using hq⟩
   | succ i=>simp at hq
  have hB:=Block.new wr 43 [.int .u32 (p.key:Nat),.string p.data];exact ⟨hB.cell 0,hB.cell 1⟩
 ·intro v' w' h2 h3;refine hq v' w' (hid ⟨by rw [List.length_append];exact h2, ?_⟩) (hid (fun g hg hl=> ?_))
  ·exact h1.2.grown h3 h1.2.size (fun k hk=>(World.ownsRow.lt h1.1 k hk).1)
  ·rw [h3.block g (by simp;omega) (fun e=>hg e.symm)];exact Below.heap_alloc wr _ g hl
theorem lG {ops:Array Oper} {rest:List Oper} {o:Oper} {a:Act} {Q:Exit->Act->World->Prop} {w0 wr:World} (hgd:o.guard=none) (s x:Operand)
  (ho:o.op=.call { callee:=.builtin .append,args:=#[s,x],argTypes:=#[26,26]})
  (L:List It) (p:It) (v:Value) (hs:a.eval s=v) (hx:a.eval x=.slice (some ⟨wr.heap.size,0,none⟩) 1 1) (h:Hid (Row w0 L v wr)) (hk:Hid (L.length<=8589934592))
  (hq:∀v' w',Hid (Row w0 (L++[p]) v' w')->wpList prog ops Q rest (a.put o.dst v') w'):wpList prog ops Q (o :: rest) a (wr.alloc (.cells #[.int .u32 (p.key:Nat),.string p.data] 43)):=
 qG hgd s x ho L p v hs hx h hk (fun v' w' h1 _=>hq v' w' h1)
end item
section
open Go Go.Sort Go.RowKit Go.Shelf Go.Lib
section
variable {α:Type} [Inhabited α] {t:TypeId} {k:Nat} {C:α->List Value} {R:World->α->Prop} {w0 w:World} {L:List α} {n cap g:Nat}
theorem zM (hk:∀x,(C x).length=k) (L:List α):(flatK C k L.toArray).toList=L.flatMap C:=by
 apply List.ext_getElem?;intro j;unfold flatK;by_cases hj:j<L.length*k
 ·have h0:0<k:=by
   rcases Nat.eq_zero_or_pos k with h | h
   ·subst h;omega
   ·exact h
  have hi:j / k<L.length:=(Nat.div_lt_iff_lt_mul h0).2 hj
  have h1:=yF hk L (j / k) _ (j % k) (List.getElem?_eq_getElem hi) (Nat.mod_lt _ h0)
  rw [Nat.mul_comm,Nat.div_add_mod] at h1
  rw [h1]
  have hm:j % k<(C L[j / k]).length:=by rw [hk];exact Nat.mod_lt _ h0
  simp [hj,hi,hm]
 ·rw [List.getElem?_eq_none (by simp;omega),List.getElem?_eq_none (by rw [flat_length hk];omega)]
theorem Gath.holds (hk:∀x,(C x).length=k) (h:Gath t k C R w0 L (.slice (some ⟨g,0,none⟩) n cap) w):HoldsK C k w g 0 L.toArray/\g<w.heap.size:=by
 rcases h.own.2 with ⟨hv,_⟩ | ⟨g',cap',cur,hv,_,hg,_,_,_,htake⟩
 ·cases hv
 ·cases hv
  refine ⟨fun j hj=> ?_,(Array.getElem?_eq_some_iff.1 hg).1⟩;have hs:(flatK C k L.toArray).size=L.length*k:=by simp [flatK]
  have h1:(cur.toList.take (L.length*k))[j]?=(flatK C k L.toArray).toList[j]?:=by rw [htake,zM hk]
  rw [List.getElem?_take_of_lt om_] at h1;refine ⟨?_,by simp [World.frozen?,hg]⟩;rw [cell_of_row w g _ cur _ _ hg,Nat.zero_add,<-Array.getElem?_toList,h1,Array.getElem?_toList,Array.getElem?_eq_getElem hj,getElem!_pos _ j hj];rfl
theorem Gath.sorted (hk:∀x,(C x).length=k) (h:Gath t k C R w0 L (.slice (some ⟨g,0,none⟩) n cap) w) {M:List α} (hp:M.Perm L) (q:Nat) (os:Array Obj):
  Gath t k C R w0 M (.slice (some ⟨g,0,none⟩) n cap) (sortWorldK C k w g 0 q M.toArray os):=by
 have hl:M.length=L.length:=hp.length_eq;have hgb:w.grownBy (sortWorldK C k w g 0 q M.toArray os) (some g):=by
  refine ⟨rfl,rfl,rfl,by simp [sortWorldK,putRowK],fun i hi hne=> ?_⟩;unfold sortWorldK putRowK;rw [heap_grow_old _ _ (by simpa using hi)];have:g≠i:=fun e=>hne (by rw [e])
  simp [putRow,mapBlock,Sort.ahead,Array.getElem?_modify,this]
 have hlow:=(World.ownsRow.lt h.own g rfl).1;refine ⟨?_,h.low.grown hgb h.low.size (fun i hi=>by cases hi;exact hlow),fun p hp'=> ?_⟩
 ·rcases h.own.2 with ⟨hv,_⟩ | ⟨g',cap',cur,hv,hb,hg,h1,h2,h3,htake⟩
  ·cases hv
  ·cases hv
   refine ⟨flat_length hk M,.inr ⟨g,cap,putCells id 0 (flatK C k M.toArray) cur,by rw [hl],hb, ?_,by rw [hl];exact h1,h2,by simpa [putCells] using h3, ?_⟩⟩
   ·have hg':g<w.heap.size:=(Array.getElem?_eq_some_iff.1 hg).1;unfold sortWorldK putRowK;rw [heap_grow_old _ _ (by simpa using hg')];simp [putRow,mapBlock,Sort.ahead,Array.getElem?_modify,hg,onCells]
   ·apply List.ext_getElem?;intro j;have hs:(flatK C k M.toArray).size=M.length*k:=by simp [flatK]
    have hlk:L.length*k<=cap*k:=Nat.mul_le_mul_right k h1;by_cases hj:j<M.length*k
    ·have hj2:j<(flatK C k M.toArray).size:=by omega
     have hjc:j<cur.size:=by rw [h3];rw [hl] at hj;omega
     rw [List.getElem?_take_of_lt hj,Array.getElem?_toList,<-zM hk M,Array.getElem?_toList,Array.getElem?_eq_getElem hj2];simp [putCells,hjc,hs,hj]
    ·rw [List.getElem?_take_eq_none om_,List.getElem?_eq_none (by rw [flat_length hk];omega)]
 ·exact (h.each p (hp.mem_iff.1 hp')).grown hgb (.inl rfl)
def Sorts (t:TypeId) (k:Nat) (C:α->List Value) (R:World->α->Prop) (lt:α->α->Bool) (w0:World) (L:List α) (v:Value) (e:Ending) (w':World):Prop:=
 e=.returned (.tuple #[])/\∃M:List α,M.Perm L/\M.Pairwise (fun a b=>lt b a=false)/\Gath t k C R w0 M v w'
theorem AU {P:Program} {ρ:Ren} (S:SlLaysF0.n6 P ρ) (aE:∀w,(isAgg (ρ.t 24)).run P w=.ok true w) (zE:∀w,(Go.sizeOf (ρ.t 24)).run P w=.ok k w) (hk:∀x,(C x).length=k) (h1:∀x,∀v∈C x,v.oneCell'=true) (cf:α->α->Int) (hO:SWO (ltOf cf)) (f:Nat)
  (eg:∀args w,(callFunc f args).run P w=.ok (.enter f args) w) (hc:∀x y W,Calls P f #[.agg (C x).toArray,.agg (C y).toArray] W fun e w'=>e=.returned (.int .i64 (cf x y))/\∃q os',w'=grow (W.drewN q) os')
  (v:Value) (h:Gath t k C R w0 L v w) (hn:L.length<=1000000):Calls P (ρ.f 6) #[v,.func (.func f) #[] #[]] w (Sorts t k C R (ltOf cf) w0 L v):=by
 rcases h.own.2 with ⟨rfl,h0⟩ | ⟨g,cap,cur,rfl,_⟩
 ·refine (AnyF.slices_SortFunc_none S none 0 _ w).mono ?_;rintro e w' ⟨rfl,rfl⟩;exact ⟨rfl,L,.refl _,by rw [List.eq_nil_of_length_eq_zero h0];exact List.Pairwise.nil,h⟩
 ·obtain ⟨hH,hb⟩:=h.holds hk;have hcon:=AnyQ.slices_SortFunc S k aE zE C hk h1 cf hO f #[] g 0 cap L.toArray w eg (fun _ _ _ _ x y=>hc x y _) hH hb (by simp;omega);rw [show L.toArray.size=L.length from rfl] at hcon;refine hcon.mono ?_;rintro e w' ⟨rfl,d',q,os,hp,hs,rfl⟩;have hl:d'.size=L.length:=hp.1;have hpm:d'.toList.Perm L:=by
   have:=hp.2.2;rw [show d'.extract 0 L.length=d' by rw [<-hl,Array.extract_size],show L.toArray.extract 0 L.length=L.toArray by rw [show L.length=L.toArray.size from rfl,Array.extract_size]] at this;simpa using this
  refine ⟨rfl,d'.toList,hpm, ?_, ?_⟩
  ·rw [List.pairwise_iff_getElem];intro i j hi hj hij;have:=hs i j (Nat.zero_le _) hij (by simpa [hl] using hj);simp only [Array.length_toList] at hi hj;rw [getElem!_pos d' i hi,getElem!_pos d' j hj] at this;simpa using this
  ·have:=h.sorted hk hpm q os;simpa using this
end
end
namespace turn
open Go.RowKit schema step typing
open pair (inv)
open field (Va bytesOf)
open record (aY Has)
def lV (f:field.Fd) (lost:ByteArray):Va×Int:=if (f.take (bytesOf lost)).e=0/\(f.take (bytesOf lost)).c=(bytesOf lost).length then (⟨(f.take (bytesOf lost)).n,strOf (f.take (bytesOf lost)).s⟩,0) else (va0,12)
def JH (j:Int) (q:List Va×Int):Int×List Va×Int:=(if q.2=0 then j else 0,q.1,q.2)
theorem I7 {r:Sp} {k:Nat} {V:List Va} (h:(fE r k V).2≠0):(fE r k V).1=[]:=by
 unfold fE at h ⊢;split at h <;> rename_i h1
 ·simp at h
 rw [if_neg h1];split at h <;> rename_i h2
 ·simp at h
 rw [if_neg h2];split at h <;> rename_i h3
 ·simp at h
 rw [if_neg h3];by_cases h4:r.op=23
 ·rw [if_pos h4] at h ⊢;split at h <;> rename_i q <;> simp_all
 rw [if_neg h4] at h ⊢;by_cases h5:r.op=24
 ·rw [if_pos h5] at h ⊢;by_cases q:((V.getD k va0).n - r.b).tmod r.a=0/\r.f.Has (vn (((V.getD k va0).n - r.b).tdiv r.a))
  ·rw [if_pos q] at h;exact absurd rfl h
  ·rw [if_neg q]
 rw [if_neg h5] at h ⊢;by_cases h6:r.op=25
 ·rw [if_pos h6] at h ⊢;split at h <;> rename_i q <;> simp_all
 rw [if_neg h6] at h ⊢;by_cases h7:r.op=26
 ·rw [if_pos h7] at h ⊢;split at h <;> rename_i q <;> simp_all
 rw [if_neg h7] at h ⊢;by_cases h8:r.op=29
 ·rw [if_pos h8]
 ·rw [if_neg h8] at h;simp at h
def mQ (F:List schema.Form) (s:Sp) (z:Va):Sp:={ inv F s with v:=if s.op=2 then z else (inv F s).v}
theorem Dp {F:List schema.Form} {s:Sp} (h:s.op=2):(inv F s).v=s.v/\(inv F s).op=22/\(inv F s).f=jH F s:=by
 have hf:pair.bV F s.fm=fieldsOf F s.fm:=rfl;unfold inv;rw [if_neg om_,if_neg om_,if_neg om_,if_pos h];exact ⟨rfl,rfl,by unfold jH atI;rw [hf]⟩
theorem Kt {F:List schema.Form} {s:Sp} (h:1<=s.op/\s.op<=10):(inv F s).op=s.op+20:=by
 unfold inv;by_cases h9:s.op=9
 ·rw [if_pos h9,h9];rfl
 rw [if_neg h9];by_cases h10:s.op=10
 ·rw [if_pos h10,h10];rfl
 rw [if_neg h10];by_cases h1:s.op=1
 ·rw [if_pos h1,h1];rfl
 rw [if_neg h1];by_cases h2:s.op=2
 ·rw [if_pos h2,h2];rfl
 rw [if_neg h2];by_cases h3:s.op=3
 ·rw [if_pos h3,h3];rfl
 rw [if_neg h3];by_cases h4:s.op=4
 ·rw [if_pos h4,h4];rfl
 rw [if_neg h4];by_cases h5:s.op=5
 ·rw [if_pos h5,h5];rfl
 rw [if_neg h5];by_cases h6:s.op=6
 ·rw [if_pos h6,h6];rfl
 rw [if_neg h6];by_cases h7:s.op=7
 ·rw [if_pos h7,h7];rfl
 rw [if_neg h7,show s.op=8 by omega];rfl
theorem Bj {v:Int} {F:List schema.Form} {s:Sp} {j:Int} {V:List Va} (h:(on v F s).2.2=0) (hr:fH (on v F s).2.1 j V) (hj:j=s.fm) (lost:ByteArray) (has:Bool):
  (s.op=2->has=true->(lV (jH F s) lost).2≠0->backR v F s j V lost has=(0,[],(lV (jH F s) lost).2))/\
  ∀z,(s.op=2->has=true->lV (jH F s) lost=(z,0))->(s.op=2->has=false->z=s.v)->
   ∃k,CanU (mQ F s z) (fieldsOf (on v F s).2.1 j) V k (V.getD k va0)/\backR v F s j V lost has=JH j (fE (mQ F s z) k V):=by
 obtain ⟨L',hn,hh⟩:=hr;have hr:fH (on v F s).2.1 j V:=⟨L',hn,hh⟩;have hf':=aZ hn;have hb:backR v F s j V lost has=if (bwd v F s V lost has).2≠0 then (0,[],(bwd v F s V lost has).2) else (j,(bwd v F s V lost has).1,0):=by
  unfold backR;rw [if_neg (by simpa using h),if_neg (by simpa using hr),if_neg (by simpa using hj)]
 have hlen:=hh.2.2.length;have h10:s.op≠10:=fun e=>by
  obtain ⟨_,_,q⟩:=lg h e;rw [<-hj,hn] at q;cases q
 by_cases h9:s.op=9
 ·refine ⟨fun e=>by omega,fun z _ _=>⟨0, ?_, ?_⟩⟩
  ·have hi:inv F s=⟨29,s.fm,0,0,0,0,0,fd0,va0,[],[]⟩:=by unfold inv;rw [if_pos h9]
   unfold mQ;rw [if_neg om_,hi,hf'];exact ⟨hlen.symm,hh.1.2.1,rfl,by simp,uK hh.2.2 0,by simp,by simp,by simp,by simp⟩
  ·have hi:inv F s=⟨29,s.fm,0,0,0,0,0,fd0,va0,[],[]⟩:=by unfold inv;rw [if_pos h9]
   have hbs:mQ F s z=⟨29,s.fm,0,0,0,0,0,fd0,va0,[],[]⟩:=by unfold mQ;rw [if_neg om_,hi]
   have hw:bwd v F s V lost has=([],20):=by unfold bwd;rw [if_pos h9]
   rw [hb,hbs,DN rfl,hw];rfl
 obtain ⟨L,hF⟩:=Dk h h9 h10;have hL:L'=fields (aC F s):=by have:=hF.there;rw [<-hj,hn] at this;cases this;rfl
 subst hL;have hbv:∀G,s.op=2->has=true->aV s (jH F s) G lost has=lV (jH F s) lost:=fun G e1 e2=>by
  unfold aV lV;rw [if_pos e1,if_pos e2]
 refine ⟨fun e1 e2 e3=> ?_,fun z hz1 hz2=> ?_⟩
 ·rw [hb];have:(bwd v F s V lost has).2=(lV (jH F s) lost).2:=by
   unfold bwd;rw [if_neg h9,if_neg om_,if_neg om_,hbv _ e1 e2,if_pos e3]
  rw [this,if_pos e3]
 ·obtain ⟨k,C,hu⟩:=Ji h hF h9 h10 hh.2.2 lost has z (fun e1 G=>by
   cases hq:has with
   | true=>rw [<-hq,hbv G e1 hq,hz1 e1 hq]
   | false=>unfold aV;rw [if_pos e1,if_neg si_,hz2 e1 hq])
  refine ⟨k,by rw [hf'];exact C, ?_⟩
  rw [hb,hu]
  show _=JH j (fE (mQ F s z) k V)
  unfold JH mQ
  by_cases hE:(fE { inv F s with v:=if s.op=2 then z else (inv F s).v} k V).2=0
  ·rw [if_neg (by simpa using hE),if_pos hE,hE]
  ·rw [if_pos hE,if_neg hE,I7 hE]
end turn
namespace field
open Go.RowKit cut
theorem aJ {B:Nat} {a w:World} (h:Below B a w):Below B a w.drew:=below_drewN h 1
theorem own_base {w:World} {B base e size n:Nat} {v:Value} {xs:List Value} (h:w.ownsRow base e size v n xs) (hB:B<=base):w.ownsRow B e size v n xs:=by
 refine ⟨h.1, ?_⟩;rcases h.2 with h0 | ⟨g,cap,cur,h1,h2,h3⟩
 ·exact .inl h0
 ·exact .inr ⟨g,cap,cur,h1,by omega,h3⟩
def qI (xs:List Nat) (E:Int) (w:World) (e:Ending) (w':World):Prop:=∃u,e=.returned (.tuple #[u,.int .i64 E])/\w'.ownsRow w.heap.size 5 1 u xs.length (u8v xs)/\Below w.heap.size w w'
theorem sZ (f:Fd) (v:Va) (w:World):Calls prog 127 #[zF f,zV v] w (qI (f.bZ v) (f.lu v) w):=by
 have HW:=hid (WV.all f v w);have cr:=aj (aX f (WV f v w)) (w0:=WV f v w) (Below.refl _ _);have ch:=fun W (hb:Below (WV f v w).heap.size (WV f v w) W)=>aj (gZ f v W) hb
 unfold qI;by_cases h:f.Right
 ·rw [decide_eq_true h] at cr;by_cases hh:f.Has v
  ·simp only [decide_eq_true hh] at ch;have hE:f.lu v=0:=by unfold Fd.lu;rw [if_neg (show ¬¬f.Right from fun k=>k h),if_neg (show ¬¬f.Has v from fun k=>k hh)]
   rw [hE];have hL:f.bZ v=if f.kind=4 then v.s.size :: bytesOf v.s else digits f.size (v.n - f.lo).toNat:=by unfold Fd.bZ;rw [if_neg (show ¬¬f.Has v from fun k=>k hh)]
   rw [hL];have hsp:=h.span;by_cases h4:f.kind=4
   ·rw [if_pos h4];have hs32:v.s.size<=32:=by obtain ⟨_,_,k⟩:=hh;omega
    have e4:(f.kind == 4)=true:=by rw [beq_iff_eq];exact h4
    have hbl:(v.s.size :: bytesOf v.s).length=1+v.s.size:=by rw [List.length_cons,bytesOf_length];omega
    have hbv:u8v (v.s.size :: bytesOf v.s)=[Value.int .u8 (v.s.size:Int)]++Lib.strCells v.s:=by rw [vH];rfl
    rw [hbl,hbv];obtain ⟨i0,hi,hz0,hz1,hz2⟩:=info_parts tV;have hwr:IntKind.u8.wrap (v.s.size:Int)=(v.s.size:Int):=IntWalk.u8_in _ om_;unfold WV at HW cr ch;clear h hh hE hL hsp h4 hbl hbv;go_enter func127,ntmps127;go_wp2_with (first
     | (go_at_call 153;(with_reducible refine cr.mono ?_);rintro e w1 ⟨rfl,hb1⟩;obtain ⟨hf1,hv1,hbw1⟩:=HW.o _ hb1)
     | (go_at_call 170;(with_reducible refine (ch _ hb1).mono ?_);rintro e w2 ⟨rfl,hb2⟩;obtain ⟨hf2,hv2,hbw2⟩:=HW.o _ hb2;have hlt:w.heap.size+1<w2.heap.size:=(by have:=hb2.size;simp at this;omega);have hrow:=World.ownsRow_lit (base:=w.heap.size) (e:=5) (size:=1) w2 #[.int .u8 (v.s.size:Int)] 1 hbw2.size (by unfold maxLen;omega) rfl)
     | (at_builtin;refine Lib.wpList_append_own_string _ rfl _ _ 91 9 rfl w.heap.size 5 i0 underlying91 underlying9 hi hz0 hz1 hz2 (.slice (some ⟨w2.heap.size,0,none⟩) 1 1) 1 [.int .u8 (v.s.size:Int)] rfl hrow v.s rfl (by unfold maxLen;omega) om_ (by simp;omega) ?_))
    intro u w3 ho hg hne;have hb3:Below w.heap.size w w3:=(hbw2.alloc hbw2.size _).grown hg (by simp;omega) (fun k hk=>by cases hk;exact hbw2.size);go_wp2;go_ret2;exact ⟨_,rfl,ho,hb3⟩
   ·rw [if_neg h4];have hs6:=Fd.AQ h h4;obtain ⟨_,⟨k1,k2⟩,_⟩:=hh;obtain ⟨N,hN⟩:∃N:Nat,v.n - f.lo=(N:Int):=⟨(v.n - f.lo).toNat,by omega⟩;have hNb:N<281474976710656:=by omega
    have hwN:IntKind.i64.wrap (v.n - f.lo)=(N:Int):=by rw [IntWalk.i64_in _ om_,hN]
    have e4:(f.kind == 4)=false:=by rw [beq_eq_false_iff_ne];exact h4
    have cs:=fun W (hb:Below (WV f v w).heap.size (WV f v w) W)=>aj (size_any f W) hb
    rw [hN,show ((N:Int)).toNat=N from rfl,digits_length];generalize f.size=sz at *;have cl:∀W,Below w.heap.size w W->Calls prog 182 #[.int .i64 (IntKind.i64.wrap (v.n - f.lo)),.int .i64 (sz:Int)] W (fun e w'=>∃u,e=.returned u/\w'.ownsRow w.heap.size 5 1 u sz (u8v (digits sz N))/\Below W.heap.size W w'):=fun W hb=>by
     rw [hwN];exact (vY N sz hNb hs6 W).mono fun _ _ ⟨u,h1,h2,h3⟩=>⟨u,h1,own_base h2 hb.size,h3⟩
    unfold WV at HW cr ch cs;clear h hE hL hsp h4 k1 k2 hwN hN;go_enter func127,ntmps127;go_wp2_with (first
     | (go_at_call 153;(with_reducible refine cr.mono ?_);rintro e w1 ⟨rfl,hb1⟩;obtain ⟨hf1,hv1,hbw1⟩:=HW.o _ hb1)
     | (go_at_call 170;(with_reducible refine (ch _ hb1).mono ?_);rintro e w2 ⟨rfl,hb2⟩;obtain ⟨hf2,hv2,hbw2⟩:=HW.o _ hb2))
    have hb2d:=aJ hb2;have hkd:=HW.o w2.drew hb2d;obtain ⟨hfd,hvd,hbwd⟩:=hkd;go_region_held3 (fun w'=>(w'.cell? ⟨w.heap.size,0,none⟩=some (.int .i64 f.id)/\w'.cell? ⟨w.heap.size,1,none⟩=some (.int .i64 f.kind)/\w'.cell? ⟨w.heap.size,2,none⟩=some (.int .i64 f.lo)/\w'.cell? ⟨w.heap.size,3,none⟩=some (.int .i64 f.hi)/\w'.cell? ⟨w.heap.size,4,none⟩=some (.int .i64 f.most))/\(w'.cell? ⟨w.heap.size+1,0,none⟩=some (.int .i64 v.n)/\w'.cell? ⟨w.heap.size+1,1,none⟩=some (.string v.s))) (first | assumption | go_keep) (first
     | (go_at_call 155;(with_reducible refine (cs _ hb2d).mono ?_);rintro e w3 ⟨rfl,hb3⟩;obtain ⟨hf3,hv3,hbw3⟩:=HW.o _ hb3)
     | (go_at_call 182;(with_reducible refine (cl _ hbw3).mono ?_);rintro e w4 ⟨u,rfl,ho,hb4⟩;have hb4':=hb3.trans (hb4.mono hb3.size);obtain ⟨hf4,hv4,hbw4⟩:=HW.o _ hb4'))
    go_wp2;go_ret2;exact ⟨_,rfl,ho,hbw4⟩
  ·simp only [decide_eq_false hh] at ch;have hE:f.lu v=16:=by unfold Fd.lu;rw [if_neg (show ¬¬f.Right from fun k=>k h),if_pos hh]
   have hL:f.bZ v=[]:=by unfold Fd.bZ;rw [if_pos hh]
   rw [hE,hL];unfold WV at HW cr ch;clear h hh hE hL;go_enter func127,ntmps127;go_wp2_with (first
    | (go_at_call 153;(with_reducible refine cr.mono ?_);rintro e w1 ⟨rfl,hb1⟩;obtain ⟨hf1,hv1,hbw1⟩:=HW.o _ hb1)
    | (go_at_call 170;(with_reducible refine (ch _ hb1).mono ?_);rintro e w2 ⟨rfl,hb2⟩;obtain ⟨hf2,hv2,hbw2⟩:=HW.o _ hb2))
   go_ret2;exact ⟨_,rfl,World.ownsRow_nil _ _ _ _,hbw2⟩
 ·rw [decide_eq_false h] at cr;have hE:f.lu v=2:=by unfold Fd.lu;rw [if_pos h]
  have hL:f.bZ v=[]:=by unfold Fd.bZ;rw [if_pos (fun k=>h k.1)]
  rw [hE,hL];unfold WV at HW cr ch;clear h hE hL;go_enter func127,ntmps127;go_wp2_with (go_at_call 153;(with_reducible refine cr.mono ?_);rintro e w1 ⟨rfl,hb1⟩;obtain ⟨hf1,hv1,hbw1⟩:=HW.o _ hb1);go_ret2;exact ⟨_,rfl,World.ownsRow_nil _ _ _ _,hbw1⟩
end field
end Go.Proofs.YtogkgbnpodojjaaGreat
