/- Contracts and lemmas that claims of this seat share: TypingKeep, TypingRef, TurnMath, InsertM, StepHas, ItemRight. Each says its own conditions. -/
import Derived.Test.YtogkgbnpodojjaaGreatCmWord
import Derived.Laws.Strings
import Derived.BigQuiet
import Derived.Test.YtogkgbnpodojjaaGreatCmE
import Derived.Test.YtogkgbnpodojjaaGreatCmF
import Derived.Test.YtogkgbnpodojjaaGreatCmJ
import Derived.Test.YtogkgbnpodojjaaGreatCmC
import Derived.Test.YtogkgbnpodojjaaGreatCmP
set_option linter.unusedVariables false
namespace Go.Proofs.YtogkgbnpodojjaaGreat
open Go.Proofs.Tryz
namespace typing
open Go.RowKit schema
theorem kZ (F:List schema.Form) (s:step.Sp):(aC F s).s=s:=by unfold aC;split <;> rfl
theorem Ee {c:Ch} (h:err c=0):found c=true:=by
 unfold err at h;by_cases hf:found c=false
 ·rw [if_pos hf] at h;cases h
 ·simpa using hf
theorem rO {F:List schema.Form} {s:step.Sp} (h:found (aC F s)=true) (h9:s.op≠9):∃p,named F s.fm=some p:=by
 unfold found at h;rw [kZ,if_neg h9] at h;cases hq:named F s.fm with
 | some p=>exact ⟨p,rfl⟩
 | none=>
  unfold aC at h;rw [hq] at h;by_cases h1:s.op=1\/s.op=10
  ·rw [if_pos h1] at h;cases h
  ·rw [if_neg h1] at h;exact absurd h si_
theorem Ku {α:Type} {F:List α} {p:α} (h:p∈F):∃j:Nat,F[j]?=some p:=List.mem_iff_getElem?.1 h
theorem zh {F:List schema.Form} {s:step.Sp} (hs:Sorted F) (h:err (aC F s)=0) {p:schema.Form} (hp:p∈F) (hn:p.1≠s.fm):p∈applied F (aC F s):=by
 unfold applied;rw [kZ];by_cases h9:s.op=9
 ·rw [if_pos h9];have:p∈F.take (pos F s.fm)++F.drop (pos F s.fm):=by rw [List.take_append_drop];exact hp
  rcases List.mem_append.1 this with h1 | h1
  ·exact List.mem_append.2 (.inl h1)
  ·exact List.mem_append.2 (.inr (List.mem_append.2 (.inr h1)))
 rw [if_neg h9];obtain ⟨q,hq⟩:=rO (Ee h) h9;obtain ⟨hqm,hqf⟩:=bH hq;have hat:=pos_at hs hqm;rw [hqf] at hat;obtain ⟨j,hj⟩:=Ku hp;have hjn:j≠pos F s.fm:=fun e=>by rw [e,hat] at hj;cases hj;exact hn hqf
 by_cases h10:s.op=10
 ·rw [if_pos h10];by_cases hl:j<pos F s.fm
  ·refine List.mem_append.2 (.inl (List.mem_iff_getElem?.2 ⟨j, ?_⟩));rw [List.getElem?_take_of_lt hl];exact hj
  ·refine List.mem_append.2 (.inr (List.mem_iff_getElem?.2 ⟨j - (pos F s.fm+1), ?_⟩));rw [List.getElem?_drop,show pos F s.fm+1+(j - (pos F s.fm+1))=j by omega];exact hj
 rw [if_neg h10];unfold ER;rw [hat];refine List.mem_iff_getElem?.2 ⟨j, ?_⟩;simp only;rw [List.getElem?_set_ne (Ne.symm hjn)];exact hj
theorem jw {v:Int} {F:List schema.Form} {s:step.Sp} (h:(on v F s).2.2=0):Fit v F s/\(on v F s).1=v/\Right v (on v F s).2.1/\∀p∈F,p.1≠s.fm->p∈(on v F s).2.1:=by
 unfold on at h ⊢;by_cases hf:Fit v F s
 ·rw [if_pos hf] at h ⊢;by_cases he:err (aC F s)=0
  ·rw [if_pos he] at h ⊢;by_cases hr:Right v (applied F (aC F s))
   ·rw [if_pos hr];exact ⟨hf,rfl,hr,fun p hp hn=>zh (fQ hf.1) he hp hn⟩
   ·rw [if_neg hr] at h;cases h
  ·rw [if_neg he] at h;exact absurd h he
 ·rw [if_neg hf] at h;cases h
end typing
namespace typing
open Go.RowKit schema field step
theorem EJ {v:Int} {F:List schema.Form} {x y:Int} {p:schema.Form} (hr:Right v F) (hp:named F x=some p) (hk:0<=au (ids p.2) y):
  (au (ids p.2) y).toNat<p.2.length/\(bQ p.2 (au (ids p.2) y)).Right:=by
 have h1:=(jP hk).1;rw [je] at h1;refine ⟨h1, ?_⟩;unfold bQ;rw [if_pos hk,List.getD_eq_getElem?_getD,List.getElem?_eq_getElem h1];exact (hr.2.2.1 p (bH hp).1).2.2.1.1 _ (List.getElem_mem _)
theorem Gh {v:Int} {F:List schema.Form} {s:Sp} (h:Fit v F s):1<=s.op/\s.op<=10:=⟨(Ak h.2.1.2.1).1,h.2.2⟩
theorem mX {v:Int} {F:List schema.Form} {s:Sp} (h:Fit v F s) {m:Nat} (hm:m∈step.mem s.op):s.Fine m:=h.2.1.1 m hm
end typing
theorem t93{P:Prop}(h:P:=by
 constructor
 ·rintro ⟨a,b,c⟩;exact ⟨⟨a,c⟩,b⟩
 ·rintro ⟨⟨a,c⟩,b⟩;exact ⟨a,b,c⟩):P:=h
namespace turn
open Go.RowKit schema step typing
open field (Va bytesOf gW gy)
open record (aY Has dJ qo dN mF)
def fieldsOf (F:List schema.Form) (x:Int):List field.Fd:=match named F x with
 | some p=>p.2
 | none=>[]
def fH (F:List schema.Form) (j:Int) (V:List Va):Prop:=∃L,named F j=some (j,L)/\Has j L j V
def atI (F:List schema.Form) (s:Sp):Int:=au (ids (fieldsOf F s.fm)) s.fd
def jH (F:List schema.Form) (s:Sp):field.Fd:=bQ (fieldsOf F s.fm) (atI F s)
def iQ (V:List Va) (k:Nat) (v:Va):List Va:=V.take k++([v]++V.drop k)
def cutV (V:List Va) (k:Nat):List Va:=V.take k++V.drop (k+1)
def vn (n:Int):Va:=⟨n,⟨#[]⟩⟩
def bG (s:Sp) (y:Va):List Va:=
 if s.op=2 then [] else if s.op=4 then [vn (s.a*y.n+s.b)] else if s.op=5 then [vn (s.t.getD y.n.toNat 0)] else if s.op=6 then [vn (y.n.tdiv s.a),vn (y.n.tmod s.a)] else [y]
def fwd (s:Sp) (k:Nat) (V:List Va):List Va:=
 if s.op=1 then iQ V s.pl.toNat s.v else if s.op=7 then iQ (cutV V k) s.pl.toNat (V.getD k va0) else V.take k++(bG s (V.getD k va0)++V.drop (k+1))
structure Dn where
 (j:Int) (V:List Va) (gone has:Bool) (lost:ByteArray) (e:Int)
open Classical in
noncomputable def onR (v:Int) (F:List schema.Form) (s:Sp) (j:Int) (V:List Va):Dn:=
 if (on v F s).2.2≠0 then ⟨0,[],false,false,⟨#[]⟩,(on v F s).2.2⟩ else if ¬fH F j V then ⟨0,[],false,false,⟨#[]⟩,16⟩ else if j≠s.fm then ⟨j,V,false,false,⟨#[]⟩,0⟩
 else if s.op=10 then ⟨0,[],true,true,strOf (dJ (fieldsOf F j) V),0⟩
 else ⟨j,fwd s (atI F s).toNat V,false,decide (s.op=2),if s.op=2 then strOf ((jH F s).bZ (V.getD (atI F s).toNat va0)) else ⟨#[]⟩,0⟩
def chk (x:field.Fd) (y:Va):Va×Int:=if x.Has y then (y,0) else (va0,20)
def aV (s:Sp) (x:field.Fd) (G:List Va) (lost:ByteArray) (has:Bool):Va×Int:=
 if s.op=2 then (if has=true then (if (x.take (bytesOf lost)).e=0/\(x.take (bytesOf lost)).c=(bytesOf lost).length then (⟨(x.take (bytesOf lost)).n,strOf (x.take (bytesOf lost)).s⟩,0) else (va0,12)) else (s.v,0))
 else if s.op=8 then (G.getD 0 va0,0)
 else if s.op=4 then (if ((G.getD 0 va0).n - s.b).tmod s.a≠0 then (va0,20) else chk x (vn (((G.getD 0 va0).n - s.b).tdiv s.a)))
 else if s.op=5 then (if (G.getD 0 va0).n∈s.t then chk x (vn (s.t.idxOf (G.getD 0 va0).n)) else (va0,20))
 else if s.op=6 then chk x (vn ((G.getD 0 va0).n*s.a+(G.getD 1 va0).n)) else chk x (G.getD 0 va0)
def many (s:Sp):Nat:=if s.op=2 then 0 else if s.op=6 then 2 else 1
def bwd (v:Int) (F:List schema.Form) (s:Sp) (V:List Va) (lost:ByteArray) (has:Bool):List Va×Int:=
 if s.op=9 then ([],20) else if s.op=1 then (cutV V (au (ids (fieldsOf (on v F s).2.1 s.fm)) s.f.id).toNat,0)
 else if s.op=7 then (iQ (cutV V (au (ids (fieldsOf (on v F s).2.1 s.fm)) s.fd).toNat) (atI F s).toNat (V.getD (au (ids (fieldsOf (on v F s).2.1 s.fm)) s.fd).toNat va0),0)
 else if (aV s (jH F s) ((V.drop (atI F s).toNat).take (many s)) lost has).2≠0 then ([],(aV s (jH F s) ((V.drop (atI F s).toNat).take (many s)) lost has).2)
 else (V.take (atI F s).toNat++([(aV s (jH F s) ((V.drop (atI F s).toNat).take (many s)) lost has).1]++V.drop ((atI F s).toNat+many s)),0)
open Classical in
noncomputable def backR (v:Int) (F:List schema.Form) (s:Sp) (j:Int) (V:List Va) (lost:ByteArray) (has:Bool):Int×List Va×Int:=
 if (on v F s).2.2≠0 then (0,[],(on v F s).2.2) else if ¬fH (on v F s).2.1 j V then (0,[],16) else if j≠s.fm then (j,V,0)
 else if (bwd v F s V lost has).2≠0 then (0,[],(bwd v F s V lost has).2) else (j,(bwd v F s V lost has).1,0)
def bC (v:Int) (F:List schema.Form) (s:Sp) (lost:ByteArray):Int×List Va×Int:=
 if (on v F s).2.2≠0 then (0,[],(on v F s).2.2) else if s.op≠10 then (0,[],2) else if (dN s.fm (fieldsOf F s.fm) (bytesOf lost)).2.2≠0 then (0,[],12) else dN s.fm (fieldsOf F s.fm) (bytesOf lost)
theorem jr:∀ {A B:List field.Fd} {C D:List Va},A.length=C.length->(aY (A++B) (C++D)↔aY A C/\aY B D)
 | [],B,[],D,_=>by simp [aY]
 | a :: A,B,c :: C,D,h=>by
  simp only [List.cons_append,aY];rw [jr (by simpa using h)];exact and_assoc.symm
 | [],B,c :: C,D,h=>by simp at h
 | a :: A,B,[],D,h=>by simp at h
theorem pX {A H B:List field.Fd} {C G D:List Va} (h1:A.length=C.length) (h2:H.length=G.length):aY (A++(H++B)) (C++(G++D))↔aY A C/\aY H G/\aY B D:=by
 rw [jr h1,jr h2]
theorem lm {x:field.Fd} {y:Va}:aY [x] [y]↔x.Has y:=by simp [aY]
theorem jV {α:Type} {L:List α} {k:Nat} {x:α} (h:L[k]?=some x):L=L.take k++([x]++L.drop (k+1)):=by
 obtain ⟨hk,rfl⟩:=List.getElem?_eq_some_iff.1 h;conv=>lhs;rw [<-List.take_append_drop k L,List.drop_eq_getElem_cons hk]
 rfl
theorem iR {V:List Va} {k:Nat} (h:k<V.length):V[k]?=some (V.getD k va0):=by
 rw [List.getD_eq_getElem?_getD,List.getElem?_eq_getElem h];rfl
theorem lZ {L:List field.Fd} {V:List Va} {k:Nat} {x:field.Fd} {y:Va} (hx:L[k]?=some x) (hy:V[k]?=some y):aY L V↔aY (L.take k) (V.take k)/\x.Has y/\aY (L.drop (k+1)) (V.drop (k+1)):=by
 have h1:=(List.getElem?_eq_some_iff.1 hx).1;have h2:=(List.getElem?_eq_some_iff.1 hy).1;conv=>lhs;rw [jV hx,jV hy]
 rw [pX (by simp;omega) rfl,lm]
theorem EQ (V:List Va) (k m:Nat):V=V.take k++((V.drop k).take m++V.drop (k+m)):=by
 conv=>lhs;rw [<-List.take_append_drop k V,<-List.take_append_drop m (V.drop k),List.drop_drop]
theorem qC {α:Type} {A B:List α} {k:Nat} (h:A.length=k):(A++B).take k=A:=List.take_left' h
theorem zu {α:Type} {A B:List α} {k:Nat} (h:A.length=k):(A++B).drop k=B:=List.drop_left' h
theorem qK {α:Type} {A H B:List α} {k m:Nat} (h:A.length=k) (h2:H.length=m):(A++(H++B)).drop (k+m)=B:=by
 rw [<-List.append_assoc];exact List.drop_left' (by simp [h,h2])
theorem zT {A B:List Va} {y:Va} {k:Nat} (h:A.length=k):(A++([y]++B)).getD k va0=y:=by
 subst h;simp [List.getD_eq_getElem?_getD]
theorem pY {L:List field.Fd} {V:List Va} {i:Nat} {f:field.Fd} {y:Va} (h:L.length=V.length):aY (jf L i f) (iQ V i y)↔aY L V/\f.Has y:=by
 unfold jf iQ;rw [pX (by simp [h]) rfl,lm];conv=>rhs;rw [<-List.take_append_drop i L,<-List.take_append_drop i V,jr (by simp [h])]
 exact t93
theorem zW {L:List field.Fd} {V:List Va} {k:Nat} {x:field.Fd} {y:Va} (hx:L[k]?=some x) (hy:V[k]?=some y):aY L V↔aY (jo L k) (cutV V k)/\x.Has y:=by
 have h1:=(List.getElem?_eq_some_iff.1 hx).1;have h2:=(List.getElem?_eq_some_iff.1 hy).1;rw [lZ hx hy];unfold jo cutV;rw [jr (by simp;omega)]
 exact t93
theorem sQ {V:List Va} {k:Nat} {y:Va} (h:k<=V.length):cutV (iQ V k y) k=V:=by
 unfold cutV iQ;have hl:(V.take k).length=k:=by simp;omega
 rw [qC hl,qK hl (by rfl),List.take_append_drop]
theorem tJ {V:List Va} {k:Nat} {y:Va} (h:V[k]?=some y):iQ (cutV V k) k y=V:=by
 have hk:=(List.getElem?_eq_some_iff.1 h).1;unfold cutV iQ;have hl:(V.take k).length=k:=by simp;omega
 rw [qC hl,zu hl];exact (jV h).symm
theorem uI {V:List Va} {k:Nat} {y:Va} (h:k<=V.length):(iQ V k y).getD k va0=y:=zT (by simp;omega)
theorem kD {V:List Va} {k:Nat} (h:k<V.length):(cutV V k).length=V.length - 1:=by unfold cutV;simp;omega
theorem jq {V:List field.Fd} {k:Nat} (h:k<V.length):(jo V k).length=V.length - 1:=by unfold jo;simp;omega
theorem rZ (V:List Va) (k:Nat) (y:Va):(iQ V k y).length=V.length+1:=by unfold iQ;simp;omega
theorem oH {l:List Int} {i:Nat} {x:Int} (h:l.Nodup) (hi:l[i]?=some x):au l x=i:=by
 obtain ⟨hk,rfl⟩:=List.getElem?_eq_some_iff.1 hi;unfold au;rw [if_pos (List.getElem_mem hk),List.Nodup.idxOf_getElem h]
theorem oJ {f:field.Fd} {v:Va} (h:f.Has v) (hk:f.kind≠4):v=vn v.n:=by
 obtain ⟨_,_,h3⟩:=h;unfold field.Fd.long at h3;rw [if_neg hk] at h3;obtain ⟨n,⟨⟨s⟩⟩⟩:=v;unfold vn;congr 1;have:s.length=0:=by
  have h4:((⟨⟨s⟩⟩:ByteArray).size:Int)<=0:=h3;have h5:(⟨⟨s⟩⟩:ByteArray).size=s.length:=rfl;omega
 rw [List.eq_nil_of_length_eq_zero this]
theorem yj {x:field.Fd} {y:Va} (h:x.Has y):chk x y=(y,0):=if_pos h
theorem sO {x:field.Fd} {y z:Va} (h:chk x y=(z,0)):x.Has z/\y=z:=by
 unfold chk at h;by_cases hx:x.Has y
 ·rw [if_pos hx] at h;cases h;exact ⟨hx,rfl⟩
 ·rw [if_neg hx] at h;have:=(Prod.mk.inj h).2;simp at this
end turn
theorem t31{P:Prop}(h:P:=by
 go_enter func150,ntmps150;go_wp2_with (at_builtin;refine aO rfl _ _ 22 rfl base 49 i0 _ 2 32 underlying22 hi0 hz0 hz1 hz2 (by simp [Value.cells]) om_ _ i xs rfl HO.o (some ⟨g,goff,none⟩) 1 vc news rfl (by rw [HL.o]) (.inr ⟨_,rfl,HC.o⟩) H1.o HN2.o HN3.o HB.o ?_);intro v' w1 ho hg;have HO2:=hid ho;have HG2:=hid hg;rw [HOB.o] at HG2;clear ho hg;go_wp2;go_ret;exact ⟨_,rfl,HO2.o,HG2.o⟩):P:=h
namespace schema
open Go.RowKit rows
def yZ (base:Nat) (ob:Option Nat) (n:Nat) (ys:List Value) (w:World) (e:Ending) (w':World):Prop:=∃v',e=.returned v'/\w'.ownsRow base 49 2 v' n ys/\w.grownBy w' ob
set_option maxRecDepth 20000 in
theorem kL (base n i g goff vc:Nat) (gC:List Value) (gt:TypeId) (v:Value) (xs news:List Value) (w:World) (hown:w.ownsRow base 49 2 v n xs) (hbase:base<=w.heap.size) (hi:i<=n)
  (hl:news.length=2) (hG:Block w g gt gC) (hgo:goff+2<=gC.length) (hgv:v.ownBlock≠some g) (hnews:∀j u,news[j]?=some u->gC[goff+j]?=some u) (h1:∀u∈news,u.oneCell'=true) (hx1:∀u∈xs,u.oneCell'=true) (hn:n<=1000):
  Calls prog 150 #[v,.int .i64 i,.slice (some ⟨g,goff,none⟩) 1 vc] w (yZ base v.ownBlock (n+1) (xs.take (i*2)++(news++xs.drop (i*2))) w):=by
 obtain ⟨i0,hi0,hz0,hz1,hz2⟩:=kV;have hxl:=hown.1;have hcell:∀j u,news[j]?=some u->w.cell? ((⟨g,goff,none⟩:Addr).add j)=some u:=fun j u hj=>by rw [Addr.add_lit,hG.cell];exact hnews j u hj
 have b1:(i:Int)<=n:=by omega
 have b2:(n:Int)<=1000:=by omega
 by_cases hin:i=n
 ·subst hin;have e1:xs.take (i*2)=xs:=List.take_of_length_le om_;have e2:xs.drop (i*2)=[]:=List.drop_of_length_le om_;rw [e1,e2,List.append_nil];obtain ⟨bp,cp,rfl,hcp⟩:=aA hown;have HO:=hid hown;have HC:=hid hcell;have HN2:Hid (i+1<=maxLen):=by show _<=_;unfold maxLen;omega
  have HN3:Hid ((i+1)*32<=140737488355328):=by show _<=_;omega
  have HL:=hid hl;have H1:=hid h1;have HB:=hid hbase;obtain ⟨OB,hOB⟩:∃OB,(Value.slice bp i cp).ownBlock=OB:=⟨_,rfl⟩;have HOB:=hid hOB;rw [hOB];clear hOB hown hcell hxl hG hgo hnews h1 hx1 e1 e2 hl hbase hgv;by_cases hci:i=cp
  ·subst hci
   exact t31
  ·exact t31
 ·rcases hown.2 with ⟨rfl,h0⟩ | ⟨b,cap,cur,rfl,hbb,hB,hnc,hcm,hcs,htake⟩
  ·omega
  ·obtain ⟨C,rfl⟩:∃C:List Value,cur=C.toArray:=⟨cur.toList,by simp⟩;simp only [List.size_toArray] at hcs;have htk:C.take (n*2)=xs:=by simpa using htake
   have hbg:g≠b:=by intro h;subst h;exact hgv rfl
   have hX1:C.take (i*2)=xs.take (i*2):=by rw [<-htk,List.take_take,Nat.min_eq_left (Nat.mul_le_mul_right _ hi)]
   have hX2l:(xs.drop (i*2)).length=(n - i)*2:=by rw [List.length_drop,hxl,Nat.sub_mul]
   have hX2c:∀j u,(xs.drop (i*2))[j]?=some u->C[i*2+j]?=some u:=fun j u hj=>by
    rw [List.getElem?_drop,<-htk,List.getElem?_take] at hj;split at hj
    ·exact hj
    ·cases hj
   have hX21:∀u∈xs.drop (i*2),u.oneCell'=true:=fun u hu=>hx1 u (List.mem_of_mem_drop hu)
   obtain ⟨X2,hX2⟩:∃X2,xs.drop (i*2)=X2:=⟨_,rfl⟩;rw [hX2] at hX2l hX2c hX21 ⊢;rw [<-hX1];have hlt:i<n:=by omega
   have c1:(i:Int)<n:=by omega
   have c2:¬((i:Int)=(n:Int)):=by omega
   have c3:¬(cap=i):=by omega
   have hcm':cap<=9223372036854775807:=by unfold maxLen at hcm;omega
   have w1:IntKind.i64.wrap ((i:Int)+1)=(i:Int)+1:=by rw [IntKind.wrap_i64];omega
   have w2:IntKind.i64.wrap ((n:Int)+1)=(n:Int)+1:=by rw [IntKind.wrap_i64];omega
   have t1:((i:Int)+1).toNat=i+1:=by omega
   have t2:((n:Int)+1).toNat=n+1:=by omega
   have p1:(0:Int)<=(i:Int)+1:=by omega
   have p2:(i:Int)+1<=(n:Int)+1:=by omega
   have hBB:Block w b 49 C:=hB;have hOB:(Value.slice (some ⟨b,0,none⟩) n cap).ownBlock=some b:=rfl;rw [hOB];clear hOB;by_cases hroom:n+1<=cap
   ·have c4:¬((cap:Int)<(n:Int)+1):=by omega
    have c5:¬(cap=i+1):=by omega
    have c6:(n:Int)+1<=(cap:Int):=by omega
    have hov:∀lb cb,(callFunc 196 #[.slice (some ⟨g,goff,none⟩) 1 vc,.slice (some ⟨b,(i+1)*2,none⟩) lb cb]).run prog w=.ok (.value (.bool false)) w:=fun lb cb=>by
     rw [run_callFunc_extern func196 kr_ kr_ kr_ (e:=Extern.SlicesOverlaps.overlaps #[22,22] #[4]) kr_,
      ji w 22 4 49 underlying22 i0 hi0 ⟨g,goff,none⟩ ⟨b,(i+1)*2,none⟩ 1 vc lb cb hbg gt 49 gC C hG hBB (by intro h;subst h;simp at hcs;omega)]
     rfl
    have HB:=hid hBB;have HG:=hid hG;have HCS:=hid hcs;have HL:=hid hl;have HX2l:=hid hX2l;have HX2c:=hid hX2c;have HX21:=hid hX21;have H1:=hid h1;have HNW:=hid hnews;have HGO:=hid hgo;have HCM:=hid hcm;have HBB:=hid hbb;clear hown hcell hxl hG hgo hnews h1 hx1 hl hbase hgv htake htk hX1 hX2 hX2l hX2c hX21 hB hBB hcs hcm hbb;go_enter func150,ntmps150;go_wp2_with (simp only [hov]);refine tail.region 8 kr_ kr_ ?_;simp only [List.take_succ_cons,List.take_zero,List.drop_succ_cons,List.drop_zero];repeat (go_big_quiet_step (fail))
    refine wpQuiet_nil ?_;rintro _ ⟨nq,rfl⟩;refine aQ rfl _ _ 22 22 rfl 49 i0 2 underlying22 hi0 hz1 _ _ _ _ _ _ rfl rfl b ((i+1)*2) C 49 (HB.o.drewN nq) (n - i) (by simp only [Nat.min_def];split <;> omega) X2 HX2l.o (fun _=>⟨rfl,⟨b,i*2,none⟩,rfl,fun j u hj=>by rw [Addr.add_lit,(HB.o.drewN nq).cell];exact HX2c.o j u hj⟩) (by rw [HX2l.o,HCS.o,<-Nat.add_mul];exact Nat.mul_le_mul_right _ om_) HX21.o ?_;intro w3 h3;have hG3:Block w3 g gt gC:=HG.o.but h3.o.2.1 HG.o.lt hbg;have HG3:=hid hG3;have hs3:=h3.o.2.2;clear hG3;go_wp2_with (refine aQ rfl _ _ 22 22 rfl 49 i0 2 underlying22 hi0 hz1 _ _ _ _ _ _ rfl rfl b (i*2) (splice C ((i+1)*2) X2) 49 h3.o.1 1 (by simp only [Nat.min_def];split <;> omega) news (by rw [HL.o]) (fun _=>⟨rfl,⟨g,goff,none⟩,rfl,fun j u hj=>by rw [Addr.add_lit,HG3.o.cell];exact HNW.o j u hj⟩) (by rw [length_splice _ _ _ (by rw [HX2l.o,HCS.o,<-Nat.add_mul];exact Nat.mul_le_mul_right _ om_),HL.o,HCS.o];exact (by omega:i*2+2<=cap*2)) H1.o ?_);intro w4 h4;go_wp2;go_ret;have hl2:=two C (i*2) news X2 (by rw [HL.o,HX2l.o,HCS.o];omega);rw [HL.o,HX2l.o,show i*2+2=(i+1)*2 by omega,show (i+1)*2+(n - i)*2=(n+1)*2 by omega,List.append_assoc] at hl2;refine ⟨_,rfl,fJ h4.o.1 HBB.o hroom HCM.o ?_ hl2, ?_⟩
    ·rw [length_splice,length_splice,HCS.o]
     ·rw [HX2l.o,HCS.o];omega
     ·rw [length_splice,HL.o,HCS.o]
      ·omega
      ·rw [HX2l.o,HCS.o];omega
    ·have e3:=h3.o.2.1;have e4:=h4.o.2.1;exact bD (v:=.slice (some ⟨b,0,none⟩) n cap) (But.trans (But.drewN e3 0) e4) rfl
   ·obtain rfl:n=cap:=by omega
    have c4:(n:Int)<(n:Int)+1:=by omega
    have k1:IntKind.i64.wrap ((n:Int)+1 - (i:Int))=(n:Int)+1 - (i:Int):=by rw [IntKind.wrap_i64];omega
    have HB:=hid hBB;have HG:=hid hG;have HCS:=hid hcs;have HL:=hid hl;have HX2l:=hid hX2l;have HX2c:=hid hX2c;have HX21:=hid hX21;have H1:=hid h1;have HNW:=hid hnews;have HGO:=hid hgo;have HCM:=hid hcm;have HBB:=hid hbb;have HBW:=hid hbase;have hsz0:0<2:=by omega
    have HN3:Hid ((i+(n+1 - i))*32<=140737488355328):=by show _<=_;omega
    have HN2:Hid (i+(n+1 - i)<=maxLen):=by show _<=_;unfold maxLen;omega
    have HF0:Hid (i*2<=C.length):=by show _<=_;rw [hcs];omega
    clear hown hcell hxl hG hgo hnews h1 hx1 hl hbase hgv htake htk hX1 hX2 hX2l hX2c hX21 hB hBB hcs hcm hbb;go_enter func150,ntmps150;go_wp2_with (at_builtin;refine fB rfl _ _ 22 3 rfl 49 i0 _ 2 32 underlying22 underlying3 hi0 hz0 hz1 hz2 (by simp [Value.cells]) hsz0 b i n rfl (n+1 - i) _ rfl om_ om_ C HB.o HF0.o om_ om_ HN3.o HN2.o ?_);intro G R w3 h3;have hs3:w.heap.size<w3.heap.size:=h3.o.2.2.2.2.2;have g1:¬(G=i):=by have:=h3.o.2.2.1;omega
    have g2:¬(G=i+1):=by have:=h3.o.2.2.1;omega
    have g3:i+(n+1 - i)=n+1:=by omega
    have HG1:=hid h3.o.2.2.1;have HG2:=hid h3.o.2.2.2.1;have HRl:=hid h3.o.2.1;have HLT:=hid HB.o.lt;have HLG:=hid HG.o.lt;have HB3:Hid (Block w3 b 49 C):=hid (HB.o.later h3.o.2.2.2.2.1);have HG3:Hid (Block w3 g gt gC):=hid (HG.o.later h3.o.2.2.2.2.1);have HCL:Hid ((C.take (i*2)++R).length=G*2):=by
     show _=_
     rw [List.length_append,List.length_take,Nat.min_eq_left HF0.o,HRl.o,<-Nat.add_mul];congr 1;have:=HG1.o;omega
    rw [g3];go_wp2_with (refine aQ rfl _ _ 22 22 rfl 49 i0 2 underlying22 hi0 hz1 _ _ _ _ _ _ rfl rfl w.heap.size (i*2) (C.take (i*2)++R) 49 h3.o.1 1 (by simp only [Nat.min_def];split <;> omega) news (by rw [HL.o]) (fun _=>⟨rfl,⟨g,goff,none⟩,rfl,fun j u hj=>by rw [Addr.add_lit,HG3.o.cell];exact HNW.o j u hj⟩) (by rw [HCL.o,HL.o];have:=HG1.o;omega) H1.o ?_);intro w4 h4;have HB4:Hid (Block w4 b 49 C):=hid (HB3.o.but h4.o.2.1 HB3.o.lt (by have:=HLT.o;omega));have hs4:=h4.o.2.2;have HL4:Hid ((splice (C.take (i*2)++R) (i*2) news).length=G*2):=hid (by rw [length_splice _ _ _ (by rw [HCL.o,HL.o];have:=HG1.o;omega),HCL.o]);go_wp2;refine tail.region 8 kr_ kr_ ?_;simp only [List.take_succ_cons,List.take_zero,List.drop_succ_cons,List.drop_zero];repeat (go_big_quiet_step (fail))
    refine wpQuiet_nil ?_;rintro _ ⟨nq,rfl⟩;refine aQ rfl _ _ 22 22 rfl 49 i0 2 underlying22 hi0 hz1 _ _ _ _ _ _ rfl rfl w.heap.size ((i+1)*2) (splice (C.take (i*2)++R) (i*2) news) 49 (h4.o.1.drewN nq) (n - i) (by simp only [Nat.min_def];split <;> omega) X2 HX2l.o (fun _=>⟨rfl,⟨b,i*2,none⟩,rfl,fun j u hj=>by rw [Addr.add_lit,(HB4.o.drewN nq).cell];exact HX2c.o j u hj⟩) (by rw [HL4.o,HX2l.o];have:=HG1.o;omega) HX21.o ?_;intro w5 h5;go_wp2;go_ret;have hl2:=two' (C.take (i*2)++R) (i*2) news X2 (by rw [HL.o,HX2l.o,HCL.o];have:=HG1.o;omega);rw [HL.o,HX2l.o,show i*2+2=(i+1)*2 by omega,show (i+1)*2+(n - i)*2=(n+1)*2 by omega,List.append_assoc,List.take_left' (by rw [List.length_take,Nat.min_eq_left HF0.o])] at hl2;refine ⟨_,rfl,fJ h5.o.1 HBW.o (by have:=HG1.o;omega) HG2.o ?_ hl2, ?_⟩
    ·rw [length_splice,HL4.o];rw [HX2l.o,HL4.o];have:=HG1.o;omega
    ·exact dw (h3.o.2.2.2.2.1.trans ((But.trans (But.drewN h4.o.2.1 0) (by have:=h5.o.2.1;exact this.mono (by simp [hs4]))).below om_ (Nat.le_refl _)))
end schema
namespace step
open Go.RowKit
open field (Gives ak aj)
open schema (aH)
def KJ (op:Int) (c:UInt8):Bool:=decide (c∈uses op)
theorem vP (op:Int):(xU op).size=(uses op).length:=texts.EY _
theorem Ib {op:Int} {k:Nat} {q:UInt8} (h:(uses op)[k]?=some q) (W:World):(Instr.index 9 (.string (xU op)) (.int .i64 (k:Int))).run prog W=.ok (.int .u8 (q.toNat:Int)) W:=by
 have hk:=(List.getElem?_eq_some_iff.1 h).1;have he:=(List.getElem?_eq_some_iff.1 h).2;rw [run_index_string W _ _ _ _ underlying9,dif_pos ⟨by omega,by rw [vP];omega⟩];congr 2;rw [<-he];simp only [Int.toNat_natCast];rfl
theorem Iu {p q:UInt8} (h:p≠q):((p.toNat:Int) == (q.toNat:Int))=false:=by
 rw [beq_eq_false_iff_ne];intro e;exact h (UInt8.toNat_inj.1 om_)
theorem gZ (op:Int) (c:UInt8) (w:World):Calls prog 134 #[.int .i64 op,.int .u8 (c.toNat:Int)] w (Gives (.bool (KJ op c)) w):=by
 obtain ⟨v,hv⟩:∃v:Bool,Hid (KJ op c=v):=⟨_,rfl⟩;rw [hv.o];have cU:=Ic op w;have hsz:=vP op;have hix:=fun (k:Nat) (q:UInt8) (h:(uses op)[k]?=some q) W=>Ib h W
 have hl5:=Ie op;obtain ⟨S,hS⟩:∃S,Hid (xU op=S):=⟨_,rfl⟩;obtain ⟨L,hL⟩:∃L,Hid (uses op=L):=⟨_,rfl⟩;have HV:Hid (decide (c∈L)=v):=hid (by rw [<-hL.o];exact hv.o);rw [hS.o] at cU hsz hix;rw [hL.o] at hsz hix hl5;have HIX:=hid hix;unfold Gives at cU ⊢;clear hix hv;go_enter func134,ntmps134;go_wp2_with (go_at_call 130;((with_reducible refine cU.mono ?_);rintro e w1 ⟨rfl,hb1⟩;have HB1:=hid hb1));clear cU;go_loopw [6] (fun n wr=>∃k:Nat,k<=L.length/\n=.int .i64 (k:Int)/\Hid (c∉L.take k)/\Hid (Below w.heap.size w wr)) (fun n _=>L.length - (intOf n).toNat);case atStart=>exact ⟨0,Nat.zero_le _,rfl,hid si_,HB1⟩
 case round=>
  obtain ⟨k,hk,rfl,HN,HB⟩:=hrel;by_cases hlt:k<L.length
  ·have hq:=List.getElem?_eq_getElem hlt;generalize L[k]=q at *;have hx:=fun W=>HIX.o k q hq W
   have i1:(k:Int)<S.size:=by rw [hsz];omega
   have i2:((k:Int)<(L.length:Int)):=by omega
   have HS1:=hid (aH hq);have HM:=hid (List.mem_of_getElem? hq);clear hq;by_cases hc:q=c
   ·subst hc;obtain rfl:true=v:=by rw [<-HV.o];exact (decide_eq_true HM.o).symm
    go_wp2;go_ret;exact ⟨rfl,HB.o⟩
   ·have hd:=Iu hc;have HC:=hid hc;clear hc;go_wp2;exact ⟨⟨k+1,by omega,by go_num,hid (by rw [HS1.o];intro hm;rcases List.mem_append.1 hm with h | h;exact HN.o h;exact HC.o (List.mem_singleton.1 h).symm),hid HB.o⟩,by simp [intOf];omega⟩
  ·obtain rfl:k=L.length:=by omega
   obtain rfl:false=v:=by rw [<-HV.o];have:=HN.o;rw [List.take_of_length_le (Nat.le_refl _)] at this;exact (decide_eq_false this).symm
   have i1:¬((L.length:Int)<S.size):=by omega
   go_wp2;go_ret;exact ⟨rfl,HB.o⟩
end step
theorem t106{P:Prop}(h:P:=by
 go_wp2;go_quiet (fail);go_wp2;go_ret;exact ⟨rfl,below_drewN HB1.o _⟩):P:=h
namespace item
open Go.RowKit
theorem aX (a:Option Addr) (c:Nat) (L:List It) (w:World) (h:Its w a L) (hL:L.length<=maxLen):
  Calls prog 50 #[.slice a L.length c] w (Gives (.bool (decide (Right L))) w):=by
 have hml:(L.length:Int)<=9223372036854775807:=by unfold maxLen at hL;omega
 have HF:=hid h;obtain ⟨r,hr⟩:∃r:Bool,Hid (decide (Right L)=r):=⟨_,rfl⟩;rw [hr.o];unfold Gives;clear h hL;go_enter func50,ntmps50;go_wp2;go_loopw [7] (fun n wr=>∃k:Nat,k<=L.length/\n=.int .i64 (k:Int)/\Hid (∀i<k,oD L i=true)/\Hid (Below w.heap.size w wr)) (fun n _=>L.length - (intOf n).toNat);case atStart=>exact ⟨0,Nat.zero_le _,rfl,hid (fun i hi=>absurd hi om_),hid (Below.refl _ _)⟩
 case round=>
  obtain ⟨k,hk,rfl,HO,HB⟩:=hrel;by_cases hlt:k<L.length
  ·obtain ⟨g,off,p,rfl,hbl,hp,c0,c1⟩:=qj HF.o HB.o hlt;have HB1:=hid (HB.o.alloc HB.o.size (.cells #[.int .u32 (p.key:Nat),.string p.data] 43));obtain ⟨_,_,p2,he,hbl1,hp2,e0,e1⟩:=qj HF.o HB1.o hlt;cases he
   cases hp.symm.trans hp2
   clear hp2;have i1:(k:Int)<L.length:=by omega
   have HO1:=hid (fun (ho:oD L k=true)=>show ∀i<k+1,oD L i=true from fun i hi=>by
    rcases Nat.lt_succ_iff_lt_or_eq.1 hi with h | rfl
    ·exact HO.o i h
    ·exact ho)
   have HN:=hid (fun (ho:oD L k=false)=>show r=false from by rw [<-hr.o];exact decide_eq_false (fun hR=>by rw [hR k hlt] at ho;exact absurd ho si_));by_cases hs:p.data.size<=64
   ·have ds:decide (64<(p.data.size:Int))=false:=decide_eq_false om_;by_cases h0:k=0
    ·subst h0;have ok:oD L 0=true:=by unfold oD;rw [hp];simp [hs]
     clear hp hs;simp only [Nat.zero_mul,Nat.add_zero] at c0 c1 e0 e1;go_wp2;go_quiet (fail);go_wp2;exact ⟨⟨1,by omega,by go_num,hid (HO1.o ok),hid (below_drewN HB1.o _)⟩,by simp [intOf];omega⟩
    ·obtain ⟨_,_,q,he,hbq,hq,d0,d1⟩:=qj HF.o HB1.o (k:=k - 1) om_;cases he
     have hk1:((k:Int) - 1)=((k - 1:Nat):Int):=by omega
     have hk0:decide (0<k)=true:=decide_eq_true om_;generalize hkm:k - 1=j at *;have i2:(j:Int)<L.length:=by omega
     by_cases hqp:q.key<p.key
     ·have ok:oD L k=true:=by unfold oD;rw [hp,hkm];simp [hs,hq,hqp]
      have dk:decide (p.key<=q.key)=false:=decide_eq_false om_;clear hp hq hkm hs hqp h0;go_wp2;go_quiet (fail);go_wp2;exact ⟨⟨k+1,by omega,by go_num,hid (HO1.o ok),hid (below_drewN HB1.o _)⟩,by simp [intOf];omega⟩
     ·have ok:oD L k=false:=by unfold oD;rw [hp,hkm];simp [hs,hq,hqp,h0]
      obtain rfl:=HN.o ok;have dk:decide (p.key<=q.key)=true:=decide_eq_true om_;clear hp hq hkm hs hqp h0
      exact t106
   ·have ok:oD L k=false:=by unfold oD;rw [hp];simp [hs]
    obtain rfl:=HN.o ok;have ds:decide (64<(p.data.size:Int))=true:=decide_eq_true om_;clear hp hs
    exact t106
  ·obtain rfl:k=L.length:=by omega
   obtain rfl:true=r:=by rw [<-hr.o];exact (decide_eq_true (show Right L from HO.o)).symm
   go_wp2;go_ret;exact ⟨rfl,HB.o⟩
end item
end Go.Proofs.YtogkgbnpodojjaaGreat
