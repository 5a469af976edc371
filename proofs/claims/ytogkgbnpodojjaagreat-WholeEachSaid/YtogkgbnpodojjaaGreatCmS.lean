/- Contracts and lemmas that claims of this seat share: TurnOne, TurnKeep, TurnRow, CloneOwn, SchemaExecF, DeleteM, StepTable, TurnCan, RecordKeep, StepOwn. Each says its own conditions. -/
import Derived.Test.YtogkgbnpodojjaaGreatCmWord
import Derived.Laws.Cover3
import Derived.Test.YtogkgbnpodojjaaGreatCmE
import Derived.Test.YtogkgbnpodojjaaGreatCmG
import Derived.Test.YtogkgbnpodojjaaGreatCmF
import Derived.Test.YtogkgbnpodojjaaGreatCmH
import Derived.Test.YtogkgbnpodojjaaGreatCmJ
import Derived.Test.YtogkgbnpodojjaaGreatCmC
import Derived.Test.YtogkgbnpodojjaaGreatCmO
import Derived.Test.YtogkgbnpodojjaaGreatCmQ
import Derived.Test.YtogkgbnpodojjaaGreatCmP
import Derived.Test.YtogkgbnpodojjaaGreatCmR
set_option linter.unusedVariables false
namespace Go.Proofs.YtogkgbnpodojjaaGreat
open Go.Proofs.Tryz
theorem t118{P:Prop}(h:P:=by
 simp only;have:=kN (a:=s.a) hb.1 hb.2;split <;> omega):P:=h
theorem t114{P:Prop}(h:P:=by
 rcases h.op with h | h | h | h | h | h <;> rw [h] <;> rfl):P:=h
theorem t110{P:Prop}(h:P:=by
 have:=(Prod.mk.inj hb).2;simp at this):P:=h
namespace turn
open Go.RowKit schema step typing
open field (Va bytesOf gW gy)
open record (aY Has dJ qo dN mF)
theorem iM {f:field.Fd} (h:f.kind=1):f.great=f.hi:=by unfold field.Fd.great;rw [if_pos h]
theorem lW {f:field.Fd} (h:f.kind=3):f.great=f.most - 1:=by
 unfold field.Fd.great;rw [if_neg (by rw [h];decide),if_neg (by rw [h];decide),if_pos h]
theorem EC {f:field.Fd} (h:f.kind≠4):f.long=0:=by unfold field.Fd.long;rw [if_neg h]
theorem qf {f:field.Fd} (hr:f.Right) (hk:f.kind≠4) (n:Int) (h1:f.lo<=n) (h2:n<=f.great):f.Has (vn n):=
 ⟨hr,⟨h1,h2⟩,by rw [EC hk];exact Int.le_refl _⟩
structure Suit (s:Sp) (x:field.Fd):Prop where
 op:s.op=2\/s.op=3\/s.op=4\/s.op=5\/s.op=6\/s.op=8
 right:x.Right
 c2:s.op=2->x.Has s.v
 c3:s.op=3->x.Wider s.f
 c4:s.op=4->x.kind=1/\s.a≠0
 c5:s.op=5->x.kind=3/\x.most=s.t.length/\Table s.t s.a
 c6:s.op=6->x.kind=1/\x.lo=0/\2<=s.a
def yM (s:Sp) (x:field.Fd) (y:Va):ByteArray:=if s.op=2 then strOf (x.bZ y) else ⟨#[]⟩
def bF (s:Sp) (x:field.Fd):List field.Fd:=dG ⟨s,0,[],false,0,x⟩
theorem oW {s:Sp} {x:field.Fd} (h:Suit s x):(bF s x).length=many s:=by
 unfold bF dG many;simp only
 exact t114
theorem BM {s:Sp} {x:field.Fd} (h:Suit s x) (y:Va):(bG s y).length=many s:=by
 unfold bG many
 exact t114
theorem kN {a n lo hi:Int} (h1:lo<=n) (h2:n<=hi):(a*lo<=a*n/\a*n<=a*hi)\/(a*hi<=a*n/\a*n<=a*lo):=by
 rcases Int.le_total 0 a with h | h
 ·exact .inl ⟨Int.mul_le_mul_of_nonneg_left h1 h,Int.mul_le_mul_of_nonneg_left h2 h⟩
 ·exact .inr ⟨Int.mul_le_mul_of_nonpos_left h h2,Int.mul_le_mul_of_nonpos_left h h1⟩
theorem Kz {s:Sp} {x:field.Fd} {y:Va} (h:Suit s x) (hy:x.Has y) (hr:∀f∈bF s x,f.Right):aY (bF s x) (bG s y)/\aV s x (bG s y) (yM s x y) (decide (s.op=2))=(y,0):=by
 have hb:=hy.2.1;rcases h.op with h2 | h3 | h4 | h5 | h6 | h8
 ·have e1:bF s x=[]:=by unfold bF dG;simp only;rw [if_pos h2]
  have e2:bG s y=[]:=by unfold bG;rw [if_pos h2]
  have e3:yM s x y=strOf (x.bZ y):=by unfold yM;rw [if_pos h2]
  rw [e1,e2,e3];refine ⟨trivial, ?_⟩;have ht:=(field.Fd.lF hy []).1;rw [List.append_nil] at ht;unfold aV;rw [if_pos h2,if_pos (by simp [h2]),gy (field.Fd.Dw x y),ht,if_pos ⟨rfl,rfl⟩];simp only;rw [gW]
 ·have e1:bF s x=[s.f]:=by unfold bF dG;simp only;rw [h3];rfl
  have e2:bG s y=[y]:=by unfold bG;rw [h3];rfl
  rw [e1,e2];refine ⟨lm.2 ((h.c3 h3).has hy), ?_⟩;unfold aV;rw [if_neg om_,if_neg om_,if_neg om_,if_neg om_,if_neg om_];exact yj hy
 ·have e1:bF s x=[{ x with lo:=low ⟨s,0,[],false,0,x⟩,hi:=high ⟨s,0,[],false,0,x⟩}]:=by unfold bF dG;simp only;rw [h4];rfl
  have e2:bG s y=[vn (s.a*y.n+s.b)]:=by unfold bG;rw [h4];rfl
  obtain ⟨hk,ha⟩:=h.c4 h4;rw [iM hk] at hb;have hys:=oJ hy om_;rw [e1] at hr;have hr1:=hr _ (List.mem_singleton_self _);rw [e1,e2];constructor
  ·refine lm.2 (qf hr1 (by show x.kind≠4;omega) _ ?_ ?_)
   ·show low _<=_
    unfold low scA scB
    exact t118
   ·rw [iM (show ({ x with lo:=low ⟨s,0,[],false,0,x⟩,hi:=high ⟨s,0,[],false,0,x⟩}:field.Fd).kind=1 from hk)];show _<=high _
    unfold high scA scB
    exact t118
  ·unfold aV;rw [if_neg om_,if_neg om_,if_pos h4];simp only [List.getD_cons_zero];have e:(vn (s.a*y.n+s.b)).n - s.b=s.a*y.n:=by show s.a*y.n+s.b - s.b=_;omega
   rw [e,if_neg si_,Int.mul_tdiv_cancel_left _ ha,<-hys];exact yj hy
 ·have e1:bF s x=[{ x with most:=s.a}]:=by unfold bF dG;simp only;rw [h5];rfl
  have e2:bG s y=[vn (s.t.getD y.n.toNat 0)]:=by unfold bG;rw [h5];rfl
  obtain ⟨hk,hm,ht1,ht2,ht3⟩:=h.c5 h5;have hxr:=h.right;unfold field.Fd.Right at hxr;rw [lW hk] at hb;have hys:=oJ hy om_;rw [e1] at hr;have hr1:=hr _ (List.mem_singleton_self _);have hlo:x.lo=0:=by omega
  have hn:y.n.toNat<s.t.length:=by omega
  have hg:s.t.getD y.n.toNat 0=s.t[y.n.toNat]:=by rw [List.getD_eq_getElem?_getD,List.getElem?_eq_getElem hn];rfl
  have hmem:s.t.getD y.n.toNat 0∈s.t:=by rw [hg];exact List.getElem_mem hn
  have hbt:=ht2 _ hmem;rw [e1,e2];constructor
  ·refine lm.2 (qf hr1 (by show x.kind≠4;omega) _ ?_ ?_)
   ·show x.lo<=_;omega
   ·rw [lW (show ({ x with most:=s.a}:field.Fd).kind=3 from hk)];show _<=s.a - 1
    omega
  ·unfold aV;rw [if_neg om_,if_neg om_,if_neg om_,if_pos h5];simp only [List.getD_cons_zero];have e:(vn (s.t.getD y.n.toNat 0)).n=s.t.getD y.n.toNat 0:=rfl;have hi:s.t.idxOf (s.t.getD y.n.toNat 0)=y.n.toNat:=by rw [hg];exact List.Nodup.idxOf_getElem ht3 ..
   rw [e,if_pos hmem,hi,show ((y.n.toNat:Nat):Int)=y.n by omega,<-hys];exact yj hy
 ·have e1:bF s x=[{ x with hi:=Int.tdiv x.hi s.a},⟨s.tt,1,0,mn (s.a - 1) x.hi,0⟩]:=by unfold bF dG;simp only;rw [h6];rfl
  have e2:bG s y=[vn (y.n.tdiv s.a),vn (y.n.tmod s.a)]:=by unfold bG;rw [h6];rfl
  obtain ⟨hk,hlo,ha⟩:=h.c6 h6;rw [iM hk] at hb;have hys:=oJ hy om_;rw [e1] at hr;have hr1:=hr _ (List.mem_cons_self ..);have hr2:=hr _ (List.mem_cons_of_mem _ (List.mem_cons_self ..));have hn0:0<=y.n:=by omega
  have d1:y.n.tdiv s.a=y.n / s.a:=Int.tdiv_eq_ediv_of_nonneg hn0;have d2:x.hi.tdiv s.a=x.hi / s.a:=Int.tdiv_eq_ediv_of_nonneg om_;have d3:y.n.tmod s.a=y.n % s.a:=Int.tmod_eq_emod_of_nonneg hn0;have m1:=Int.emod_nonneg y.n (show s.a≠0 by omega);have m2:=Int.emod_lt_of_pos y.n (show 0<s.a by omega);have m3:0<=y.n / s.a:=Int.ediv_nonneg hn0 om_;have m4:y.n / s.a<=x.hi / s.a:=Int.ediv_le_ediv om_ hb.2;have m5:=Int.mul_ediv_add_emod y.n s.a;have m6:0<=s.a*(y.n / s.a):=Int.mul_nonneg om_ m3;rw [e1,e2];constructor
  ·refine ⟨qf hr1 (by show x.kind≠4;omega) _ ?_ ?_,qf hr2 (by show (1:Int)≠4;omega) _ ?_ ?_,trivial⟩
   ·show x.lo<=_;rw [d1];omega
   ·rw [iM (show ({ x with hi:=Int.tdiv x.hi s.a}:field.Fd).kind=1 from hk)];show _<=x.hi.tdiv s.a
    rw [d1,d2];exact m4
   ·show 0<=_;rw [d3];exact m1
   ·show _<=mn (s.a - 1) x.hi
    rw [d3];unfold mn;split <;> omega
  ·unfold aV;rw [if_neg om_,if_neg om_,if_neg om_,if_neg om_,if_pos h6];simp only [List.getD_cons_zero,List.getD_cons_succ];have e:(vn (y.n.tdiv s.a)).n*s.a+(vn (y.n.tmod s.a)).n=y.n:=by
    show y.n.tdiv s.a*s.a+y.n.tmod s.a=y.n
    rw [d1,d3,Int.mul_comm];exact m5
   rw [e,<-hys];exact yj hy
 ·have e1:bF s x=[{ x with id:=s.tt}]:=by unfold bF dG;simp only;rw [h8];rfl
  have e2:bG s y=[y]:=by unfold bG;rw [h8];rfl
  rw [e1] at hr;have hr1:=hr _ (List.mem_singleton_self _);rw [e1,e2];refine ⟨lm.2 ⟨hr1,hy.2.1,hy.2.2⟩, ?_⟩;unfold aV;rw [if_neg om_,if_pos h8];rfl
theorem Gn {x1 x2:field.Fd} {G:List Va} (h:aY [x1,x2] G):∃z1 z2,G=[z1,z2]/\x1.Has z1/\x2.Has z2:=by
 match G,h with
 | [z1,z2],h=>exact ⟨z1,z2,rfl,h.1,h.2.1⟩
theorem kK {x1:field.Fd} {G:List Va} (h:aY [x1] G):∃z1,G=[z1]/\x1.Has z1:=by
 match G,h with
 | [z1],h=>exact ⟨z1,rfl,h.1⟩
theorem Ei {G:List Va} (h:aY [] G):G=[]:=by
 match G,h with
 | [],h=>rfl
theorem GV {s:Sp} {x:field.Fd} {y:Va} {G:List Va} {lost:ByteArray} {has:Bool} (h:Suit s x) (hG:aY (bF s x) G) (hb:aV s x G lost has=(y,0)):x.Has y/\bG s y=G:=by
 unfold aV at hb;rcases h.op with h2 | h3 | h4 | h5 | h6 | h8
 ·have e1:bF s x=[]:=by unfold bF dG;simp only;rw [if_pos h2]
  have e2:bG s y=[]:=by unfold bG;rw [if_pos h2]
  rw [e1] at hG;rw [e2,Ei hG];refine ⟨?_,rfl⟩;rw [if_pos h2] at hb;cases has with
  | true=>
   rw [if_pos rfl] at hb;by_cases ht:(x.take (bytesOf lost)).e=0/\(x.take (bytesOf lost)).c=(bytesOf lost).length
   ·rw [if_pos ht] at hb;cases hb
    exact (field.Fd.jS (field.dO lost) ht.1).1
   ·rw [if_neg ht] at hb
    exact t110
  | false=>
   rw [if_neg si_] at hb;cases hb
   exact h.c2 h2
 ·have e1:bF s x=[s.f]:=by unfold bF dG;simp only;rw [h3];rfl
  have e2:bG s y=[y]:=by unfold bG;rw [h3];rfl
  rw [e1] at hG;obtain ⟨z,rfl,hz⟩:=kK hG;rw [if_neg om_,if_neg om_,if_neg om_,if_neg om_,if_neg om_] at hb;obtain ⟨k1,k2⟩:=sO hb;rw [e2];exact ⟨k1,by rw [<-k2];rfl⟩
 ·have e1:bF s x=[{ x with lo:=low ⟨s,0,[],false,0,x⟩,hi:=high ⟨s,0,[],false,0,x⟩}]:=by unfold bF dG;simp only;rw [h4];rfl
  have e2:bG s y=[vn (s.a*y.n+s.b)]:=by unfold bG;rw [h4];rfl
  obtain ⟨hk,ha⟩:=h.c4 h4;rw [e1] at hG;obtain ⟨z,rfl,hz⟩:=kK hG;have hzs:=oJ hz (by show x.kind≠4;omega);rw [if_neg om_,if_neg om_,if_pos h4] at hb;simp only [List.getD_cons_zero] at hb;by_cases hm:(z.n - s.b).tmod s.a=0
  ·rw [if_neg (by simpa using hm)] at hb;obtain ⟨k1,k2⟩:=sO hb;rw [e2,<-k2];refine ⟨k2 ▸ k1, ?_⟩;have:s.a*((z.n - s.b).tdiv s.a)=z.n - s.b:=Int.mul_tdiv_cancel_of_tmod_eq_zero hm;show [vn (s.a*((z.n - s.b).tdiv s.a)+s.b)]=[z]
   rw [this,hzs];show [vn ((vn z.n).n - s.b+s.b)]=_
   rw [show (vn z.n).n - s.b+s.b=z.n by show z.n - s.b+s.b=z.n;omega]
  ·rw [if_pos hm] at hb
   exact t110
 ·have e1:bF s x=[{ x with most:=s.a}]:=by unfold bF dG;simp only;rw [h5];rfl
  have e2:bG s y=[vn (s.t.getD y.n.toNat 0)]:=by unfold bG;rw [h5];rfl
  obtain ⟨hk,hm,ht1,ht2,ht3⟩:=h.c5 h5;rw [e1] at hG;obtain ⟨z,rfl,hz⟩:=kK hG;have hzs:=oJ hz (by show x.kind≠4;omega);rw [if_neg om_,if_neg om_,if_neg om_,if_pos h5] at hb;simp only [List.getD_cons_zero] at hb;by_cases hmem:z.n∈s.t
  ·rw [if_pos hmem] at hb;obtain ⟨k1,k2⟩:=sO hb;rw [e2,<-k2];refine ⟨k2 ▸ k1, ?_⟩;have hl:=List.idxOf_lt_length_of_mem hmem;show [vn (s.t.getD (((s.t.idxOf z.n:Nat):Int)).toNat 0)]=[z]
   rw [Int.toNat_natCast,List.getD_eq_getElem?_getD,List.getElem?_eq_getElem hl,List.getElem_idxOf];conv=>rhs;rw [hzs]
   rfl
  ·rw [if_neg hmem] at hb
   exact t110
 ·have e1:bF s x=[{ x with hi:=Int.tdiv x.hi s.a},⟨s.tt,1,0,mn (s.a - 1) x.hi,0⟩]:=by unfold bF dG;simp only;rw [h6];rfl
  have e2:bG s y=[vn (y.n.tdiv s.a),vn (y.n.tmod s.a)]:=by unfold bG;rw [h6];rfl
  obtain ⟨hk,hlo,ha⟩:=h.c6 h6;rw [e1] at hG;obtain ⟨z1,z2,rfl,hz1,hz2⟩:=Gn hG;have hs1:=oJ hz1 (by show x.kind≠4;omega);have hs2:=oJ hz2 (by show (1:Int)≠4;omega);have hb1:=hz1.2.1;have hb2:=hz2.2.1;rw [iM (show ({ x with hi:=Int.tdiv x.hi s.a}:field.Fd).kind=1 from hk)] at hb1;rw [iM (show (⟨s.tt,1,0,mn (s.a - 1) x.hi,0⟩:field.Fd).kind=1 from rfl)] at hb2;simp only at hb1 hb2;have hmn:mn (s.a - 1) x.hi<=s.a - 1:=by unfold mn;split <;> omega
  rw [if_neg om_,if_neg om_,if_neg om_,if_neg om_,if_pos h6] at hb;simp only [List.getD_cons_zero,List.getD_cons_succ] at hb;obtain ⟨k1,k2⟩:=sO hb;rw [e2,<-k2];refine ⟨k2 ▸ k1, ?_⟩;have h0:0<=z1.n*s.a:=Int.mul_nonneg om_ om_;have d1:(z1.n*s.a+z2.n).tdiv s.a=z1.n:=by
   rw [Int.tdiv_eq_ediv_of_nonneg om_,Int.add_comm,Int.add_mul_ediv_right _ _ om_,Int.ediv_eq_zero_of_lt om_ om_];omega
  have d2:(z1.n*s.a+z2.n).tmod s.a=z2.n:=by
   rw [Int.tmod_eq_emod_of_nonneg om_,Int.add_comm,Int.add_mul_emod_self_right,Int.emod_eq_of_lt om_ om_]
  show [vn ((z1.n*s.a+z2.n).tdiv s.a),vn ((z1.n*s.a+z2.n).tmod s.a)]=[z1,z2]
  rw [d1,d2,<-hs1,<-hs2]
 ·have e1:bF s x=[{ x with id:=s.tt}]:=by unfold bF dG;simp only;rw [h8];rfl
  have e2:bG s y=[y]:=by unfold bG;rw [h8];rfl
  rw [e1] at hG;obtain ⟨z,rfl,hz⟩:=kK hG;rw [if_neg om_,if_pos h8] at hb;cases hb
  rw [e2];exact ⟨⟨h.right,hz.2.1,hz.2.2⟩,rfl⟩
end turn
theorem t115{P:Prop}(h:P:=by
 rw [if_neg (by simpa using h0),if_pos hR] at h;simp at h):P:=h
namespace turn
open Go.RowKit schema step typing
open field (Va bytesOf gW gy)
open record (aY Has dJ qo dN mF nK)
theorem uV {v:Int} {F:List schema.Form} {s:Sp} (h:(on v F s).2.2=0):
  (on v F s).2.1=applied F (aC F s)/\found (aC F s)=true/\twice (aC F s)=false/\beyond (aC F s)=false/\iP (aC F s)=true:=by
 have hf:=(jw h).1;unfold on at h ⊢;rw [if_pos hf] at h ⊢;by_cases he:err (aC F s)=0
 ·rw [if_pos he] at h ⊢;refine ⟨?_, ?_⟩
  ·by_cases hr:Right v (applied F (aC F s))
   ·rw [if_pos hr]
   ·rw [if_neg hr] at h;simp at h
  ·unfold err at he;cases h1:found (aC F s) <;> cases h2:twice (aC F s) <;> cases h3:beyond (aC F s) <;> cases h4:iP (aC F s) <;> simp [h1,h2,h3,h4] at he ⊢
 ·rw [if_neg he] at h;exact absurd h he
theorem qV {F:List schema.Form} {x:Int} {p:schema.Form} (hs:Sorted F):named F x=some p↔p∈F/\p.1=x:=by
 refine ⟨bH, ?_⟩;rintro ⟨h1,h2⟩;cases hn:named F x with
 | none=>exact absurd (List.mem_map_of_mem (f:=(·.1)) h1) (by rw [h2];exact uQ hn)
 | some q=>
  obtain ⟨h3,h4⟩:=bH hn;have e1:=pos_at hs h1;have e2:=pos_at hs h3;rw [h2] at e1;rw [h4] at e2;rw [e1] at e2;exact e2.symm
inductive Now (F:List schema.Form) (s:Sp):List schema.Form->Prop
 | form:s.op=9->named F s.fm=none->Now F s (F.take (pos F s.fm)++([(s.fm,s.l)]++F.drop (pos F s.fm)))
 | gone (L:List field.Fd):s.op=10->named F s.fm=some (s.fm,L)->Now F s (F.filter (fun p=>decide (p.1≠s.fm)))
 | other (L:List field.Fd):s.op≠9->s.op≠10->named F s.fm=some (s.fm,L)->aC F s=⟨s,s.fm,L,true,au (ids L) s.fd,bQ L (au (ids L) s.fd)⟩->Now F s (F.set (pos F s.fm) (s.fm,fields (aC F s)))
theorem yN {v:Int} {F:List schema.Form} {s:Sp} (h:(on v F s).2.2=0):Now F s (on v F s).2.1:=by
 obtain ⟨e0,e1,e2,e3,e4⟩:=uV h;have hs:=fQ (jw h).1.1;rw [e0];by_cases h9:s.op=9
 ·have ha:applied F (aC F s)=F.take (pos F s.fm)++([(s.fm,s.l)]++F.drop (pos F s.fm)):=by unfold applied;rw [kZ,if_pos h9]
  rw [ha];refine .form h9 ?_;unfold twice at e2;rw [kZ,if_pos h9] at e2;cases hn:named F s.fm with
  | none=>rfl
  | some p=>unfold aC at e2;rw [hn] at e2;simp at e2
 obtain ⟨p,hp⟩:=rO e1 h9;obtain ⟨x,L⟩:=p;obtain ⟨hm,hx⟩:=bH hp;simp only at hx;subst hx;by_cases h10:s.op=10
 ·have ha:applied F (aC F s)=F.take (pos F s.fm)++F.drop (pos F s.fm+1):=by unfold applied;rw [kZ,if_neg h9,if_pos h10]
  rw [ha,<-go_cut hs hm [],yJ];exact .gone L h10 hp
 ·have hb:aC F s=⟨s,s.fm,L,true,au (ids L) s.fd,bQ L (au (ids L) s.fd)⟩:=by unfold aC;rw [hp]
  have ha:applied F (aC F s)=F.set (pos F s.fm) (s.fm,fields (aC F s)):=by unfold applied;rw [kZ,if_neg h9,if_neg h10,Dz hs hp]
  rw [ha];exact .other L h9 h10 hp hb
theorem BX {v:Int} {F:List schema.Form} {s:Sp} (h:(on v F s).2.2=0) {j:Int} (hj:j≠s.fm):named (on v F s).2.1 j=named F j:=by
 have hs:=fQ (jw h).1.1;have hs':=fQ (jw h).2.2.1;have hkeep:=(jw h).2.2.2;have hrev:∀q∈(on v F s).2.1,q.1≠s.fm->q∈F:=by
  intro q hq hn;have hN:=yN h;generalize (on v F s).2.1=G at hN hq;cases hN with
  | form _ _=>
   rcases List.mem_append.1 hq with h | h
   ·exact List.mem_of_mem_take h
   ·rcases List.mem_append.1 h with h | h
    ·rw [List.mem_singleton] at h;rw [h] at hn;exact absurd rfl hn
    ·exact List.mem_of_mem_drop h
  | gone L _ _=>exact (List.mem_filter.1 hq).1
  | other L _ _ _ _=>
   rcases List.mem_or_eq_of_mem_set hq with h | h
   ·exact h
   ·rw [h] at hn;exact absurd rfl hn
 cases hn:named F j with
 | some p=>
  obtain ⟨h1,h2⟩:=bH hn;exact (qV hs').2 ⟨hkeep p h1 (by rw [h2];exact hj),h2⟩
 | none=>
  cases hn':named (on v F s).2.1 j with
  | none=>rfl
  | some q=>
   obtain ⟨h1,h2⟩:=bH hn';rw [(qV hs).2 ⟨hrev q h1 (by rw [h2];exact hj),h2⟩] at hn;cases hn
theorem xA {v:Int} {F:List schema.Form} {s:Sp} (h:(on v F s).2.2=0) {j:Int} (hj:j≠s.fm) (V:List Va):fH (on v F s).2.1 j V↔fH F j V:=by
 unfold fH;rw [BX h hj]
theorem aZ {F:List schema.Form} {x:Int} {L:List field.Fd} (h:named F x=some (x,L)):fieldsOf F x=L:=by unfold fieldsOf;rw [h]
theorem jQ {F:List schema.Form} {x:Int} {L:List field.Fd} (h:named F x=some (x,L)) (V:List Va):fH F x V↔Has x L x V:=by
 unfold fH;constructor
 ·rintro ⟨L',h1,h2⟩;rw [h] at h1;cases h1;exact h2
 ·exact fun h2=>⟨L,h,h2⟩
structure Form1 (v:Int) (F:List schema.Form) (s:Sp) (L:List field.Fd):Prop where
 here:named F s.fm=some (s.fm,L)
 there:named (on v F s).2.1 s.fm=some (s.fm,fields (aC F s))
 begin':aC F s=⟨s,s.fm,L,true,au (ids L) s.fd,bQ L (au (ids L) s.fd)⟩
 fine:Fine (s.fm,L)
 fine':Fine (s.fm,fields (aC F s))
theorem Dk {v:Int} {F:List schema.Form} {s:Sp} (h:(on v F s).2.2=0) (h9:s.op≠9) (h10:s.op≠10):∃L,Form1 v F s L:=by
 have hs:=fQ (jw h).1.1;have hr:=(jw h).1.1;have hr':=(jw h).2.2.1;have hs':=fQ hr';have hN:=yN h;generalize hG:(on v F s).2.1=G at hN;cases hN with
 | form a _=>exact absurd a h9
 | gone _ a _=>exact absurd a h10
 | other L _ _ hn hb=>
  have hm:=(bH hn).1;have hlt:pos F s.fm<F.length:=by
   have:=pos_at hs hm;exact (List.getElem?_eq_some_iff.1 this).1
  have hmem:(s.fm,fields (aC F s))∈(on v F s).2.1:=by
   rw [hG];exact List.mem_iff_getElem?.2 ⟨pos F s.fm,by rw [List.getElem?_set_self hlt]⟩
  exact ⟨L,hn,(qV hs').2 ⟨hmem,rfl⟩,hb,hr.2.2.1 _ hm,hr'.2.2.1 _ hmem⟩
theorem tq {v:Int} {F:List schema.Form} {s:Sp} (h:(on v F s).2.2=0):1<=s.op/\s.op<=10:=Gh (jw h).1
theorem jv {v:Int} {F:List schema.Form} {s:Sp} {L:List field.Fd} (h:(on v F s).2.2=0) (hF:Form1 v F s L) (h1:s.op≠1) (h9:s.op≠9) (h10:s.op≠10):
  ∃k:Nat,au (ids L) s.fd=k/\k<L.length/\L[k]?=some (bQ L (au (ids L) s.fd))/\(bQ L (au (ids L) s.fd)).id=s.fd/\(bQ L (au (ids L) s.fd)).Right:=by
 have e1:=(uV h).2.1;rw [hF.begin'] at e1;unfold found at e1;simp only at e1;rw [if_neg h9,if_neg om_] at e1;have hk:=of_decide_eq_true e1;obtain ⟨hl,ha⟩:=jP hk;rw [je] at hl;have ho:bQ L (au (ids L) s.fd)=L[(au (ids L) s.fd).toNat]:=by
  unfold bQ;rw [if_pos hk,List.getD_eq_getElem?_getD,List.getElem?_eq_getElem hl];rfl
 refine ⟨(au (ids L) s.fd).toNat,by omega,hl,by rw [ho,List.getElem?_eq_getElem hl], ?_, ?_⟩
 ·rw [ho];have ha2:(L.map field.Fd.id)[(au (ids L) s.fd).toNat]?=some s.fd:=ha;rw [List.getElem?_map,List.getElem?_eq_getElem hl] at ha2;simpa using ha2
 ·rw [ho];exact hF.fine.2.2.1.1 _ (List.getElem_mem _)
theorem jh {v:Int} {F:List schema.Form} {s:Sp} (h:(on v F s).2.2=0) {m:Nat} (hm:m∈step.mem s.op):s.Fine m:=mX (jw h).1 hm
theorem tN {v:Int} {F:List schema.Form} {s:Sp} {L:List field.Fd} (h:(on v F s).2.2=0) (hF:Form1 v F s L) (h1:s.op≠1) (h7:s.op≠7) (h9:s.op≠9) (h10:s.op≠10):Suit s (bQ L (au (ids L) s.fd)):=by
 obtain ⟨k,_,_,_,_,hr⟩:=jv h hF h1 h9 h10;have e4:=(uV h).2.2.2.2;rw [hF.begin'] at e4;unfold iP at e4;simp only at e4;have hop:=tq h;generalize bQ L (au (ids L) s.fd)=x at *;refine ⟨by omega,hr,fun h2=> ?_,fun h3=> ?_,fun h4=> ?_,fun h5=> ?_,fun h6=> ?_⟩
 ·rw [if_pos h2] at e4;exact of_decide_eq_true e4
 ·rw [if_neg om_,if_pos h3] at e4;exact of_decide_eq_true e4
 ·rw [if_neg om_,if_neg om_,if_pos h4] at e4;have hm:=jh h (m:=5) (by rw [h4];decide);unfold Sp.Fine at hm;simp only [Nat.reduceEqDiff,if_false,if_true] at hm;exact ⟨(of_decide_eq_true e4).1,hm.1.2⟩
 ·rw [if_neg om_,if_neg om_,if_neg om_,if_pos h5] at e4;have hm:=jh h (m:=6) (by rw [h5];decide);unfold Sp.Fine at hm;simp only [Nat.reduceEqDiff,if_false,if_true] at hm;have e4:=of_decide_eq_true e4;exact ⟨e4.1,e4.2,hm.2⟩
 ·rw [if_neg om_,if_neg om_,if_neg om_,if_neg om_,if_pos h6] at e4;have hm:=jh h (m:=4) (by rw [h6];decide);unfold Sp.Fine at hm;simp only [Nat.reduceEqDiff,if_false,if_true] at hm;have e4:=of_decide_eq_true e4;exact ⟨e4.1,e4.2,hm.1⟩
theorem oU {v:Int} {F:List schema.Form} {s:Sp} {L:List field.Fd} (hF:Form1 v F s L) {k:Nat} (hk:au (ids L) s.fd=k) (h1:s.op≠1) (h7:s.op≠7):
  fields (aC F s)=L.take k++(bF s (bQ L (au (ids L) s.fd))++L.drop (k+1)):=by
 rw [hF.begin'];unfold fields;simp only;rw [if_neg h1,if_neg h7,hk,Int.toNat_natCast];rfl
theorem lN {v:Int} {F:List schema.Form} {s:Sp} {L:List field.Fd} (h:(on v F s).2.2=0) (hF:Form1 v F s L) (h1:s.op=1):fields (aC F s)=jf L s.pl.toNat s.f/\s.pl.toNat<=L.length/\s.f.Has s.v:=by
 have e3:=(uV h).2.2.2.1;rw [hF.begin'] at e3 ⊢;unfold beyond at e3;simp only at e3;rw [if_pos h1] at e3;have e3:=of_decide_eq_false e3;have hm:=jh h (m:=9) (by rw [h1];decide);unfold Sp.Fine at hm;simp only [Nat.reduceEqDiff,if_false,if_true] at hm;refine ⟨?_,by omega,hm⟩;unfold fields;simp only;rw [if_pos h1]
theorem kH {v:Int} {F:List schema.Form} {s:Sp} {L:List field.Fd} (h:(on v F s).2.2=0) (hF:Form1 v F s L) {k:Nat} (hk:au (ids L) s.fd=k) (hl:k<L.length) (h7:s.op=7):
  fields (aC F s)=jf (jo L k) s.pl.toNat (bQ L (au (ids L) s.fd))/\s.pl.toNat<=(jo L k).length:=by
 have e3:=(uV h).2.2.2.1;rw [hF.begin'] at e3 ⊢;unfold beyond at e3;simp only at e3;rw [if_neg om_,if_pos h7] at e3;have e3:=of_decide_eq_false e3;rw [jq hl];refine ⟨?_,by omega⟩;unfold fields;simp only;rw [if_neg om_,if_pos h7,hk,Int.toNat_natCast]
theorem jK {A:List field.Fd} {i:Nat} {f:field.Fd} (hn:(ids (jf A i f)).Nodup) (hi:i<=A.length):au (ids (jf A i f)) f.id=i:=by
 refine oH hn ?_;unfold ids jf;rw [List.getElem?_map];have:(A.take i++([f]++A.drop i))[i]?=some f:=by
  rw [List.getElem?_append_right (by simp;omega)];simp [Nat.min_eq_left hi]
 rw [this];rfl
theorem Gl {v:Int} {F:List schema.Form} {s:Sp} {L:List field.Fd} {V:List Va} (h:(on v F s).2.2=0) (hF:Form1 v F s L) (h9:s.op≠9) (h10:s.op≠10) (hV:aY L V):
  aY (fields (aC F s)) (fwd s (atI F s).toNat V)/\
  bwd v F s (fwd s (atI F s).toNat V) (if s.op=2 then strOf ((jH F s).bZ (V.getD (atI F s).toNat va0)) else ⟨#[]⟩) (decide (s.op=2))=(V,0):=by
 have hlen:=hV.length;have hfo:=aZ hF.here;have hfn:=aZ hF.there;unfold bwd;unfold jH atI;rw [hfo,hfn,if_neg h9];by_cases h1:s.op=1
 ·obtain ⟨e,hi,hh⟩:=lN h hF h1;have hf':fwd s (au (ids L) s.fd).toNat V=iQ V s.pl.toNat s.v:=by unfold fwd;rw [if_pos h1]
  have hnd:=hF.fine'.2.2.1.2;rw [e] at hnd ⊢;rw [hf',if_pos h1];refine ⟨(pY hlen).2 ⟨hV,hh⟩, ?_⟩;rw [jK hnd hi,Int.toNat_natCast,sQ om_]
 rw [if_neg h1];obtain ⟨k,hk,hkl,hLk,hxid,hxr⟩:=jv h hF h1 h9 h10;have hVk:=iR (V:=V) (k:=k) om_;have hy:=(lZ hLk hVk).1 hV;rw [show (au (ids L) s.fd).toNat=k by omega];by_cases h7:s.op=7
 ·obtain ⟨e,hi⟩:=kH h hF hk hkl h7;have hf':fwd s k V=iQ (cutV V k) s.pl.toNat (V.getD k va0):=by unfold fwd;rw [if_neg h1,if_pos h7]
  have hnd:=hF.fine'.2.2.1.2;rw [e] at hnd ⊢;rw [hf',if_pos h7];have hcl:(jo L k).length=(cutV V k).length:=by rw [jq hkl,kD om_];omega
  refine ⟨(pY hcl).2 ((zW hLk hVk).1 hV), ?_⟩;have hfi:=jK hnd hi;rw [hxid] at hfi;rw [hfi,Int.toNat_natCast,sQ om_,uI om_,tJ hVk]
 rw [if_neg h7];have hS:=tN h hF h1 h7 h9 h10;have e:=oU hF hk h1 h7;have hr':∀f∈bF s (bQ L (au (ids L) s.fd)),f.Right:=fun f hf=>hF.fine'.2.2.1.1 f (by rw [e];simp [hf])
 obtain ⟨k1,k2⟩:=Kz hS hy.2.1 hr';have hf':fwd s k V=V.take k++(bG s (V.getD k va0)++V.drop (k+1)):=by unfold fwd;rw [if_neg h1,if_neg h7]
 have hl1:=oW hS;have hl2:=BM hS (V.getD k va0);have htk:(V.take k).length=k:=by simp;omega
 rw [e,hf'];refine ⟨(pX (by simp;omega) (by rw [hl1,hl2])).2 ⟨hy.1,k1,hy.2.2⟩, ?_⟩;have hseg:(List.drop k (V.take k++(bG s (V.getD k va0)++V.drop (k+1)))).take (many s)=bG s (V.getD k va0):=by
  rw [zu htk];exact List.take_left' hl2
 unfold yM at k2;rw [hseg,k2,if_neg si_,qC htk,qK htk hl2];simp only;rw [<-jV hVk]
theorem Ir {v:Int} {F:List schema.Form} {s:Sp} {L:List field.Fd} {V U:List Va} {lost:ByteArray} {has:Bool} (h:(on v F s).2.2=0) (hF:Form1 v F s L) (h9:s.op≠9) (h10:s.op≠10) (hV:aY (fields (aC F s)) V)
  (hb:bwd v F s V lost has=(U,0)):aY L U/\(if s.op=1 then (fwd s (atI F s).toNat U).length=V.length else fwd s (atI F s).toNat U=V):=by
 have hlen:=hV.length;have hfo:=aZ hF.here;have hfn:=aZ hF.there;unfold bwd at hb;unfold jH at hb;unfold atI at hb ⊢;rw [hfo] at hb ⊢;rw [hfn,if_neg h9] at hb;by_cases h1:s.op=1
 ·obtain ⟨e,hi,hh⟩:=lN h hF h1;have hnd:=hF.fine'.2.2.1.2;rw [e] at hnd hV hlen;have hpl:(jf L s.pl.toNat s.f).length=L.length+1:=by unfold jf;simp;omega
  rw [e,if_pos h1,jK hnd hi,Int.toNat_natCast] at hb;cases hb
  have hVk:=iR (V:=V) (k:=s.pl.toNat) om_;have hV2:=hV;rw [<-tJ hVk] at hV2;have hcl:L.length=(cutV V s.pl.toNat).length:=by rw [kD om_];omega
  refine ⟨((pY hcl).1 hV2).1, ?_⟩;rw [if_pos h1];unfold fwd;rw [if_pos h1,rZ];omega
 rw [if_neg h1] at hb;rw [if_neg h1];obtain ⟨k,hk,hkl,hLk,hxid,hxr⟩:=jv h hF h1 h9 h10;rw [show (au (ids L) s.fd).toNat=k by omega] at hb ⊢;by_cases h7:s.op=7
 ·obtain ⟨e,hi⟩:=kH h hF hk hkl h7;have hnd:=hF.fine'.2.2.1.2;rw [e] at hnd hV hlen;have hfi:=jK hnd hi;rw [hxid] at hfi;rw [e,if_pos h7,hfi,Int.toNat_natCast] at hb;cases hb
  have hpl:(jf (jo L k) s.pl.toNat (bQ L (au (ids L) s.fd))).length=(jo L k).length+1:=by unfold jf;simp;omega
  have hVk:=iR (V:=V) (k:=s.pl.toNat) om_;have hcc:=jq hkl;have hcv:(cutV V s.pl.toNat).length=V.length - 1:=kD om_;have hV2:=hV;rw [<-tJ hVk] at hV2;have hW:=(pY om_).1 hV2;have hki:k<=(cutV V s.pl.toNat).length:=by omega
  have hUk:(iQ (cutV V s.pl.toNat) k (V.getD s.pl.toNat va0))[k]?=some (V.getD s.pl.toNat va0):=by
   have:=iR (V:=iQ (cutV V s.pl.toNat) k (V.getD s.pl.toNat va0)) (k:=k) (by rw [rZ];omega);rwa [uI hki] at this
  refine ⟨(zW hLk hUk).2 (by rw [sQ hki];exact hW), ?_⟩;unfold fwd;rw [if_neg h1,if_pos h7,sQ hki,uI hki,tJ hVk]
 rw [if_neg h7] at hb;have hS:=tN h hF h1 h7 h9 h10;have e:=oU hF hk h1 h7;have hl1:=oW hS;rw [e] at hV hlen;have hVs:=EQ V k (many s);have hlV:V.length=k+many s+(L.length - (k+1)):=by
  rw [<-hlen];simp [hl1];omega
 have htk:(V.take k).length=k:=by simp;omega
 have hts:((V.drop k).take (many s)).length=many s:=by simp;omega
 rw [hVs] at hV;obtain ⟨a1,a2,a3⟩:=(pX (by simp;omega) (by rw [hl1,hts])).1 hV;by_cases hbe:(aV s (bQ L (au (ids L) s.fd)) ((V.drop k).take (many s)) lost has).2≠0
 ·rw [if_pos hbe] at hb;exact absurd (Prod.mk.inj hb).2 hbe
 rw [if_neg hbe] at hb;obtain ⟨y,hy⟩:∃y,aV s (bQ L (au (ids L) s.fd)) ((V.drop k).take (many s)) lost has=(y,0):=⟨_,Prod.ext rfl (Classical.not_not.1 hbe)⟩;rw [hy] at hb;cases hb
 obtain ⟨k1,k2⟩:=GV hS a2 hy;have hUk:(V.take k++([y]++V.drop (k+many s)))[k]?=some y:=by
  rw [List.getElem?_append_right om_];simp [htk]
 have d1:(V.take k++([y]++V.drop (k+many s))).take k=V.take k:=qC htk;have d2:(V.take k++([y]++V.drop (k+many s))).drop (k+1)=V.drop (k+many s):=qK htk rfl;refine ⟨(lZ hLk hUk).2 ⟨by rw [d1];exact a1,k1,by rw [d2];exact a3⟩, ?_⟩;have hg:(V.take k++([y]++V.drop (k+many s))).getD k va0=y:=zT htk;unfold fwd;rw [if_neg h1,if_neg h7,hg,d1,d2,k2];exact hVs.symm
theorem lg {v:Int} {F:List schema.Form} {s:Sp} (h:(on v F s).2.2=0) (h10:s.op=10):∃L,named F s.fm=some (s.fm,L)/\named (on v F s).2.1 s.fm=none:=by
 have hN:=yN h;generalize hG:(on v F s).2.1=G at hN;cases hN with
 | form a _=>omega
 | other _ _ a _ _=>exact absurd h10 a
 | gone L _ hn=>
  refine ⟨L,hn, ?_⟩;cases hq:named (F.filter (fun p=>decide (p.1≠s.fm))) s.fm with
  | none=>rfl
  | some q=>
   obtain ⟨h1,h2⟩:=bH hq;have:=(List.mem_filter.1 h1).2;simp [h2] at this
theorem xJ {v:Int} {F:List schema.Form} {s:Sp} (h:(on v F s).2.2=0) (h9:s.op=9):named F s.fm=none:=by
 have hN:=yN h;generalize (on v F s).2.1=G at hN;cases hN with
 | form _ a=>exact a
 | other _ a _ _ _=>exact absurd h9 a
 | gone _ a _=>omega
theorem Fb {v:Int} {F:List schema.Form} {s:Sp} {j:Int} {V:List Va} (h:(onR v F s j V).e=0):
  (on v F s).2.2=0/\((onR v F s j V).gone=true->(onR v F s j V).has=true/\(onR v F s j V).V=[]/\bC v F s (onR v F s j V).lost=(j,V,0))/\
  ((onR v F s j V).gone=false->(onR v F s j V).j=j/\fH (on v F s).2.1 j (onR v F s j V).V/\backR v F s j (onR v F s j V).V (onR v F s j V).lost (onR v F s j V).has=(j,V,0)):=by
 by_cases h0:(on v F s).2.2=0
 ·refine ⟨h0, ?_⟩;by_cases hR:fH F j V
  ·by_cases hj:j=s.fm
   ·subst hj;by_cases h10:s.op=10
    ·have e:onR v F s s.fm V=⟨0,[],true,true,strOf (dJ (fieldsOf F s.fm) V),0⟩:=by unfold onR;rw [if_neg (by simpa using h0),if_neg (by simpa using hR),if_neg si_,if_pos h10]
     rw [e];refine ⟨fun _=>⟨rfl,rfl, ?_⟩,fun hg=>by cases hg⟩;obtain ⟨L,hn,_⟩:=lg h0 h10;have hH:=(jQ hn V).1 hR;rw [aZ hn];unfold bC;rw [if_neg (by simpa using h0),if_neg (by simpa using h10),aZ hn,gy (qo L V),mF hH];simp
    ·have e:onR v F s s.fm V=⟨s.fm,fwd s (atI F s).toNat V,false,decide (s.op=2),if s.op=2 then strOf ((jH F s).bZ (V.getD (atI F s).toNat va0)) else ⟨#[]⟩,0⟩:=by
      unfold onR;rw [if_neg (by simpa using h0),if_neg (by simpa using hR),if_neg si_,if_neg h10]
     have h9:s.op≠9:=by
      intro h9;obtain ⟨L,hn,_⟩:=hR;rw [xJ h0 h9] at hn;cases hn
     obtain ⟨L,hF⟩:=Dk h0 h9 h10
     have hH:=(jQ hF.here V).1 hR
     obtain ⟨k1,k2⟩:=Gl h0 hF h9 h10 hH.2.2
     have hR':fH (on v F s).2.1 s.fm (fwd s (atI F s).toNat V):=(jQ hF.there _).2 ⟨hF.fine',rfl,k1⟩
     rw [e]
     refine ⟨fun hg=>(by simp at hg),fun _=>⟨rfl,hR', ?_⟩⟩
     unfold backR
     simp only
     rw [if_neg (by simpa using h0),if_neg (by simpa using hR'),if_neg si_,k2]
     simp
   ·have e:onR v F s j V=⟨j,V,false,false,⟨#[]⟩,0⟩:=by unfold onR;rw [if_neg (by simpa using h0),if_neg (by simpa using hR),if_pos hj]
    have hR':=(xA h0 hj V).2 hR;rw [e];refine ⟨fun hg=>(by simp at hg),fun _=>⟨rfl,hR', ?_⟩⟩;unfold backR;simp only;rw [if_neg (by simpa using h0),if_neg (by simpa using hR'),if_pos hj]
  ·exfalso;unfold onR at h
   exact t115
 ·exfalso;unfold onR at h;rw [if_pos h0] at h;simp only at h;omega
theorem vN {v:Int} {F:List schema.Form} {s:Sp} {j i:Int} {V U:List Va} {lost:ByteArray} {has:Bool} (h:backR v F s j V lost has=(i,U,0)):
  (on v F s).2.2=0/\i=j/\fH F j U/\(onR v F s j U).e=0/\(onR v F s j U).gone=false/\(onR v F s j U).j=j/\(if s.op=1/\j=s.fm then (onR v F s j U).V.length=V.length else (onR v F s j U).V=V):=by
 by_cases h0:(on v F s).2.2=0
 ·refine ⟨h0, ?_⟩;unfold backR at h;rw [if_neg (by simpa using h0)] at h;by_cases hR:fH (on v F s).2.1 j V
  ·rw [if_neg (by simpa using hR)] at h;by_cases hj:j=s.fm
   ·subst hj;rw [if_neg si_] at h;by_cases hb:(bwd v F s V lost has).2=0
    ·rw [if_neg (by simpa using hb)] at h;cases h
     have h10:s.op≠10:=by
      intro h10;obtain ⟨_,_,hn⟩:=lg h0 h10;obtain ⟨L,hn',_⟩:=hR;rw [hn] at hn';cases hn'
     have h9:s.op≠9:=by
      intro h9;unfold bwd at hb;rw [if_pos h9] at hb;simp at hb
     obtain ⟨L,hF⟩:=Dk h0 h9 h10;have hH:=(jQ hF.there V).1 hR;obtain ⟨k1,k2⟩:=Ir h0 hF h9 h10 hH.2.2 (Prod.ext rfl hb:bwd v F s V lost has=((bwd v F s V lost has).1,0));have hR':fH F s.fm (bwd v F s V lost has).1:=(jQ hF.here _).2 ⟨hF.fine,rfl,k1⟩;have e:onR v F s s.fm (bwd v F s V lost has).1=⟨s.fm,fwd s (atI F s).toNat (bwd v F s V lost has).1,false,decide (s.op=2),if s.op=2 then strOf ((jH F s).bZ ((bwd v F s V lost has).1.getD (atI F s).toNat va0)) else ⟨#[]⟩,0⟩:=by
      unfold onR;rw [if_neg (by simpa using h0),if_neg (by simpa using hR'),if_neg si_,if_neg h10]
     rw [e];refine ⟨rfl,hR',rfl,rfl,rfl, ?_⟩;simpa using k2
    ·rw [if_pos hb] at h;exact absurd (Prod.mk.inj (Prod.mk.inj h).2).2 hb
   ·rw [if_pos hj] at h;cases h
    have hR':=(xA h0 hj V).1 hR;have e:onR v F s j V=⟨j,V,false,false,⟨#[]⟩,0⟩:=by unfold onR;rw [if_neg (by simpa using h0),if_neg (by simpa using hR'),if_pos hj]
    rw [e];refine ⟨rfl,hR',rfl,rfl,rfl, ?_⟩;rw [if_neg (fun k=>hj k.2)]
  ·rw [if_pos hR] at h
   exact t96
 ·exfalso;unfold backR at h;rw [if_pos h0] at h;have:=(Prod.mk.inj (Prod.mk.inj h).2).2;omega
end turn
namespace turn
open Go Go.RowKit schema
open record (vaC vaV qF dR gX vS tC)
open field (Va)
open step (va0)
theorem iE:Hid ((prog.info? 54).map (·.size)=some 2):=by show _=_;kernel_rfl
def Own (B:Nat) (w:World) (u:Value) (V:List Va):Prop:=w.ownsRow B 54 2 u V.length (vaV V)
variable {B:Nat} {w w':World} {u:Value} {V:List Va}
theorem Own.later (h:Own B w u V) (hb:Below w.heap.size w w'):Own B w' u V:=ai h hb
theorem Own.slice (h:Own B w u V):∃x c,u=.slice x V.length c/\V.length<=c/\field.Vas w x V:=by
 obtain ⟨x,c,rfl,hc⟩:=aA h;exact ⟨x,c,rfl,hc,(tC h).1⟩
theorem Own.at' (h:Own B w u V) {g:Nat} (hg:u.ownBlock=some g):B<=g/\g<w.heap.size:=World.ownsRow.lt h g hg
theorem Be (V:List Va) (k:Nat):(vaV V).take (k*2)=vaV (V.take k):=by
 by_cases h:k<=V.length
 ·conv=>lhs;rw [<-List.take_append_drop k V,gX]
  exact List.take_left' (by rw [dR,List.length_take,Nat.min_eq_left h])
 ·rw [List.take_of_length_le (by rw [dR];omega),List.take_of_length_le om_]
theorem Bc (V:List Va) (k:Nat):(vaV V).drop (k*2)=vaV (V.drop k):=by
 by_cases h:k<=V.length
 ·conv=>lhs;rw [<-List.take_append_drop k V,gX]
  exact List.drop_left' (by rw [dR,List.length_take,Nat.min_eq_left h])
 ·rw [List.drop_of_length_le (by rw [dR];omega),List.drop_of_length_le om_];rfl
theorem Ig (y:Va):vaV [y]=vaC y:=by simp [vaV]
theorem yV:∀(V:List Va) (k:Nat) (m:Int) (s:ByteArray),k<V.length->vaV (V.set k ⟨m,s⟩)=((vaV V).set (k*2) (.int .i64 m)).set (k*2+1) (.string s)
 | [],k,m,s,h=>by simp at h
 | p :: V,0,m,s,_=>by simp [vaV,vaC]
 | p :: V,k+1,m,s,h=>by
  have:=yV V k m s (by simpa using h);rw [List.set_cons_succ,vaV,this,vaV];rw [List.set_append_right _ _ (by simp [vaC];omega),List.set_append_right _ _ (by simp [vaC];omega)];simp only [vaC,List.length_cons,List.length_nil];rw [show (k+1)*2 - (0+1+1)=k*2 by omega,show (k+1)*2+1 - (0+1+1)=k*2+1 by omega]
theorem Own.block (h:Own B w u V) (h0:0<V.length):∃g cap C,u=.slice (some ⟨g,0,none⟩) V.length cap/\B<=g/\Block w g 54 C/\V.length<=cap/\cap<=maxLen/\C.length=cap*2/\C.take (V.length*2)=vaV V:=by
 rcases h.2 with ⟨_,h1⟩ | ⟨g,cap,cur,rfl,hb,hg,hn,hc,hs,ht⟩
 ·omega
 ·exact ⟨g,cap,cur.toList,rfl,hb,by simpa [Block] using hg,hn,hc,by simpa using hs,by simpa using ht⟩
theorem Own.get (h:Own B w u V) {k:Nat} (hk:k<V.length):∃g cap,u=.slice (some ⟨g,0,none⟩) V.length cap/\B<=g/\g<w.heap.size/\V.length<=cap/\cap<=maxLen/\w.rangeAt g (k*2) (vaC (V.getD k va0))/\
  w.there g (k*2) 2/\(∀m s,Own B (w.setCells g (k*2) [.int .i64 m,.string s]) u (V.set k ⟨m,s⟩))/\∀m,Own B (w.setCell ⟨g,k*2,none⟩ (.int .i64 m)) u (V.set k ⟨m,(V.getD k va0).s⟩):=by
 obtain ⟨g,cap,C,rfl,hb,hB,hn,hc,hl,ht⟩:=h.block om_;have key:∀c,c<2->C[k*2+c]?=(vaC (V.getD k va0))[c]?:=fun c hc2=>by
  have h1:=vS V k (V.getD k va0) c (iR hk) hc2;rw [<-ht,List.getElem?_take_of_lt om_] at h1;exact h1
 refine ⟨g,cap,rfl,hb,hB.lt,hn,hc,fun j v hj=> ?_,hB.there _ _ om_,fun m s=> ?_,fun m=> ?_⟩
 ·have hj2:j<2:=by have:=(List.getElem?_eq_some_iff.1 hj).1;simpa [vaC] using this
  rw [hB.cell,key j hj2];exact hj
 ·have h2:=hB.setCells (vs:=[.int .i64 m,.string s]) (o:=k*2);refine ⟨by rw [dR],.inr ⟨g,cap,_,by rw [List.length_set],hb,h2,by rw [List.length_set];exact hn,hc, ?_, ?_⟩⟩
  ·simp [put,hl]
  ·rw [yV V k m s hk,<-ht,List.length_set];simp only [put];rw [List.take_set,List.take_set]
 ·have h2:=hB.setCell (k*2) (.int .i64 m);refine ⟨by rw [dR],.inr ⟨g,cap,_,by rw [List.length_set],hb,h2,by rw [List.length_set];exact hn,hc, ?_, ?_⟩⟩
  ·simp [hl]
  ·have h3:=vS V k (V.getD k va0) 1 (iR hk) om_;have hlt:k*2+1<(vaV V).length:=by rw [dR];omega
   rw [List.getElem?_eq_getElem hlt] at h3;have h4:(vaV V)[k*2+1]=.string (V.getD k va0).s:=Option.some.inj h3;rw [yV V k m _ hk,List.length_set,List.set_comm _ _ om_,<-h4,List.set_getElem_self,<-ht,List.take_set]
def Turns (B:Nat) (u:Value) (U:List Va) (w:World) (e:Ending) (w':World):Prop:=∃v,e=.returned v/\Own B w' v U/\w.grownBy w' u.ownBlock
def KI (B:Nat) (u:Value) (U:List Va) (w:World) (e:Ending) (w':World):Prop:=∃v,e=.returned v/\Own B w' v U/\w.grownBy w' u.ownBlock/\v.ownBlock=u.ownBlock
theorem qi (h:Own B w u V) (hB:B<=w.heap.size) {i g:Nat} (y:Va) (hi:i<=V.length) (hG:Block w g 54 (vaC y)) (hg:u.ownBlock≠some g) (hn:V.length<=1000):
  Calls prog 160 #[u,.int .i64 (i:Int),.slice (some ⟨g,0,none⟩) 1 1] w (Turns B u (iQ V i y) w):=by
 refine (A8 B V.length i g 0 1 (vaC y) 54 u (vaV V) (vaC y) w h hB hi rfl hG (by simp [vaC]) hg (fun j v hj=>by rw [Nat.zero_add];exact hj) (record.DR y) (qF V) hn).mono ?_;rintro e w' ⟨v,rfl,ho,hw⟩;refine ⟨v,rfl, ?_,hw⟩;unfold Own iQ;rw [gX,gX,Ig,<-Be,<-Bc];have hl:(V.take i++([y]++V.drop i)).length=V.length+1:=by simp;omega
 rw [hl];exact ho
theorem nP (h:Own B w u V) {k:Nat} (hk:k<V.length) (hn:V.length<=1000):
  Calls prog 161 #[u,.int .i64 (k:Int),.int .i64 ((k:Int)+1)] w (KI B u (cutV V k) w):=by
 obtain ⟨N,hN⟩:∃N,V.length=N+1:=⟨V.length - 1,by omega⟩;have h':w.ownsRow B 54 2 u (N+1) (vaV V):=by rw [<-hN];exact h
 refine (zq B N k u (vaV V) w h' om_ (qF V) om_).mono ?_;rintro e w' ⟨v,rfl,ho,hw,hv⟩;refine ⟨v,rfl, ?_,hw,hv⟩;unfold Own cutV;rw [gX,<-Be,<-Bc];have hl:(V.take k++V.drop (k+1)).length=N:=by simp;omega
 rw [hl];exact ho
end turn
namespace schema
open Go.RowKit
theorem lT:∀L,∀u∈fmV L,u.oneCell'=true
 | [],u,h=>by simp [fmV] at h
 | p :: L,u,h=>by
  rw [fmV,List.mem_append] at h;rcases h with h | h
  ·simp [fmC] at h;rcases h with rfl | rfl <;> rfl
  ·exact lT L u h
theorem Di:∀(L:List Fm) (j:Nat) (u:Value),(fmV L)[j]?=some u->∃i p c,L[i]?=some p/\j=i*2+c/\c<2/\(fmC p)[c]?=some u
 | [],j,u,h=>by simp [fmV] at h
 | p :: L,j,u,h=>by
  rw [fmV] at h;by_cases hj:j<2
  ·rw [List.getElem?_append_left (by simp [fmC];omega)] at h;exact ⟨0,p,j,rfl,by omega,hj,h⟩
  ·rw [List.getElem?_append_right (by simp [fmC];omega)] at h;obtain ⟨i,q,c,h1,h2,h3,h4⟩:=Di L _ u h;simp only [fmC,List.length_cons,List.length_nil] at h2;exact ⟨i+1,q,c,by simpa using h1,by omega,h3,h4⟩
theorem Gi {w:World} {a:Option Addr} {L:List Fm} (h:Fms w a L):L.length=0\/∃ad,a=some ad/\∀j u,(fmV L)[j]?=some u->w.cell? (ad.add j)=some u:=by
 rcases h with h | ⟨b,off,ha,hlt,hc⟩
 ·exact .inl (by rw [h];rfl)
 ·refine .inr ⟨_,ha,fun j u hj=> ?_⟩;obtain ⟨i,p,c,h1,rfl,h3,h4⟩:=Di L j u hj;obtain ⟨c0,c1⟩:=hc i p h1;rw [Addr.add_lit];match c,h3,h4 with
  | 0,_,h4=>rw [show (some u)=some (.int .i64 p.id) from h4.symm.trans rfl];exact c0
  | 1,_,h4=>rw [show (some u)=some (.slice p.f p.fL.length p.fCap) from h4.symm.trans rfl,<-Nat.add_assoc];exact c1
theorem Dj (W:World) (a:Option Addr) (n c:Nat):(binOp .eql 22 (.slice a n c) (.slice none 0 0)).run prog W=.ok (.bool a.isNone) W:=by
 have h:=run_equal_slice_nil (P:=prog) W 22 49 a n c underlying22;simp [binOp,h,Result.andThen]
def mO (L:List field.Fd) (w:World) (e:Ending) (w':World):Prop:=∃v,e=.returned v/\w'.ownsRow w.heap.size 52 5 v L.length (fdV L)/\Below w.heap.size w w'
theorem lK (a:Option Addr) (cap:Nat) (L:List field.Fd) (w:World) (h:field.Fds w a L) (hL:L.length<=1000000):
  Calls prog 97 #[.slice a L.length cap] w (mO L w):=by
 obtain ⟨i0,hi,hz0,hz1,hz2⟩:=dL;cases a with
 | none=>
  have en:=Dh w none L.length cap;simp only [Option.isNone_none] at en;have hl:L=[]:=by
   rcases h with h | ⟨b,off,h,_⟩
   ·exact h
   ·cases h
  have HR:Hid (mO L w (.returned (.slice none 0 0)) w):=hid ⟨_,rfl,by rw [hl];exact World.ownsRow_nil _ _ _ _,Below.refl _ _⟩;clear h hl hL;generalize mO L w=R at *;generalize L.length=n at *;go_enter func97,ntmps97;go_wp2;exact HR.o
 | some ad=>
  have en:=Dh w (some ad) L.length cap;simp only [Option.isNone_some] at en;have hb:Below w.heap.size w (w.alloc (.cells #[] 52)):=(Below.refl _ _).alloc (Nat.le_refl _) _;have HB:=hid hb;have HN:=hid (G5 (h.below hb));have HU:=hid (fO L);have HN2:Hid (0+L.length<=maxLen):=by show _<=_;unfold maxLen;omega
  have HN3:Hid ((0+L.length)*40<=140737488355328):=by show _<=_;omega
  have HO:=hid (World.ownsRow_made (base:=w.heap.size) (e:=52) (size:=5) w #[] 0 (Nat.le_refl _) (Nat.zero_le _) rfl);have H1:=hid (lM L);clear h hb hL;unfold mO;generalize hX:fdV L=X at *;clear hX;generalize hn:L.length=n at *;clear hn;go_enter func97,ntmps97;go_wp2_with (at_builtin;refine aO rfl _ _ 47 rfl w.heap.size 52 i0 _ 5 40 underlying47 hi hz0 hz1 hz2 (by simp [Value.cells]) om_ (.slice (some ⟨w.heap.size,0,none⟩) 0 0) 0 [] rfl HO.o (some ad) n cap X rfl HU.o HN.o H1.o HN2.o HN3.o HB.o.size ?_);intro v' w1 ho hg;have hbl:Below w.heap.size w w1:=HB.o.grown hg HB.o.size (fun k hk=>by cases hk;exact Nat.le_refl _);have ho':w1.ownsRow w.heap.size 52 5 v' n X:=by simpa using ho
  have HO2:=hid ho';have HB2:=hid hbl;clear ho ho' hbl hg;go_wp2;go_ret;exact ⟨_,rfl,HO2.o,HB2.o⟩
def D5 (L:List Fm) (w:World) (e:Ending) (w':World):Prop:=∃v,e=.returned v/\w'.ownsRow w.heap.size 49 2 v L.length (fmV L)/\Below w.heap.size w w'
theorem BA (a:Option Addr) (cap:Nat) (L:List Fm) (w:World) (h:Fms w a L) (hL:L.length<=1000000):
  Calls prog 194 #[.slice a L.length cap] w (D5 L w):=by
 obtain ⟨i0,hi,hz0,hz1,hz2⟩:=kV;cases a with
 | none=>
  have en:=Dj w none L.length cap;simp only [Option.isNone_none] at en;have hl:L=[]:=by
   rcases h with h | ⟨b,off,h,_⟩
   ·exact h
   ·cases h
  have HR:Hid (D5 L w (.returned (.slice none 0 0)) w):=hid ⟨_,rfl,by rw [hl];exact World.ownsRow_nil _ _ _ _,Below.refl _ _⟩;clear h hl hL;generalize D5 L w=R at *;generalize L.length=n at *;go_enter func194,ntmps194;go_wp2;exact HR.o
 | some ad=>
  have en:=Dj w (some ad) L.length cap;simp only [Option.isNone_some] at en;have hb:Below w.heap.size w (w.alloc (.cells #[] 49)):=(Below.refl _ _).alloc (Nat.le_refl _) _;have HB:=hid hb;have HN:=hid (Gi (h.below hb));have HU:=hid (gU L);have HN2:Hid (0+L.length<=maxLen):=by show _<=_;unfold maxLen;omega
  have HN3:Hid ((0+L.length)*32<=140737488355328):=by show _<=_;omega
  have HO:=hid (World.ownsRow_made (base:=w.heap.size) (e:=49) (size:=2) w #[] 0 (Nat.le_refl _) (Nat.zero_le _) rfl);have H1:=hid (lT L);clear h hb hL;unfold D5;generalize hX:fmV L=X at *;clear hX;generalize hn:L.length=n at *;clear hn;go_enter func194,ntmps194;go_wp2_with (at_builtin;refine aO rfl _ _ 22 rfl w.heap.size 49 i0 _ 2 32 underlying22 hi hz0 hz1 hz2 (by simp [Value.cells]) om_ (.slice (some ⟨w.heap.size,0,none⟩) 0 0) 0 [] rfl HO.o (some ad) n cap X rfl HU.o HN.o H1.o HN2.o HN3.o HB.o.size ?_);intro v' w1 ho hg;have hbl:Below w.heap.size w w1:=HB.o.grown hg HB.o.size (fun k hk=>by cases hk;exact Nat.le_refl _);have ho':w1.ownsRow w.heap.size 49 2 v' n X:=by simpa using ho
  have HO2:=hid ho';have HB2:=hid hbl;clear ho ho' hbl hg;go_wp2;go_ret;exact ⟨_,rfl,HO2.o,HB2.o⟩
end schema
namespace schema
open Go.RowKit
section
variable {o:Oper} {a:Act} {w:World}
theorem dM {op:BinOp} {t t':TypeId} {x y:Operand} {vx vy u:Value} (ho:o.op=.binOp op t x y t')
  (hg:(eqGuard op t x y vx vy).run prog w=.ok () w) (hr:(binOp op t vx vy).run prog w=.ok u w) (hx:a.eval x=vx:=by kernel_rfl) (hy:a.eval y=vy:=by kernel_rfl):(execOp a.eval o).run prog w=.ok (.value u) w:=by
 unfold execOp;simp [ho,hx,hy,Sem.run_bind,hg,hr]
theorem aB {ty:TypeId} {x:Operand} {ad:Addr} {k:IntKind} {n:Int} (ho:o.op=.load ty x) (hx:a.eval x=.pointer (some ad)) (hc:w.cell? ad=some (.int k n)) (hu:∀w',(isAgg ty).run prog w'=.ok false w'):
  (execOp a.eval o).run prog w=.ok (.value (.int k n)) w:=by
 unfold execOp;rw [ho];simp only [hx];go_simp
theorem bI {ty:TypeId} {x:Operand} {ad:Addr} {q:Option Addr} {n c:Nat} (ho:o.op=.load ty x) (hc:w.cell? ad=some (.slice q n c)) (hu:∀w',(isAgg ty).run prog w'=.ok false w') (hx:a.eval x=.pointer (some ad):=by kernel_rfl):
  (execOp a.eval o).run prog w=.ok (.value (.slice q n c)) w:=by
 unfold execOp;rw [ho];simp only [hx];go_simp
theorem ax {ty:TypeId} {x:Operand} {b off:Nat} {cs:List Value} {d:TypeDesc} (ho:o.op=.load ty x) (hc:w.rangeAt b off cs)
  (hu:prog.underlying ty=some d) (hd:d.isRow=true) (hi:(prog.info? ty).map (·.size)=some cs.length) (hx:a.eval x=.pointer (some ⟨b,off,none⟩):=by kernel_rfl):(execOp a.eval o).run prog w=.ok (.value (.agg cs.toArray)) w:=by
 unfold execOp;simp [ho,hx,run_loadAt_mid w b off ty cs d hc hu hd hi]
end
theorem dI:Hid ((prog.info? 52).map (·.size)=some 5):=by show _=_;kernel_rfl
theorem AA {w w':World} {b o:Nat} {cs:List Value} (h:w.rangeAt b o cs) (hb:Below w.heap.size w w') (hlt:b<w.heap.size):w'.rangeAt b o cs:=fun j v hj=>(hb.cell (p:=⟨b,o+j,none⟩) hlt).trans (h j v hj)
end schema
namespace schema
open Go.RowKit rows
def LessM (base:Nat) (ob:Option Nat) (n:Nat) (ys:List Value) (w:World) (e:Ending) (w':World):Prop:=∃v',e=.returned v'/\w'.ownsRow base 49 2 v' n ys/\w.grownBy w' ob/\v'.ownBlock=ob
set_option maxRecDepth 20000 in
theorem zo (base N i:Nat) (v:Value) (xs:List Value) (w:World) (hown:w.ownsRow base 49 2 v (N+1) xs) (hi:i<=N) (hx1:∀u∈xs,u.oneCell'=true) (hn:N<=1000):
  Calls prog 151 #[v,.int .i64 i,.int .i64 ((i:Int)+1)] w (LessM base v.ownBlock N (xs.take (i*2)++xs.drop ((i+1)*2)) w):=by
 obtain ⟨i0,hi0,hz0,hz1,hz2⟩:=kV;have hxl:=hown.1;rcases hown.2 with ⟨_,h0⟩ | ⟨b,cap,cur,rfl,hbb,hB,hnc,hcm,hcs,htake⟩
 ·omega
 ·obtain ⟨C,rfl⟩:∃C:List Value,cur=C.toArray:=⟨cur.toList,by simp⟩;simp only [List.size_toArray] at hcs;have htk:C.take ((N+1)*2)=xs:=by simpa using htake
  have hX1:C.take (i*2)=xs.take (i*2):=by rw [<-htk,List.take_take,Nat.min_eq_left (Nat.mul_le_mul_right _ om_)]
  have hX2l:(xs.drop ((i+1)*2)).length=(N - i)*2:=by rw [List.length_drop,hxl,<-Nat.sub_mul];congr 1;omega
  have hX2c:∀j u,(xs.drop ((i+1)*2))[j]?=some u->C[(i+1)*2+j]?=some u:=fun j u hj=>by
   rw [List.getElem?_drop,<-htk,List.getElem?_take] at hj;split at hj
   ·exact hj
   ·cases hj
  have hX21:∀u∈xs.drop ((i+1)*2),u.oneCell'=true:=fun u hu=>hx1 u (List.mem_of_mem_drop hu)
  obtain ⟨X2,hX2⟩:∃X2,xs.drop ((i+1)*2)=X2:=⟨_,rfl⟩;rw [hX2] at hX2l hX2c hX21 ⊢;rw [<-hX1];have hOB:(Value.slice (some ⟨b,0,none⟩) (N+1) cap).ownBlock=some b:=rfl;rw [hOB];clear hOB;have c1:(i:Int)<=N:=by omega
  have c2:¬((i:Int)=(i:Int)+1):=by omega
  have c3:¬(cap=N):=by omega
  have c4:¬(cap=i):=by omega
  have hcm':cap<=9223372036854775807:=by unfold maxLen at hcm;omega
  have b2:(N:Int)<=1000:=by omega
  have t1:((i:Int)+1).toNat=i+1:=by omega
  have t2:((N:Int)+1).toNat=N+1:=by omega
  have p1:(0:Int)<=(i:Int)+1:=by omega
  have hBB:Block w b 49 C:=hB;have hz1c:∀u∈(Value.cells (.agg #[.int .i64 0,.slice none 0 0])).toList,u.oneCell'=true:=by simp [Value.cells];try decide
  have h0z:0<2:=by omega
  have g3:i+(N - i)=N:=by omega
  have HB:=hid hBB;have HCS:=hid hcs;have HX2l:=hid hX2l;have HX2c:=hid hX2c;have HX21:=hid hX21;have HCM:=hid hcm;have HBB:=hid hbb;have HNC:Hid ((N+1)*2<=cap*2):=Nat.mul_le_mul_right _ hnc;clear hown hxl hx1 htake htk hX1 hX2 hX2l hX2c hX21 hB hBB hcs hcm hbb;by_cases c5:cap=i+1
  ·obtain rfl:i=N:=by omega
   subst c5;go_enter func151,ntmps151;go_wp2;refine tail.region 6 kr_ kr_ ?_;simp only [List.take_succ_cons,List.take_zero,List.drop_succ_cons,List.drop_zero];repeat (go_big_quiet_step (fail))
   refine wpQuiet_nil ?_;rintro _ ⟨nq,rfl⟩;refine dF rfl _ _ 22 rfl 49 i0 2 underlying22 hi0 hz1 b _ _ rfl C (HB.o.drewN nq) _ 0 _ rfl X2 (by have:=HX2l.o;simpa using this) (fun h=>absurd h om_) HX21.o om_ (by rw [HX2l.o,HCS.o];have:=HNC.o;omega) ?_;intro w3 h3;have HL3:Hid ((splice C (i*2) X2).length=(i+1)*2):=hid (by rw [length_splice _ _ _ (by rw [HX2l.o,HCS.o];have:=HNC.o;omega),HCS.o]);go_wp2_with (refine cu rfl _ 22 rfl 49 i0 _ 2 underlying22 hi0 hz0 (by simp [Value.cells]) hz1c h0z _ 1 _ rfl b (i*2) (splice C (i*2) X2) 49 h3.o.1 (fun _=>by simp) (by rw [HL3.o];have:=HNC.o;omega) ?_);intro Z w4 h4;go_wp2;go_ret;have hl2:(splice (splice C (i*2) X2) (i*2) Z).take (i*2)=C.take (i*2)++X2:=by
    rw [eU _ _ _ _ (Nat.le_refl _) (by rw [HL3.o];have:=HNC.o;omega)];have:=eX C (i*2) X2 (by rw [HCS.o];have:=HNC.o;omega);rw [HX2l.o,<-Nat.add_mul,g3] at this;exact this
   refine ⟨_,rfl,fJ h4.o.2.1 HBB.o om_ HCM.o (by rw [length_splice _ _ _ (by rw [HL3.o,h4.o.1];have:=HNC.o;omega),HL3.o]) hl2, ?_,rfl⟩;exact bD (v:=.slice (some ⟨b,0,none⟩) i (i+1)) (But.trans (But.drewN h3.o.2.1 0) (h4.o.2.2.1.mono (by have:=h3.o.2.2;simp at this;omega))) rfl
  ·go_enter func151,ntmps151;go_wp2;refine tail.region 6 kr_ kr_ ?_;simp only [List.take_succ_cons,List.take_zero,List.drop_succ_cons,List.drop_zero];repeat (go_big_quiet_step (fail))
   refine wpQuiet_nil ?_;rintro _ ⟨nq,rfl⟩;refine dF rfl _ _ 22 rfl 49 i0 2 underlying22 hi0 hz1 b _ _ rfl C (HB.o.drewN nq) _ (N - i) _ (by rfl) X2 HX2l.o (fun h=>⟨⟨b,(i+1)*2,none⟩,rfl,fun j u hj=>by rw [Addr.add_lit,(HB.o.drewN nq).cell];exact HX2c.o j u hj⟩) HX21.o om_ (by rw [HX2l.o,HCS.o];have:=HNC.o;omega) ?_;intro w3 h3;rw [g3];have HL3:Hid ((splice C (i*2) X2).length=cap*2):=hid (by rw [length_splice _ _ _ (by rw [HX2l.o,HCS.o];have:=HNC.o;omega),HCS.o]);go_wp2_with (refine cu rfl _ 22 rfl 49 i0 _ 2 underlying22 hi0 hz0 (by simp [Value.cells]) hz1c h0z _ 1 _ rfl b (N*2) (splice C (i*2) X2) 49 h3.o.1 (fun _=>by simp) (by rw [HL3.o];have:=HNC.o;omega) ?_);intro Z w4 h4;go_wp2;go_ret;have hl2:(splice (splice C (i*2) X2) (N*2) Z).take (N*2)=C.take (i*2)++X2:=by
    rw [eU _ _ _ _ (Nat.le_refl _) (by rw [HL3.o];have:=HNC.o;omega)];have:=eX C (i*2) X2 (by rw [HCS.o];have:=HNC.o;omega);rw [HX2l.o,<-Nat.add_mul,g3] at this;exact this
   refine ⟨_,rfl,fJ h4.o.2.1 HBB.o om_ HCM.o (by rw [length_splice _ _ _ (by rw [HL3.o,h4.o.1];have:=HNC.o;omega),HL3.o]) hl2, ?_,rfl⟩;exact bD (v:=.slice (some ⟨b,0,none⟩) N cap) (But.trans (But.drewN h3.o.2.1 0) (h4.o.2.2.1.mono (by have:=h3.o.2.2;simp at this;omega))) rfl
end schema
theorem t102{P:Prop}(h:P:=by
 go_ret;exact ⟨rfl,HB1.o.trans ((HB.o.trans (hb3.mono HB.o.size)).mono HB1.o.size)⟩):P:=h
namespace step
open Go.RowKit
open field (Gives ak aj)
open schema (aH aP)
def oK (l:List Int):List Value:=(List.range 1000).map fun j:Nat=>Value.bool (decide ((j:Int)∈l))
theorem vz (l:List Int) (n:Nat) (h:n<1000):(oK l)[n]?=some (.bool (decide ((n:Int)∈l))):=by simp [oK,h]
theorem EO (l:List Int) (n:Nat) (h:n<1000):(oK l).set n (.bool true)=oK (l++[(n:Int)]):=by
 apply List.ext_getElem?;intro i;rw [List.getElem?_set];by_cases hi:i<1000
 ·rw [vz _ i hi,vz _ i hi];by_cases hn:n=i
  ·subst hn;simp [oK,h]
  ·rw [if_neg hn];simp;omega
 ·simp [oK];simp [hi];omega
theorem CB:Tryz.zeroCells255=(oK []).toArray:=by kernel_rfl
def rq (lim:Int) (l:List Int):Prop:=(∀n∈l,0<=n/\n<=lim - 1)/\l.Nodup
theorem AX {lim:Int} {L:List Int} {k:Nat} {x:Int} (h:L[k]?=some x):rq lim (L.take (k+1))↔rq lim (L.take k)/\(0<=x/\x<=lim - 1)/\x∉L.take k:=by
 rw [aH h];unfold rq;simp only [List.nodup_append,List.mem_append,List.mem_singleton];constructor
 ·rintro ⟨h1,h2,h3,h4⟩;exact ⟨⟨fun n hn=>h1 n (.inl hn),h2⟩,h1 x (.inr rfl),fun hm=>h4 _ hm _ rfl rfl⟩
 ·rintro ⟨⟨h1,h2⟩,h3,h4⟩;exact ⟨fun n hn=>hn.elim (h1 n) (fun e=>e ▸ h3),h2,by simp,fun a ha b hb e=>h4 (by rw [<-hb,<-e];exact ha)⟩
theorem Hw {lim:Int} {L:List Int} (h:rq lim L) (k:Nat):rq lim (L.take k):=
 ⟨fun n hn=>h.1 n (List.mem_of_mem_take hn),h.2.sublist (List.take_sublist _ _)⟩
theorem KH {lim:Int} {L:List Int} {k:Nat} {x:Int} (h:L[k]?=some x) (hn:¬((0<=x/\x<=lim - 1)/\x∉L.take k)):¬rq lim L:=fun hf=>hn ((AX h).1 (Hw hf _)).2
theorem yK {w w':World} {a:Option Addr} {L:List Int} (h:Ins w a L) (hb:Below w.heap.size w w') {k:Nat} (hk:k<L.length):
  ∃b off p,a=some ⟨b,off,none⟩/\b<w'.heap.size/\L[k]?=some p/\w'.cell? ⟨b,off+k,none⟩=some (.int .i64 p):=(h.below hb).at hk
set_option maxRecDepth 20000 in
theorem oG (a:Option Addr) (cap:Nat) (L:List Int) (lim:Int) (h1:1<=lim) (h2:lim<=1000) (w:World) (h:Ins w a L) (hL:L.length<=maxLen):
  Calls prog 216 #[.slice a L.length cap,.int .i64 lim] w (Gives (.bool (decide (Table L lim))) w):=by
 have hml:(L.length:Int)<=9223372036854775807:=by unfold maxLen at hL;omega
 obtain ⟨v,hv⟩:∃v:Bool,Hid (decide (Table L lim)=v):=⟨_,rfl⟩;rw [hv.o];have cW:=dK (L.length:Int) 1 64;unfold Gives at cW ⊢;have HF:=hid h;clear h hL;by_cases h3:1<=L.length/\L.length<=64
 ·rw [show decide ((1:Int)<=(L.length:Int)/\(L.length:Int)<=64)=true from decide_eq_true om_] at cW;have HTI:Hid (Table L lim↔rq lim L):=hid ⟨fun h=>h.2,fun h=>⟨h3,h⟩⟩;have cV:=fun n (w':World)=>dK n 0 (lim - 1) w'
  clear h3;go_enter func216,ntmps216;go_wp2_with (go_at_call 215;((with_reducible refine (cW _).mono ?_);rintro e w1 ⟨rfl,hb1⟩;have HB1:=hid hb1;have HZ:Hid (Block (w1.alloc (.cells Tryz.zeroCells255 255)) w1.heap.size 255 (oK [])):=(by rw [CB];exact hid (Block.new w1 255 (oK [])));have HN:=hid (ak w1 (.cells Tryz.zeroCells255 255));have HLE:=hid hb1.size;clear hb1));have HF1:=hid (HF.o.below HB1.o);clear cW;generalize w1.alloc (.cells Tryz.zeroCells255 255)=w2 at *;obtain ⟨B,hB⟩:∃B:Nat,Hid (w1.heap.size=B):=⟨_,rfl⟩;rw [hB.o] at HZ HLE ⊢;go_loopw [14] (fun n wr=>∃k:Nat,k<=L.length/\n=.int .i64 (k:Int)/\Hid (rq lim (L.take k))/\Hid (Block wr B 255 (oK (L.take k)))/\Hid (Below w1.heap.size w1 wr)) (fun n _=>L.length - (intOf n).toNat);case atStart=>exact ⟨0,Nat.zero_le _,rfl,hid ⟨by simp,by simp⟩,HZ,HN⟩
  case round=>
   obtain ⟨k,hk,rfl,HOK,HBl,HB⟩:=hrel;by_cases hlt:k<L.length
   ·obtain ⟨b,off,p,rfl,hbl,hp,c0⟩:=yK HF1.o HB.o hlt;have i1:(k:Int)<L.length:=by omega
    have HP:=hid hp;have HNO:=hid (KH (lim:=lim) hp);have HSUC:=hid (AX (lim:=lim) hp);have HTK:=hid (aH hp);have cs:=fun w'=>cV p w'
    clear hp;generalize hI:L.take k=I at *;clear hI;by_cases hr:0<=p/\p<=lim - 1
    ·obtain ⟨n,rfl⟩:=Int.eq_ofNat_of_zero_le hr.1;have hn2:n<1000:=by omega
     have hn3:(n:Int)<1000:=by omega
     rw [decide_eq_true hr] at cs;have HR:=hid hr;clear hr;have hsd:=vz I n hn2;by_cases hm:(n:Int)∈I
     ·rw [decide_eq_true hm] at hsd;obtain rfl:false=v:=by rw [<-hv.o];exact (decide_eq_false (fun h=>HNO.o (fun h=>h.2 hm) (HTI.o.1 h))).symm
      clear hm;go_wp2_with (go_at_call 215;((with_reducible refine (cs _).mono ?_);rintro e w3 ⟨rfl,hb3⟩;have hc:=(HBl.o.later hb3).cell n;rw [hsd] at hc))
      exact t102
     ·rw [decide_eq_false hm] at hsd;have HM:=hid hm;clear hm;go_wp2_with (go_at_call 215;((with_reducible refine (cs _).mono ?_);rintro e w3 ⟨rfl,hb3⟩;have hblk:=HBl.o.later hb3;have hc:=hblk.cell n;rw [hsd] at hc;have hfz:=hblk.frozen n;have HBK:=hid hblk;clear hblk));refine ⟨⟨k+1,by omega,by go_num,hid (HSUC.o.2 ⟨HOK.o,HR.o,HM.o⟩),hid ?_,hid ?_⟩,by simp [intOf];omega⟩
      ·have:=HBK.o.setCell n (.bool true);rw [EO _ _ om_] at this;rw [HTK.o];exact this
      ·exact below_setCells (HB.o.trans (hb3.mono HB.o.size)) (by rw [hB.o];exact Nat.le_refl _) n [.bool true]
    ·obtain rfl:false=v:=by rw [<-hv.o];exact (decide_eq_false (fun h=>HNO.o (fun h=>hr h.1) (HTI.o.1 h))).symm
     rw [decide_eq_false hr] at cs;clear hr;go_wp2_with (go_at_call 215;((with_reducible refine (cs _).mono ?_);rintro e w3 ⟨rfl,hb3⟩))
     exact t102
   ·obtain rfl:k=L.length:=by omega
    obtain rfl:true=v:=by rw [<-hv.o];have:=HOK.o;rw [List.take_of_length_le (Nat.le_refl _)] at this;exact (decide_eq_true (HTI.o.2 this)).symm
    go_wp2;go_ret;exact ⟨rfl,HB1.o.trans (HB.o.mono HB1.o.size)⟩
 ·rw [show decide ((1:Int)<=(L.length:Int)/\(L.length:Int)<=64)=false from decide_eq_false om_] at cW;obtain rfl:false=v:=by rw [<-hv.o];exact (decide_eq_false (fun h=>h3 h.1)).symm
  clear h3;go_enter func216,ntmps216;go_wp2_with (go_at_call 215;((with_reducible refine (cW _).mono ?_);rintro e w1 ⟨rfl,hb1⟩));go_ret;exact ⟨rfl,hb1⟩
end step
namespace turn
open Go.RowKit schema step typing
open field (Va bytesOf)
open record (aY Has dJ)
structure Can (s:Sp) (L:List field.Fd) (V:List Va) (k:Nat) (y:Va):Prop where
 len:V.length=L.length
 l8:1<=L.length/\L.length<=8
 op:1<=s.op/\s.op<=8
 c1:s.op=1->0<=s.pl/\s.pl<=L.length
 at':s.op≠1->au (ids L) s.fd=k/\k<L.length
 y':y=V.getD k va0
 c4:s.op=4->y=vn y.n/\(-1099511627776<=y.n/\y.n<=1099511627776)/\(-1048576<=s.a/\s.a<=1048576)/\(-1099511627776<=s.b/\s.b<=1099511627776)
 c5:s.op=5->y=vn y.n/\0<=y.n/\y.n<s.t.length
 c6:s.op=6->y=vn y.n/\(0<=y.n/\y.n<=1099511627776)/\(2<=s.a/\s.a<=1048576)
 c7:s.op=7->0<=s.pl/\s.pl<L.length
theorem JO {v:Int} {F:List schema.Form} {s:Sp} {L:List field.Fd} {V:List Va} (h:(on v F s).2.2=0) (hF:Form1 v F s L) (h9:s.op≠9) (h10:s.op≠10) (hV:aY L V):
  ∃k,Can s L V k (V.getD k va0)/\(atI F s).toNat=k/\(s.op=2->jH F s=L.getD k fd0):=by
 have hlen:=hV.length;have hl8:=hF.fine.2.1;have hfo:fieldsOf F s.fm=L:=aZ hF.here;have hat:atI F s=au (ids L) s.fd:=by unfold atI;rw [hfo]
 have hold:jH F s=bQ L (au (ids L) s.fd):=by unfold jH;rw [hfo,hat]
 have hpl:s.op=1\/s.op=7->0<=s.pl:=fun h1=>by
  have hm:=jh h (m:=2) (by rcases h1 with e | e <;> rw [e] <;> decide);unfold Sp.Fine at hm;simp only [Nat.reduceEqDiff,if_false,if_true] at hm;exact hm.1
 have hsp:=tq h;have hop:1<=s.op/\s.op<=8:=by omega
 by_cases h1:s.op=1
 ·refine ⟨(atI F s).toNat,⟨hlen.symm,hl8,hop,fun _=>⟨hpl (.inl h1), ?_⟩,fun e=>absurd h1 e,rfl,fun e=>by omega,fun e=>by omega,fun e=>by omega,fun e=>by omega⟩,rfl,fun e=>by omega⟩;have:=(lN h hF h1).2.1;have:=hpl (.inl h1);omega
 ·obtain ⟨k,hk,hkl,hx,hid_,hr⟩:=jv h hF h1 h9 h10;have hxk:bQ L (au (ids L) s.fd)=L.getD k fd0:=by rw [List.getD_eq_getElem?_getD,hx];rfl
  obtain ⟨y,hy⟩:∃y,V.getD k va0=y:=⟨_,rfl⟩;have hyk:V[k]?=some y:=by rw [<-hy];exact iR om_
  have hh:(bQ L (au (ids L) s.fd)).Has y:=((lZ hx hyk).1 hV).2.1;have hsu:s.op≠7->Suit s (bQ L (au (ids L) s.fd)):=fun h7=>tN h hF h1 h7 h9 h10
  refine ⟨k,⟨hlen.symm,hl8,hop,fun e=>absurd e h1,fun _=>⟨hk,hkl⟩,rfl,fun h4=> ?_,fun h5=> ?_,fun h6=> ?_,fun h7=> ?_⟩,by rw [hat,hk];rfl,fun _=>by rw [hold,hxk]⟩
  ·rw [hy];obtain ⟨hk1,_⟩:=(hsu om_).c4 h4;have hm:=jh h (m:=5) (by rw [h4];decide);unfold Sp.Fine at hm;simp only [Nat.reduceEqDiff,if_false,if_true] at hm;have hb:=hh.2.1;rw [iM hk1] at hb;have hri:=hr.2;exact ⟨oJ hh om_,by omega,hm.1.1,hm.2⟩
  ·rw [hy];obtain ⟨hk1,hk2,_⟩:=(hsu om_).c5 h5;have hb:=hh.2.1;rw [lW hk1] at hb;have hri:=hr.2;exact ⟨oJ hh om_,by omega⟩
  ·rw [hy];obtain ⟨hk1,hk2,_⟩:=(hsu om_).c6 h6;have hm:=jh h (m:=4) (by rw [h6];decide);unfold Sp.Fine at hm;simp only [Nat.reduceEqDiff,if_false,if_true] at hm;have hb:=hh.2.1;rw [iM hk1] at hb;have hri:=hr.2;exact ⟨oJ hh om_,by omega,hm⟩
  ·have:=(kH h hF hk hkl h7).2;rw [jq hkl] at this;have:=hpl (.inr h7);omega
end turn
namespace record
open Go.RowKit
open field (Va)
open schema (dM)
end record
namespace step
open Go.RowKit
open schema (fdV aW eu kQ dX iI)
def oz (l:List Int):List Value:=l.map fun n=>Value.int .i64 n
theorem H8 {w:World} {base n:Nat} {a:Option Addr} {cap:Nat} {L:List Int} {e:TypeId} (h:w.ownsRow base e 1 (.slice a n cap) n (oz L)):Ins w a L/\n=L.length:=by
 obtain ⟨hl,hr⟩:=h;have hn:n=L.length:=by have:(oz L).length=L.length:=List.length_map _;omega
 rcases hr with ⟨hv,h0⟩ | ⟨b,cap',cur,hv,_,hg,hcp,_,_,htake⟩
 ·cases hv
  exact ⟨.inl (List.eq_nil_of_length_eq_zero om_),hn⟩
 ·cases hv
  refine ⟨.inr ⟨b,0,rfl,(Array.getElem?_eq_some_iff.1 hg).1,fun i p hp=> ?_⟩,hn⟩;have hi:i<L.length:=(List.getElem?_eq_some_iff.1 hp).1;have h1:(oz L)[i]?=some (.int .i64 p):=by simp [oz,hp]
  rw [<-htake,List.getElem?_take,if_pos om_] at h1;rw [cell_of_row w b _ cur _ _ hg,Nat.zero_add,<-h1,Array.getElem?_toList]
theorem Gu:(prog.info? 3).map (fun i=>(i.zero,i.size,i.bytes))=some (some (.int .i64 0),1,8):=by kernel_rfl
theorem uO:∃i,prog.info? 3=some i/\i.zero=some (.int .i64 0)/\i.size=1/\i.bytes=8:=by
 obtain ⟨i,hi,he⟩:=Option.map_eq_some_iff.1 Gu;simp only [Prod.mk.injEq] at he;exact ⟨i,hi,he.1,he.2.1,he.2.2⟩
def gq (B:Nat) (w:World) (p:St):Prop:=w.ownsRow B 3 1 (.slice p.ta p.s.t.length p.tc) p.s.t.length (oz p.s.t)/\w.ownsRow B 52 5 (.slice p.la p.s.l.length p.lc) p.s.l.length (fdV p.s.l)
theorem gq.lists {B:Nat} {w:World} {p:St} (h:gq B w p):Lists w p.s p.ta p.la:=
 ⟨(H8 h.1).1,(eu h.2).1,Nat.le_trans (kQ h.1).1 (kQ h.1).2,Nat.le_trans (kQ h.2).1 (kQ h.2).2⟩
theorem gq.low {B B':Nat} {w:World} {p:St} (h:gq B w p) (hB:B'<=B):gq B' w p:=⟨aW h.1 hB,aW h.2 hB⟩
theorem gq.later {B:Nat} {w w':World} {p:St} (h:gq B w p) (hb:Below w.heap.size w w'):gq B w' p:=⟨ai h.1 hb,ai h.2 hb⟩
theorem nJ:(57:TypeId)≠3:=by decide
theorem vG:(57:TypeId)≠52:=by decide
theorem gq.nil (B:Nat) (w:World) (s:Sp) (ht:s.t=[]) (hl:s.l=[]):gq B w ⟨s,none,0,none,0⟩:=by
 refine ⟨?_, ?_⟩
 ·show w.ownsRow B _ 1 (.slice none s.t.length 0) s.t.length (oz s.t)
  rw [ht];exact World.ownsRow_nil _ _ _ _
 ·show w.ownsRow B _ 5 (.slice none s.l.length 0) s.l.length (fdV s.l)
  rw [hl];exact World.ownsRow_nil _ _ _ _
theorem xK {w:World} {B e sz n S o:Nat} {u v:Value} {xs:List Value} (h:w.ownsRow B e sz u n xs) (hS:S<B):(w.setCell ⟨S,o,none⟩ v).ownsRow B e sz u n xs:=
 bT h (fun g hg=>Below.heap_setCell w ⟨S,o,none⟩ v g (by have:=(World.ownsRow.lt h g hg).1;show g≠S;omega))
theorem gq.after {w:World} {B S o:Nat} {v:Value} {p:St} (h:gq B w p) (hS:S<B):gq B (w.setCell ⟨S,o,none⟩ v) p:=⟨xK h.1 hS,xK h.2 hS⟩
theorem gq.stay {w w':World} {B:Nat} {p:St} (h:gq B w p) (h1:dX 3 w w') (h2:dX 52 w w'):gq B w' p:=⟨h1.row h.1,h2.row h.2⟩
theorem Es {w:World} {a:Option Addr} {L:List Int} (h:Ins w a L):L.length=0\/∃ad,a=some ad/\∀j u,(oz L)[j]?=some u->w.cell? (ad.add j)=some u:=by
 rcases h with h | ⟨b,off,ha,hlt,hc⟩
 ·exact .inl (by rw [h];rfl)
 ·refine .inr ⟨_,ha,fun j u hj=> ?_⟩;unfold oz at hj;rw [List.getElem?_map,Option.map_eq_some_iff] at hj;obtain ⟨n,hn,rfl⟩:=hj;rw [Addr.add_lit];exact hc j n hn
theorem Aa (L:List Int):(oz L).length=L.length:=List.length_map _
theorem Gt (L:List Int):∀v∈oz L,v.oneCell'=true:=by intro v hv;obtain ⟨x,_,rfl⟩:=List.mem_map.1 hv;rfl
theorem Ac (W:World) (a:Option Addr) (n c:Nat):(binOp .eql 55 (.slice a n c) (.slice none 0 0)).run prog W=.ok (.bool a.isNone) W:=by
 have h:=run_equal_slice_nil (P:=prog) W 55 3 a n c underlying55;simp [binOp,h,Result.andThen]
def CZ (L:List Int) (w:World) (e:Ending) (w':World):Prop:=∃v,e=.returned v/\w'.ownsRow w.heap.size 3 1 v L.length (oz L)/\Below w.heap.size w w'
set_option maxRecDepth 20000 in
theorem Bz (a:Option Addr) (cap:Nat) (L:List Int) (w:World) (h:Ins w a L) (hL:L.length<=1000000):
  Calls prog 208 #[.slice a L.length cap] w (CZ L w):=by
 obtain ⟨i0,hi,hz0,hz1,hz2⟩:=uO;cases a with
 | none=>
  have en:=Ac w none L.length cap;simp only [Option.isNone_none] at en;have hl:L=[]:=by
   rcases h with h | ⟨b,off,h,_⟩
   ·exact h
   ·cases h
  have HR:Hid (CZ L w (.returned (.slice none 0 0)) w):=hid ⟨_,rfl,by rw [hl];exact World.ownsRow_nil _ _ _ _,Below.refl _ _⟩;clear h hl hL;generalize CZ L w=R at *;generalize L.length=n at *;go_enter func208,ntmps208;go_wp2;exact HR.o
 | some ad=>
  have en:=Ac w (some ad) L.length cap;simp only [Option.isNone_some] at en;have hb:Below w.heap.size w (w.alloc (.cells #[] 3)):=(Below.refl _ _).alloc (Nat.le_refl _) _;have HB:=hid hb;have HN:=hid (Es (h.below hb));have HU:=hid (Aa L);have HN2:Hid (0+L.length<=maxLen):=by show _<=_;unfold maxLen;omega
  have HN3:Hid ((0+L.length)*8<=140737488355328):=by show _<=_;omega
  have HO:=hid (World.ownsRow_made (base:=w.heap.size) (e:=3) (size:=1) w #[] 0 (Nat.le_refl _) (Nat.zero_le _) rfl);have H1:=hid (Gt L);clear h hb hL;unfold CZ;generalize hX:oz L=X at *;clear hX;generalize hn:L.length=n at *;clear hn;go_enter func208,ntmps208;go_wp2_with (at_builtin;refine jZ rfl _ _ 55 rfl w.heap.size 3 i0 (.int .i64 0) 8 underlying55 hi hz0 hz1 hz2 rfl (.slice (some ⟨w.heap.size,0,none⟩) 0 0) 0 [] rfl HO.o (some ad) n cap X rfl HU.o HN.o H1.o HN2.o HN3.o HB.o.size ?_);intro v' w1 ho hg;have hbl:Below w.heap.size w w1:=HB.o.grown hg HB.o.size (fun k hk=>by cases hk;exact Nat.le_refl _);have ho':w1.ownsRow w.heap.size 3 1 v' n X:=by simpa using ho
  have HO2:=hid ho';have HB2:=hid hbl;clear ho ho' hbl hg;go_wp2;go_ret;exact ⟨_,rfl,HO2.o,HB2.o⟩
end step
end Go.Proofs.YtogkgbnpodojjaaGreat
