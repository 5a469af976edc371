/- Contracts and lemmas that claims of this seat share: TypingLawKit, CloneV, TurnRow, TurnForm, TurnAp, TurnOnD, TurnMoved, TypingOnAny, TurnUp, PairInverse. Each says its own conditions. -/
import Derived.Test.YtdnegbkhndekpaaGreatCmWord
import Derived.Deep.RegionHeld3
import Derived.Maps.AppendAt
import Derived.Maps.Range
import Derived.Test.YtdnegbkhndekpaaGreatCmC
import Derived.Test.YtdnegbkhndekpaaGreatCmG
import Derived.Test.YtdnegbkhndekpaaGreatCmA
import Derived.Test.YtdnegbkhndekpaaGreatCmN
import Derived.Test.YtdnegbkhndekpaaGreatCmV
import Derived.Test.YtdnegbkhndekpaaGreatCmB
import Derived.Test.YtdnegbkhndekpaaGreatCmQ
import Derived.Test.YtdnegbkhndekpaaGreatCmS
import Derived.Test.YtdnegbkhndekpaaGreatCmX
import Derived.Test.YtdnegbkhndekpaaGreatCmT
import Derived.Test.YtdnegbkhndekpaaGreatCmY
set_option linter.unusedVariables false
namespace Go.Proofs.YtdnegbkhndekpaaGreat
open Go.Proofs.Tryz
namespace typing
open Go.RowKit schema
open step (St Sts StL sps kz ul)
theorem GK (p:St) (W:World) (t:TypeId):Sts (W.alloc (.cells p.C.toArray t)) (some ⟨W.heap.size,0,none⟩) [p]:=by
 have hB:=Block.new W t p.C;refine .inr ⟨_,0,rfl,hB.lt,fun i x hx j v hv=> ?_⟩;have hj:j<16:=(List.getElem?_eq_some_iff.1 hv).1;rw [Nat.zero_add,hB.cell];match i,hx with
 | 0,hx=>
  simp only [List.getElem?_cons_zero,Option.some.injEq] at hx;subst hx;rw [show 0*16+j=j by omega];exact hv
 | n+1,hx=>simp at hx
theorem Ig {w:World} {a:Option Addr} {F:List Fm} {L:List St} (h:FmL w a F) (hg:(mY (forms F) || decide (kz (sps L)))=false):Small w F/\∀p∈L,p.s.l.length<=40:=by
 simp only [Bool.or_eq_false_iff,decide_eq_false_iff_not] at hg;obtain ⟨h1,h2⟩:=EM hg.1;have h3:=(ul hg.2).2;rw [aF] at h1;exact ⟨⟨h1,fun p hp=>⟨(h.2 p hp).rf,h2 p.p (List.mem_map_of_mem hp)⟩⟩,fun p hp=>(h3 p.s (List.mem_map_of_mem hp)).2⟩
end typing
namespace record
open Go.RowKit schema
open field (Va)
theorem iw:∀L,∀u∈vaV L,u.oneCell'=true
 | [],u,h=>by simp [vaV] at h
 | p :: L,u,h=>by
  rw [vaV,List.mem_append] at h;rcases h with h | h
  ·simp [vaC] at h;rcases h with rfl | rfl <;> rfl
  ·exact iw L u h
theorem DX:∀(L:List Va) (j:Nat) (u:Value),(vaV L)[j]?=some u->∃i p c,L[i]?=some p/\j=i*2+c/\c<2/\(vaC p)[c]?=some u
 | [],j,u,h=>by simp [vaV] at h
 | p :: L,j,u,h=>by
  rw [vaV] at h;by_cases hj:j<2
  ·rw [List.getElem?_append_left (by simp [vaC];omega)] at h;exact ⟨0,p,j,rfl,by omega,hj,h⟩
  ·rw [List.getElem?_append_right (by simp [vaC];omega)] at h;obtain ⟨i,q,c,h1,h2,h3,h4⟩:=DX L _ u h;simp only [vaC,List.length_cons,List.length_nil] at h2;exact ⟨i+1,q,c,by simpa using h1,by omega,h3,h4⟩
theorem jV {w:World} {a:Option Addr} {L:List Va} (h:field.Vas w a L):L.length=0\/∃ad,a=some ad/\∀j u,(vaV L)[j]?=some u->w.cell? (ad.add j)=some u:=by
 rcases h with h | ⟨b,off,ha,hlt,hc⟩
 ·exact .inl (by rw [h];rfl)
 ·refine .inr ⟨_,ha,fun j u hj=> ?_⟩;obtain ⟨i,p,c,h1,rfl,h3,h4⟩:=DX L j u hj;obtain ⟨c0,c1⟩:=hc i p h1;rw [Addr.add_lit];match c,h3,h4 with
  | 0,_,h4=>rw [show (some u)=some (.int .i64 p.n) from h4.symm.trans rfl];exact c0
  | 1,_,h4=>rw [show (some u)=some (.string p.s) from h4.symm.trans rfl,<-Nat.add_assoc];exact c1
theorem En (W:World) (a:Option Addr) (n c:Nat):(binOp .eql 33 (.slice a n c) (.slice none 0 0)).run prog W=.ok (.bool a.isNone) W:=by
 have h:=run_equal_slice_nil (P:=prog) W 33 28 a n c underlying33;simp [binOp,h,Result.andThen]
def nI (L:List Va) (w:World) (e:Ending) (w':World):Prop:=∃v,e=.returned v/\w'.ownsRow w.heap.size 28 2 v L.length (vaV L)/\Below w.heap.size w w'
theorem wU (a:Option Addr) (cap:Nat) (L:List Va) (w:World) (h:field.Vas w a L) (hL:L.length<=1000000):
  Calls prog 48 #[.slice a L.length cap] w (nI L w):=by
 obtain ⟨i0,hi,hz0,hz1,hz2⟩:=dO;cases a with
 | none=>
  have en:=En w none L.length cap;simp only [Option.isNone_none] at en;have hl:L=[]:=by
   rcases h with h | ⟨b,off,h,_⟩
   ·exact h
   ·cases h
  have HR:Hid (nI L w (.returned (.slice none 0 0)) w):=hid ⟨_,rfl,by rw [hl];exact World.ownsRow_nil _ _ _ _,Below.refl _ _⟩;clear h hl hL;generalize nI L w=R at *;generalize L.length=n at *;go_enter func48,ntmps48;go_wp2;exact HR.o
 | some ad=>
  have en:=En w (some ad) L.length cap;simp only [Option.isNone_some] at en;have hb:Below w.heap.size w (w.alloc (.cells #[] 28)):=(Below.refl _ _).alloc (Nat.le_refl _) _;have HB:=hid hb;have HN:=hid (jV (h.below hb));have HU:=hid (bU L);have HN2:Hid (0+L.length<=maxLen):=by show _<=_;unfold maxLen;omega
  have HN3:Hid ((0+L.length)*24<=140737488355328):=by show _<=_;omega
  have HO:=hid (World.ownsRow_made (base:=w.heap.size) (e:=28) (size:=2) w #[] 0 (Nat.le_refl _) (Nat.zero_le _) rfl);have H1:=hid (iw L);clear h hb hL;unfold nI;generalize hX:vaV L=X at *;clear hX;generalize hn:L.length=n at *;clear hn;go_enter func48,ntmps48;go_wp2_with (at_builtin;refine aN rfl _ _ 33 rfl w.heap.size 28 i0 _ 2 24 underlying33 hi hz0 hz1 hz2 (by simp [Value.cells]) om_ (.slice (some ⟨w.heap.size,0,none⟩) 0 0) 0 [] rfl HO.o (some ad) n cap X rfl HU.o HN.o H1.o HN2.o HN3.o HB.o.size ?_);intro v' w1 ho hg;have hbl:Below w.heap.size w w1:=HB.o.grown hg HB.o.size (fun k hk=>by cases hk;exact Nat.le_refl _);have ho':w1.ownsRow w.heap.size 28 2 v' n X:=by simpa using ho
  have HO2:=hid ho';have HB2:=hid hbl;clear ho ho' hbl hg;go_wp2;go_ret;exact ⟨_,rfl,HO2.o,HB2.o⟩
end record
namespace turn
open Go Go.RowKit schema
open record (vaC vaV iw bU fH wu jU)
open field (Va)
open step (va0)
theorem iD:Hid ((prog.info? 28).map (·.size)=some 2):=by show _=_;kernel_rfl
def Own (B:Nat) (w:World) (u:Value) (V:List Va):Prop:=w.ownsRow B 28 2 u V.length (vaV V)
variable {B:Nat} {w w':World} {u:Value} {V:List Va}
theorem Own.later (h:Own B w u V) (hb:Below w.heap.size w w'):Own B w' u V:=aK h hb
theorem Own.slice (h:Own B w u V):∃x c,u=.slice x V.length c/\V.length<=c/\field.Vas w x V:=by
 obtain ⟨x,c,rfl,hc⟩:=aB h;exact ⟨x,c,rfl,hc,(jU h).1⟩
theorem Own.at' (h:Own B w u V) {g:Nat} (hg:u.ownBlock=some g):B<=g/\g<w.heap.size:=World.ownsRow.lt h g hg
theorem xN (V:List Va) (k:Nat):(vaV V).take (k*2)=vaV (V.take k):=by
 by_cases h:k<=V.length
 ·conv=>lhs;rw [<-List.take_append_drop k V,fH]
  exact List.take_left' (by rw [bU,List.length_take,Nat.min_eq_left h])
 ·rw [List.take_of_length_le (by rw [bU];omega),List.take_of_length_le om_]
theorem xE (V:List Va) (k:Nat):(vaV V).drop (k*2)=vaV (V.drop k):=by
 by_cases h:k<=V.length
 ·conv=>lhs;rw [<-List.take_append_drop k V,fH]
  exact List.drop_left' (by rw [bU,List.length_take,Nat.min_eq_left h])
 ·rw [List.drop_of_length_le (by rw [bU];omega),List.drop_of_length_le om_];rfl
theorem GL (y:Va):vaV [y]=vaC y:=by simp [vaV]
theorem zy:∀(V:List Va) (k:Nat) (m:Int) (s:ByteArray),k<V.length->vaV (V.set k ⟨m,s⟩)=((vaV V).set (k*2) (.int .i64 m)).set (k*2+1) (.string s)
 | [],k,m,s,h=>by simp at h
 | p :: V,0,m,s,_=>by simp [vaV,vaC]
 | p :: V,k+1,m,s,h=>by
  have:=zy V k m s (by simpa using h);rw [List.set_cons_succ,vaV,this,vaV];rw [List.set_append_right _ _ (by simp [vaC];omega),List.set_append_right _ _ (by simp [vaC];omega)];simp only [vaC,List.length_cons,List.length_nil];rw [show (k+1)*2 - (0+1+1)=k*2 by omega,show (k+1)*2+1 - (0+1+1)=k*2+1 by omega]
theorem Own.block (h:Own B w u V) (h0:0<V.length):∃g cap C,u=.slice (some ⟨g,0,none⟩) V.length cap/\B<=g/\Block w g 28 C/\V.length<=cap/\cap<=maxLen/\C.length=cap*2/\C.take (V.length*2)=vaV V:=by
 rcases h.2 with ⟨_,h1⟩ | ⟨g,cap,cur,rfl,hb,hg,hn,hc,hs,ht⟩
 ·omega
 ·exact ⟨g,cap,cur.toList,rfl,hb,by simpa [Block] using hg,hn,hc,by simpa using hs,by simpa using ht⟩
theorem Own.get (h:Own B w u V) {k:Nat} (hk:k<V.length):∃g cap,u=.slice (some ⟨g,0,none⟩) V.length cap/\B<=g/\g<w.heap.size/\V.length<=cap/\cap<=maxLen/\w.rangeAt g (k*2) (vaC (V.getD k va0))/\
  w.there g (k*2) 2/\(∀m s,Own B (w.setCells g (k*2) [.int .i64 m,.string s]) u (V.set k ⟨m,s⟩))/\∀m,Own B (w.setCell ⟨g,k*2,none⟩ (.int .i64 m)) u (V.set k ⟨m,(V.getD k va0).s⟩):=by
 obtain ⟨g,cap,C,rfl,hb,hB,hn,hc,hl,ht⟩:=h.block om_;have key:∀c,c<2->C[k*2+c]?=(vaC (V.getD k va0))[c]?:=fun c hc2=>by
  have h1:=wu V k (V.getD k va0) c (jD hk) hc2;rw [<-ht,List.getElem?_take_of_lt om_] at h1;exact h1
 refine ⟨g,cap,rfl,hb,hB.lt,hn,hc,fun j v hj=> ?_,hB.there _ _ om_,fun m s=> ?_,fun m=> ?_⟩
 ·have hj2:j<2:=by have:=(List.getElem?_eq_some_iff.1 hj).1;simpa [vaC] using this
  rw [hB.cell,key j hj2];exact hj
 ·have h2:=hB.setCells (vs:=[.int .i64 m,.string s]) (o:=k*2);refine ⟨by rw [bU],.inr ⟨g,cap,_,by rw [List.length_set],hb,h2,by rw [List.length_set];exact hn,hc, ?_, ?_⟩⟩
  ·simp [put,hl]
  ·rw [zy V k m s hk,<-ht,List.length_set];simp only [put];rw [List.take_set,List.take_set]
 ·have h2:=hB.setCell (k*2) (.int .i64 m);refine ⟨by rw [bU],.inr ⟨g,cap,_,by rw [List.length_set],hb,h2,by rw [List.length_set];exact hn,hc, ?_, ?_⟩⟩
  ·simp [hl]
  ·have h3:=wu V k (V.getD k va0) 1 (jD hk) om_;have hlt:k*2+1<(vaV V).length:=by rw [bU];omega
   rw [List.getElem?_eq_getElem hlt] at h3;have h4:(vaV V)[k*2+1]=.string (V.getD k va0).s:=Option.some.inj h3;rw [zy V k m _ hk,List.length_set,List.set_comm _ _ om_,<-h4,List.set_getElem_self,<-ht,List.take_set]
def Turns (B:Nat) (u:Value) (U:List Va) (w:World) (e:Ending) (w':World):Prop:=∃v,e=.returned v/\Own B w' v U/\w.grownBy w' u.ownBlock
def L6 (B:Nat) (u:Value) (U:List Va) (w:World) (e:Ending) (w':World):Prop:=∃v,e=.returned v/\Own B w' v U/\w.grownBy w' u.ownBlock/\v.ownBlock=u.ownBlock
theorem sV (h:Own B w u V) (hB:B<=w.heap.size) {i g:Nat} (y:Va) (hi:i<=V.length) (hG:Block w g 28 (vaC y)) (hg:u.ownBlock≠some g) (hn:V.length<=1000):
  Calls prog 51 #[u,.int .i64 (i:Int),.slice (some ⟨g,0,none⟩) 1 1] w (Turns B u (iO V i y) w):=by
 refine (AL B V.length i g 0 1 (vaC y) 28 u (vaV V) (vaC y) w h hB hi rfl hG (by simp [vaC]) hg (fun j v hj=>by rw [Nat.zero_add];exact hj) (record.Ec y) (iw V) hn).mono ?_;rintro e w' ⟨v,rfl,ho,hw⟩;refine ⟨v,rfl, ?_,hw⟩;unfold Own iO;rw [fH,fH,GL,<-xN,<-xE];have hl:(V.take i++([y]++V.drop i)).length=V.length+1:=by simp;omega
 rw [hl];exact ho
theorem qI (h:Own B w u V) {k:Nat} (hk:k<V.length) (hn:V.length<=1000):
  Calls prog 53 #[u,.int .i64 (k:Int),.int .i64 ((k:Int)+1)] w (L6 B u (cutV V k) w):=by
 obtain ⟨N,hN⟩:∃N,V.length=N+1:=⟨V.length - 1,by omega⟩;have h':w.ownsRow B 28 2 u (N+1) (vaV V):=by rw [<-hN];exact h
 refine (BK B N k u (vaV V) w h' om_ (iw V) om_).mono ?_;rintro e w' ⟨v,rfl,ho,hw,hv⟩;refine ⟨v,rfl, ?_,hw,hv⟩;unfold Own cutV;rw [fH,<-xN,<-xE];have hl:(V.take k++V.drop (k+1)).length=N:=by simp;omega
 rw [hl];exact ho
end turn
namespace turn
open Go Go.RowKit schema typing
open record (vaC vaV wU nI Bo Has Gn dD)
open field (Va Gives aC)
def EP (j:Int) (V:List Va) (w:World) (e:Ending) (w':World):Prop:=∃x c,e=.returned (zS j x V.length c)/\Own w.heap.size w' (.slice x V.length c) V/\Below w.heap.size w w'
theorem Own.low {B B':Nat} {w:World} {u:Value} {V:List Va} (h:Own B w u V) (hB:B'<=B):Own B' w u V:=dV h hB
theorem Own.past {B:Nat} {w:World} {u:Value} {V:List Va} (h:Own B w u V) {S:Nat} (hS:u.ownBlock≠some S) (o:Nat) (vs:List Value):Own B (w.setCells S o vs) u V:=
 fK h fun g hg=>fO S vs o w g (by intro e;subst e;exact hS hg)
theorem iT (j:Int) (b:Option Addr) (d:Nat) (V:List Va) (w:World) (h:field.Vas w b V) (hV:V.length<=1000):
  Calls prog 20 #[zS j b V.length d] w (EP j V w):=by
 have HX:=hid (Gn j b V d w);have hN:=aC w (.cells (zS j b V.length d) 35);have hN2:=aC (w.alloc (.cells (zS j b V.length d) 35)) (.cells #[.int .i64 0,.slice none 0 0] 35);obtain ⟨W2,hW2⟩:∃x,Hid (((w.alloc (.cells (zS j b V.length d) 35)).alloc (.cells #[.int .i64 0,.slice none 0 0] 35))=x):=⟨_,hid rfl⟩;have hB2:Below w.heap.size w W2:=by rw [<-hW2.o];exact hN.trans (hN2.mono hN.size)
 have hBX:Below (w.alloc (.cells (zS j b V.length d) 35)).heap.size (w.alloc (.cells (zS j b V.length d) 35)) W2:=by rw [<-hW2.o];exact hN2
 have HR:Hid (Block W2 (w.heap.size+1) 35 [.int .i64 0,.slice none 0 0]):=hid (by rw [<-hW2.o];have:=Block.new (w.alloc (.cells (zS j b V.length d) 35)) 35 [.int .i64 0,.slice none 0 0];simpa using this);have hsz:W2.heap.size=w.heap.size+2:=by rw [<-hW2.o];simp
 have cC:=fun W (hb:Below W2.heap.size W2 W)=>wU b d V W ((h.below hB2).below hb) om_
 have HB2:=hid hB2;have HBX:=hid hBX;have HSZ:=hid hsz;unfold EP;unfold nI at cC;clear h hV hN hN2 hB2 hBX hsz;go_enter func20,ntmps20;go_wp2;rw [hW2.o];have hb0:Below W2.heap.size W2 W2.drew:=aI (Below.refl _ _);obtain ⟨y0,y1,_⟩:=HX.o _ (HBX.o.trans (hb0.mono HBX.o.size));go_region_held3 (fun w'=>w'.cell? ⟨w.heap.size,0,none⟩=some (.int .i64 j)/\w'.cell? ⟨w.heap.size,1,none⟩=some (.slice b V.length d)) (first | assumption | go_keep) (first
  | (go_at_call 48;(with_reducible refine (cC _ hb0).mono ?_);rintro e w3 ⟨v,rfl,ho3,hb3⟩;obtain ⟨x,c,rfl,hxc⟩:=aB ho3;have hb23:=hb0.trans (hb3.mono hb0.size);obtain ⟨y0,y1,_⟩:=HX.o _ (HBX.o.trans (hb23.mono HBX.o.size));have hR3:=HR.o.later hb23;have r0:=hR3.cell 0;have r1:=hR3.cell 1;have f0:=hR3.frozen 0;have f1:=hR3.frozen 1))
 go_wp2;have hB:=(hR3.setCell 0 (.int .i64 j)).setCell 1 (.slice x V.length c);refine bodyPost_ret (aO (b:=w.heap.size+1) (o:=0) rfl rfl hB.whole underlying35 rfl (dD _ _)) rfl ?_;have hne:(Value.slice x V.length c).ownBlock≠some (w.heap.size+1):=fun e=>by have:=(World.ownsRow.lt ho3 _ e).1;have:=HSZ.o;have:W2.drew.heap.size=W2.heap.size:=rfl;omega
 have hbw:=HB2.o.trans (hb23.mono HB2.o.size);refine ⟨x,c,rfl, ?_, ?_⟩
 ·have h1:Own w.heap.size w3 (.slice x V.length c) V:=dV ho3 HB2.o.size;exact (h1.past hne 0 [.int .i64 j]).past hne 1 [.slice x V.length c]
 ·exact below_setCells (below_setCells hbw om_ 0 [.int .i64 j]) om_ 1 [.slice x V.length c]
theorem FC (F:List schema.Form) (s:step.Sp) (V:List Va):(iG F s.fm V↔Has (aJ F s).fi (aJ F s).L s.fm V)/\(iG F s.fm V->(aJ F s).fi=s.fm/\(aJ F s).L=fieldsOf F s.fm):=by
 unfold aJ;cases hn:named F s.fm with
 | none=>
  refine ⟨⟨fun ⟨L,h,_⟩=>(by rw [hn] at h;cases h),fun h=> ?_⟩,fun ⟨L,h,_⟩=>(by rw [hn] at h;cases h)⟩;have:=h.1.2.1.1;simp at this
 | some p=>
  obtain ⟨p1,p2⟩:=p;obtain rfl:p1=s.fm:=(cZ hn).2;have hf:fieldsOf F s.fm=p2:=by unfold fieldsOf;rw [hn]
  refine ⟨⟨fun ⟨L,h,k⟩=> ?_,fun h=>⟨_,hn,h⟩⟩,fun _=>⟨rfl,hf.symm⟩⟩;rw [hn] at h;cases h
  exact k
def rW (F:List Fm) (j:Int) (V:List Va) (w:World) (e:Ending) (w':World):Prop:=
 ∃i L y c r,e=.returned (.tuple #[zS i y L.length c,.bool r])/\field.Fds w' y L/\L.length<=40/\(r=true↔iG (forms F) j V)/\(r=true->i=j/\L=fieldsOf (forms F) j)/\Below w.heap.size w w'
theorem jE (v:Int) (a:Option Addr) (cc:Nat) (F:List Fm) (j:Int) (b:Option Addr) (d:Nat) (V:List Va) (w:World) (h:FmL w a F) (hF:Small w F) (hv:field.Vas w b V) (hV:V.length<=maxLen):
  Calls prog 19 #[zS v a F.length cc,zS j b V.length d] w (rW F j V w):=by
 obtain ⟨s,hs⟩:∃s:step.Sp,s.fm=j:=⟨⟨0,j,0,0,0,0,0,step.fd0,step.va0,[],[]⟩,rfl⟩;subst hs;obtain ⟨hh1,hh2⟩:=FC (forms F) s V;have hln:=jM hF s;obtain ⟨c,hc⟩:∃c,c=aJ (forms F) s:=⟨_,rfl⟩;rw [<-hc] at hh1 hh2 hln;obtain ⟨W3,hW3⟩:∃x,Hid (((w.alloc (.cells (zS v a F.length cc) 24)).alloc (.cells (zS s.fm b V.length d) 35)).alloc (.cells #[.int .i64 0,.slice none 0 0] 57)=x):=⟨_,hid rfl⟩;have hN1:=aC w (.cells (zS v a F.length cc) 24);have hN2:=aC (w.alloc (.cells (zS v a F.length cc) 24)) (.cells (zS s.fm b V.length d) 35);have hN3:=aC ((w.alloc (.cells (zS v a F.length cc) 24)).alloc (.cells (zS s.fm b V.length d) 35)) (.cells #[.int .i64 0,.slice none 0 0] 57);have hX:Hid (Below w.heap.size w W3/\W3.heap.size=w.heap.size+3/\Block W3 w.heap.size 24 (zS v a F.length cc)/\Block W3 (w.heap.size+1) 35 (zS s.fm b V.length d)/\Block W3 (w.heap.size+2) 57 [.int .i64 0,.slice none 0 0]):=hid (by
  rw [<-hW3.o];refine ⟨hN1.trans ((hN2.trans (hN3.mono hN2.size)).mono hN1.size),by simp,((Block.new w _ _).alloc _).alloc _, ?_, ?_⟩
  ·have:=(Block.new (w.alloc (.cells (zS v a F.length cc) 24)) 35 (zS s.fm b V.length d)).alloc (.cells #[.int .i64 0,.slice none 0 0] 57);simpa using this
  ·have:=Block.new ((w.alloc (.cells (zS v a F.length cc) 24)).alloc (.cells (zS s.fm b V.length d) 35)) 57 [.int .i64 0,.slice none 0 0];simpa using this)
 obtain ⟨hbw,hsz,b0,b1,b2⟩:=hX.o;have cN:=lV v a cc F s c hc W3 (h.below hbw) (hF.below hbw);have cH:=fun W (hb:Below w.heap.size w W) (fa:Option Addr) (fc:Nat) (hf:field.Fds W fa c.L)=>Bo c.fi fa fc c.L s.fm b d V W hf (hv.below hb) (by unfold maxLen;omega) hV
 obtain ⟨r,hr⟩:∃r:Bool,Hid (decide (Has c.fi c.L s.fm V)=r):=⟨_,hid rfl⟩;rw [hr.o] at cH;have HE:Hid ((r=true↔iG (forms F) s.fm V)/\(r=true->c.fi=s.fm/\c.L=fieldsOf (forms F) s.fm)/\c.L.length<=40):=hid ⟨by rw [<-hr.o,decide_eq_true_iff];exact hh1.symm,fun e=>hh2 (hh1.2 (by rw [<-hr.o,decide_eq_true_iff] at e;exact e)),hln⟩;rw [<-hW3.o] at cN;have HB1:=hid b1;have HB2:=hid b2;have HBW:=hid hbw;have HSZ:=hid hsz;unfold rW;unfold Gives at cH;clear h hF hv hV hh1 hh2 hln hc hN1 hN2 hN3 hX hr hbw hsz b0 b1 b2;go_enter func19,ntmps19;go_wp2_with (first
  | (go_at_call 28;((with_reducible refine cN.mono ?_);rintro e w1 ⟨fa,fc,rfl,ho1,hb1⟩;rw [hW3.o] at ho1 hb1;have HO1:=hid ho1;have HB:=hid hb1;clear ho1 hb1)))
 obtain ⟨W4,hW4⟩:∃x,Hid (w1.alloc (.cells (zS c.fi fa c.L.length fc) 57)=x):=⟨_,hid rfl⟩;rw [hW4.o];have hb4:Below W3.heap.size W3 W4:=by rw [<-hW4.o];exact HB.o.trans ((aC w1 _).mono HB.o.size)
 have hf4:Block W4 w1.heap.size 57 (zS c.fi fa c.L.length fc):=by rw [<-hW4.o];exact Block.new w1 _ _
 have ho4:W4.ownsRow W3.heap.size 26 5 (.slice fa c.L.length fc) c.L.length (fdV c.L):=by rw [<-hW4.o];exact aK HO1.o (aC w1 _)
 have hb0:Below W4.heap.size W4 W4.drew:=aI (Below.refl _ _);have hb5:Below W3.heap.size W3 W4.drew:=hb4.trans (hb0.mono hb4.size);have y0:=(HB1.o.later hb5).cell 0;have y1:=(HB1.o.later hb5).cell 1;have z0:=(hf4.later hb0).cell 0;have z1:=(hf4.later hb0).cell 1;have cH4:=cH W4.drew (HBW.o.trans (hb5.mono HBW.o.size)) fa fc (gQ (aK ho4 hb0)).1;have HB4:=hid hb4;have HF4:=hid hf4;have HO4:=hid ho4;have HB5:=hid hb5;have hsz1:w.heap.size+1+1<w1.heap.size:=by have:=HB.o.size;have:=HSZ.o;omega
 have hn1:w1.heap.size≠w.heap.size+1+1:=by omega
 have hn2:w.heap.size+1+1≠w1.heap.size:=by omega
 clear hb4 hf4 ho4 hb0 hb5 cH HB HO1 hsz1;go_region_held3 (fun w'=>w'.cell? ⟨w1.heap.size,0,none⟩=some (.int .i64 c.fi)/\w'.cell? ⟨w1.heap.size,1,none⟩=some (.slice fa c.L.length fc)/\w'.cell? ⟨w.heap.size+1,0,none⟩=some (.int .i64 s.fm)/\w'.cell? ⟨w.heap.size+1,1,none⟩=some (.slice b V.length d)) (first | assumption | go_keep | (rw [World.cell?_setCell_other _ _ _ _ (by simp [hn1]),World.cell?_setCell_other _ _ _ _ (by simp [hn1])];assumption)) (first
  | (go_at_call 47;(with_reducible refine cH4.mono ?_);rintro e w5 ⟨rfl,hb6⟩;have hR5:=HB2.o.later (HB5.o.trans (hb6.mono HB5.o.size));have r0:=hR5.cell 0;have r1:=hR5.cell 1;have f0:=hR5.frozen 0;have f1:=hR5.frozen 1;have hF5:=HF4.o.later ((aI (Below.refl _ _)).trans hb6);have z0:=hF5.cell 0;have z1:=hF5.cell 1;have hP5:=HB1.o.later (HB5.o.trans (hb6.mono HB5.o.size));have y0:=hP5.cell 0;have y1:=hP5.cell 1))
 go_wp2;have hB:=(hR5.setCell 0 (.int .i64 c.fi)).setCell 1 (.slice fa c.L.length fc);refine bodyPost_ret (au (b:=w.heap.size+2) (o:=0) rfl rfl hB.whole underlying57 rfl (vN _ _)) rfl ?_;have hb7:Below w.heap.size w w5:=HBW.o.trans ((HB5.o.trans (hb6.mono HB5.o.size)).mono HBW.o.size);have ho5:w5.ownsRow W3.heap.size 26 5 (.slice fa c.L.length fc) c.L.length (fdV c.L):=aK HO4.o ((aI (Below.refl _ _)).trans hb6);have hfd:=yO (yO (gQ ho5).1 hR5 0 (.int .i64 c.fi)) (hR5.setCell 0 (.int .i64 c.fi)) 1 (.slice fa c.L.length fc);exact ⟨c.fi,c.L,fa,fc,r,rfl,hfd,HE.o.2.2,HE.o.1,HE.o.2.1,below_setCells (below_setCells hb7 om_ 0 [.int .i64 c.fi]) om_ 1 [.slice fa c.L.length fc]⟩
end turn
theorem t129{P:Prop}(h:P:=by
 have h2:=hr.setCells (vs:=vs) (o:=0);rwa [fZ _ _ (by simp [hv])] at h2):P:=h
namespace turn
open Go Go.RowKit schema typing
open field (Va aC)
open step (Sp va0 fd0)
def yH (j:Int) (V:List Va) (gone has:Bool) (lost:ByteArray) (w:World) (e:Ending) (w':World):Prop:=
 ∃x c,e=.returned (.agg #[.int .i64 j,.slice x V.length c,.bool gone,.bool has,.string lost])/\Own w.heap.size w' (.slice x V.length c) V/\Below w.heap.size w w'
structure Ap (D:Nat) (i:Int) (fa:Option Addr) (fc:Nat) (L:List field.Fd) (s:Sp) (ta:Option Addr) (tc:Nat) (la:Option Addr) (lc:Nat) (j:Int) (h:Bool) (lost:ByteArray) (u:Value) (U:List Va) (w W:World):Prop where
 form:Block W w.heap.size 57 (zS i fa L.length fc)
 step:Block W (w.heap.size+1) 32 (zP s ta tc la lc)
 res:Block W (w.heap.size+1+1+1) 40 [.int .i64 0,.slice none 0 0,.bool false,.bool false,.string ⟨#[]⟩]
 done:∃z,Block W D 40 [.int .i64 j,z,.bool false,.bool h,.string lost]
 row:Own (w.heap.size+4) W u U
 below:Below w.heap.size w W
 lt:w.heap.size+3<D
theorem bV:Hid ((prog.info? 40).map (·.size)=some 5):=by show _=_;kernel_rfl
theorem vd:(40:TypeId)≠28:=by decide
section
variable {B D:Nat} {i:Int} {fa:Option Addr} {fc:Nat} {L:List field.Fd} {s:Sp} {ta:Option Addr} {tc:Nat} {la:Option Addr} {lc:Nat} {j:Int} {h h':Bool} {lost lost':ByteArray} {u u' z:Value} {U U' V:List Va} {w W W1 W2:World}
theorem own_ne {g:Nat} {t:TypeId} {cs:List Value} (h:Own B W u U) (hg:Block W g t cs) (ht:t≠28):u.ownBlock≠some g:=by
 intro e;rcases h.2 with ⟨hv,_⟩ | ⟨g',cap,cur,hv,_,hB,_⟩
 ·rw [hv] at e;cases e
 ·rw [hv] at e;cases e
  unfold Block at hg;rw [hg] at hB;exact ht (Obj.cells.inj (Option.some.inj hB)).2.1
theorem Ap.later (hA:Ap D i fa fc L s ta tc la lc j h lost u U w W) (hb:Below W.heap.size W W1):Ap D i fa fc L s ta tc la lc j h lost u U w W1:=
 ⟨hA.form.later hb,hA.step.later hb,hA.res.later hb,hA.done.imp fun _ k=>k.later hb,hA.row.later hb,hA.below.trans (hb.mono hA.below.size),hA.lt⟩
theorem Ap.named (hA:Ap D i fa fc L s ta tc la lc j h lost u U w W) (hb:Below W.heap.size W W1) (he:Hid (W1=W2)):Hid (Ap D i fa fc L s ta tc la lc j h lost u U w W2):=hid (he.o ▸ hA.later hb)
theorem Ap.turn (hA:Ap D i fa fc L s ta tc la lc j h lost u U w W) (hg:W.grownBy W2 u.ownBlock) (ho:Own (w.heap.size+4) W2 u' U'):Ap D i fa fc L s ta tc la lc j h lost u' U' w W2:=by
 have hr:∀ {g:Nat},u.ownBlock=some g->w.heap.size+4<=g:=fun e=>(hA.row.at' e).1
 have key:∀ {g:Nat} {t:TypeId} {cs:List Value},Block W g t cs->u.ownBlock≠some g->Block W2 g t cs:=fun hB hne=>(hg.block _ hB.lt (fun e=>hne e.symm)).trans hB
 obtain ⟨z,hz⟩:=hA.done;exact ⟨key hA.form (fun e=>by have:=hr e;omega),key hA.step (fun e=>by have:=hr e;omega),key hA.res (fun e=>by have:=hr e;omega),⟨z,key hz (own_ne hA.row hz vd)⟩,ho,
  hA.below.grown hg hA.below.size (fun k e=>by have:=hr e;omega),hA.lt⟩
theorem Ap.set (hA:Ap D i fa fc L s ta tc la lc j h lost u U w W) {k:Nat} (hk:k<U.length) (y:Va) (hy:U.getD k va0=y):∃g cap,u=.slice (some ⟨g,0,none⟩) U.length cap/\W.cell? ⟨g,k*2,none⟩=some (.int .i64 y.n)/\W.cell? ⟨g,k*2+1,none⟩=some (.string y.s)/\W.frozen? ⟨g,k*2,none⟩=false/\
  w.heap.size+4<=g/\g<W.heap.size/\∀m,Ap D i fa fc L s ta tc la lc j h lost u (U.set k ⟨m,y.s⟩) w (W.setCell ⟨g,k*2,none⟩ (.int .i64 m)):=by
 subst hy;obtain ⟨g,cap,hu,hb,hg,hn,hc,hr,hth,_,hs⟩:=hA.row.get hk;refine ⟨g,cap,hu,hr 0 _ rfl,hr 1 _ rfl,(hth 0 om_).2,hb,hg,fun m=> ?_⟩;exact hA.turn (by rw [hu];exact rows.dF (v:=.slice (some ⟨g,0,none⟩) U.length cap) ((But.refl _ g W).setCell _ _) rfl) (hs m)
theorem Ap.lose (hA:Ap D i fa fc L s ta tc la lc j h lost u U w W):Ap D i fa fc L s ta tc la lc j true lost' u U w ((W.setCell ⟨D,3,none⟩ (.bool true)).setCell ⟨D,4,none⟩ (.string lost')):=by
 have:=hA.lt;obtain ⟨z,hz⟩:=hA.done;have hne:=own_ne hA.row hz vd;exact ⟨(hA.form.apart _ _ _ om_).apart _ _ _ om_,(hA.step.apart _ _ _ om_).apart _ _ _ om_,(hA.res.apart _ _ _ om_).apart _ _ _ om_,⟨z,(hz.setCell 3 (.bool true)).setCell 4 (.string lost')⟩,
  (hA.row.past hne 3 [.bool true]).past hne 4 [.string lost'],below_setCells (below_setCells hA.below om_ 3 [.bool true]) om_ 4 [.string lost'],hA.lt⟩
theorem Ap.end' (hA:Ap D i fa fc L s ta tc la lc j h lost u U w W):(∃z,Block W D 40 [.int .i64 j,z,.bool false,.bool h,.string lost])/\(W.setCell ⟨D,1,none⟩ u).there (w.heap.size+1+1+1) 0 5/\
  ∀vs,vs.length=5->Block ((W.setCell ⟨D,1,none⟩ u).setCells (w.heap.size+1+1+1) 0 vs) (w.heap.size+1+1+1) 40 vs/\Own (w.heap.size+4) ((W.setCell ⟨D,1,none⟩ u).setCells (w.heap.size+1+1+1) 0 vs) u U/\Below w.heap.size w ((W.setCell ⟨D,1,none⟩ u).setCells (w.heap.size+1+1+1) 0 vs):=by
 have:=hA.lt;obtain ⟨z,hz⟩:=hA.done;have hr:=hA.res.apart D 1 u om_;refine ⟨⟨z,hz⟩,hr.there 0 5 si_,fun vs hv=>⟨?_,(hA.row.past (own_ne hA.row hz vd) 1 [u]).past (fun e=>by have:=(hA.row.at' e).1;omega) 0 vs,below_setCells (below_setCells hA.below om_ 1 [u]) om_ 0 vs⟩⟩
 exact t129
end
section
variable {s:Sp} {L:List field.Fd} {V:List Va} {k:Nat} {y:Va}
theorem Jz (h:s.op=1):fwd s k V=iO V s.pl.toNat s.v:=if_pos h
theorem set_mid {V:List Va} {k:Nat} (h:k<V.length) (z:Va):V.set k z=V.take k++([z]++V.drop (k+1)):=by
 rw [List.set_eq_take_append_cons_drop,if_pos h];rfl
theorem sN (h1:s.op≠1) (h7:s.op≠7) (C:Can s L V k y):fwd s k V=V.take k++(dw s y++V.drop (k+1)):=by
 unfold fwd;rw [if_neg h1,if_neg h7,<-C.y']
theorem Can.lt (C:Can s L V k y) (h1:s.op≠1):k<V.length:=by have:=(C.at' h1).2;have:=C.len;omega
theorem Jp (C:Can s L V k y) (h:s.op=2):fwd s k V=cutV V k:=by
 rw [sN om_ om_ C];unfold dw cutV;rw [if_pos h];rfl
theorem Jy (C:Can s L V k y) (h:s.op=3\/s.op=8):fwd s k V=V:=by
 rw [sN om_ om_ C];unfold dw;rw [if_neg om_,if_neg om_,if_neg om_,if_neg om_];exact (lG (by rw [C.y'];exact jD (C.lt om_))).symm
theorem Jt (C:Can s L V k y) (h:s.op=4):fwd s k V=V.set k (vn (s.a*y.n+s.b)):=by
 rw [sN om_ om_ C,set_mid (C.lt om_)];unfold dw;rw [if_neg om_,if_pos h]
theorem Js (C:Can s L V k y) (h:s.op=5):fwd s k V=V.set k (vn (s.t.getD y.n.toNat 0)):=by
 rw [sN om_ om_ C,set_mid (C.lt om_)];unfold dw;rw [if_neg om_,if_neg om_,if_pos h]
theorem Jl (C:Can s L V k y) (h:s.op=6):fwd s k V=iO (V.set k (vn (y.n.tdiv s.a))) (k+1) (vn (y.n.tmod s.a)):=by
 have hk:=C.lt om_;rw [sN om_ om_ C];unfold dw iO;rw [if_neg om_,if_neg om_,if_neg om_,if_pos h];have h1:(V.set k (vn (y.n.tdiv s.a))).take (k+1)=V.take k++[vn (y.n.tdiv s.a)]:=by
  rw [set_mid hk,<-List.append_assoc];exact List.take_left' (by simp;omega)
 have h2:(V.set k (vn (y.n.tdiv s.a))).drop (k+1)=V.drop (k+1):=by
  rw [set_mid hk,<-List.append_assoc];exact List.drop_left' (by simp;omega)
 rw [h1,h2];simp
theorem JE (C:Can s L V k y) (h:s.op=7):fwd s k V=iO (cutV V k) s.pl.toNat y:=by
 unfold fwd;rw [if_neg om_,if_pos h,<-C.y']
end
end turn
namespace turn
open Go Go.RowKit schema typing
open record (Has cu eY)
open field (Va)
open step (Sp va0 fd0)
def OnD (r:Dn) (w:World) (e:Ending) (w':World):Prop:=
 ∃x c,e=.returned (.tuple #[.agg #[.int .i64 r.j,.slice x r.V.length c,.bool r.gone,.bool r.has,.string r.lost],.int .i64 r.e])/\Own w.heap.size w' (.slice x r.V.length c) r.V/\Below w.heap.size w w'
theorem OnD.zero {e:Int} {w w':World} (hb:Below w.heap.size w w'):OnD ⟨0,[],false,false,⟨#[]⟩,e⟩ w (.returned (.tuple #[.agg #[.int .i64 0,.slice none 0 0,.bool false,.bool false,.string ⟨#[]⟩],.int .i64 e])) w':=⟨none,0,rfl,World.ownsRow_nil _ _ _ _,hb⟩
theorem BH {v:Int} {F:List schema.Form} {s:Sp} {j:Int} {V:List Va} (h:(on v F s).2.2=0) (hr:iG F j V) (hj:j=s.fm):
  (s.op=10/\onR v F s j V=⟨0,[],true,true,strOf (eY (fieldsOf F j) V),0⟩/\Has j (fieldsOf F j) j V)\/
  (∃k y,Can s (fieldsOf F j) V k y/\onR v F s j V=⟨j,fwd s k V,false,decide (s.op=2),if s.op=2 then strOf (((fieldsOf F j).getD k fd0).dA y) else ⟨#[]⟩,0⟩):=by
 obtain ⟨L,hn,hh⟩:=hr;have hf:=bZ hn;have hr:iG F j V:=⟨L,hn,hh⟩;by_cases h10:s.op=10
 ·refine .inl ⟨h10, ?_,by rw [hf];exact hh⟩;unfold onR;rw [if_neg (by simpa using h),if_neg (by simpa using hr),if_neg (by simpa using hj),if_pos h10]
 ·have h9:s.op≠9:=fun e=>by have:=yY h e;rw [<-hj,hn] at this;cases this
  obtain ⟨L',hF⟩:=Ef h h9 h10;have hL:L'=L:=by have:=hF.here;rw [<-hj,hn] at this;cases this;rfl
  subst hL;obtain ⟨k,C,hk,ho⟩:=Ku h hF h9 h10 hh.2.2;refine .inr ⟨k,_,by rw [hf];exact C, ?_⟩;unfold onR;rw [if_neg (by simpa using h),if_neg (by simpa using hr),if_neg (by simpa using hj),if_neg h10,hk,hf];by_cases h2:s.op=2
  ·rw [if_pos h2,if_pos h2,ho h2]
  ·rw [if_neg h2,if_neg h2]
theorem mX {w W:World} {R:Nat} {t:TypeId} {cs vs:List Value} {n:Nat} (hk:Block W R t cs) (hc:cs.length=n) (hv:vs.length=n) (hb:Below w.heap.size w W) (hR:w.heap.size<=R):
  W.there R 0 n/\Block (W.setCells R 0 vs) R t vs/\Below w.heap.size w (W.setCells R 0 vs):=by
 refine ⟨hk.there 0 n om_, ?_,below_setCells hb hR 0 vs⟩;have h:=hk.setCells (vs:=vs) (o:=0);rwa [fZ _ _ om_] at h
theorem gq:Hid ((prog.info? 32).map (·.size)=some 16):=by show _=_;kernel_rfl
end turn
namespace turn
open Go Go.RowKit schema
open record (vaC vaV)
open field (Va aC)
open step (va0)
set_option maxRecDepth 20000 in
set_option maxHeartbeats 1600000 in
theorem yD {B:Nat} {w:World} {u:Value} {V:List Va} (h:Own B w u V) (hB:B<=w.heap.size) {k i:Nat} (hk:k<V.length) (hi:i<V.length) (hn:V.length<=1000):
  Calls prog 54 #[u,.int .i64 (k:Int),.int .i64 (i:Int)] w (Turns B u (iO (cutV V k) i (V.getD k va0)) w):=by
 obtain ⟨g,cap,rfl,hb,hg,hn',hc,hr,hth,hset⟩:=h.get hk;obtain ⟨y,hy⟩:∃y,V.getD k va0=y:=⟨_,rfl⟩;rw [hy] at hr ⊢;have c0:w.cell? ⟨g,k*2,none⟩=some (.int .i64 y.n):=hr 0 _ rfl;have c1:w.cell? ⟨g,k*2+1,none⟩=some (.string y.s):=hr 1 _ rfl;have i1:(k:Int)<V.length:=by omega
 have HO:Hid (Own B (w.alloc (.cells (zV y) 28)) (.slice (some ⟨g,0,none⟩) V.length cap) V):=hid (h.later (aC w _));have HBX:Hid (Block (w.alloc (.cells (zV y) 28)) w.heap.size 28 (vaC y)):=hid (Block.new w _ _);have HGB:Hid (w.grownBy (w.alloc (.cells (zV y) 28)) (some g)):=hid (rows.eX (aC w _));have HNE:Hid (g≠w.heap.size):=hid om_;have HZ:Hid (B<=(w.alloc (.cells (zV y) 28)).heap.size):=hid (Nat.le_trans hB (aC w _).size);have HK:=hid hk;have HI:=hid hi;have HN:=hid hn;have hcl:=jL hk;have HCL:=hid hcl;clear h hB hr hth hset hy hb hg hn' hc hcl hi hn;go_enter func54,ntmps54;go_wp2;obtain ⟨W0,hW0⟩:∃x,Hid ((w.alloc (.cells (zV y) 28))=x):=⟨_,hid rfl⟩;rw [hW0.o] at HO HBX HGB HZ;try rw [hW0.o]
 have hob:(Value.slice (some ⟨g,0,none⟩) V.length cap).ownBlock=some g:=rfl;have hS:Block W0.drew w.heap.size 28 (vaC y):=HBX.o.drewN 1;have HOd:Own B W0.drew (.slice (some ⟨g,0,none⟩) V.length cap) V:=HO.o.later (aI (Below.refl _ _));have hZd:B<=W0.drew.heap.size:=HZ.o;refine plan.bD (S:=fun w'=>Block w' w.heap.size 28 (vaC y)) ?_;refine plan.af 0 _ (.slice (some ⟨g,0,none⟩) V.length cap) rfl (fun w' hS'=>kr_) hS ?_;refine plan.af 1 _ (.int .i64 (k:Int)) rfl (fun w' hS'=>kr_) hS ?_;refine plan.af 2 _ (.int .i64 (k:Int)) rfl (fun w' hS'=>kr_) hS ?_;refine plan.af 3 _ (.int .i64 ((k:Int)+1)) rfl (fun w' hS'=>typing.pM rfl om_ (by have:=HK.o;have:=HN.o;omega)) hS ?_;refine plan.af 5 _ (.int .i64 (i:Int)) rfl (fun w' hS'=>kr_) hS ?_;refine plan.af 6 _ (zV y) rfl (fun w' hS'=>plan.kC (cs:=vaC y) (b:=w.heap.size) rfl hS'.whole underlying28 rfl iD.o) hS ?_;refine typing.uO 4 7 ?_ ?_
 ·refine ⟨_,rfl,rfl,.inr ⟨53,#[.slice (some ⟨g,0,none⟩) V.length cap,.int .i64 (k:Int),.int .i64 ((k:Int)+1)],by kernel_rfl,(qI HOd HK.o HN.o).mono ?_⟩⟩;rintro e w3 ⟨v3,rfl,ho3,hg3,hob3⟩;rw [hob] at hg3 hob3;have hS3:Block w3 w.heap.size 28 (vaC y):=(hg3.block _ hS.lt (by have:=HNE.o;intro e;cases e;exact this rfl)).trans hS;refine ⟨v3,rfl,hS3, ?_⟩;have hSi:=hS3.alloc (.cells (zV y) 28);refine plan.bI (w1:=w3.alloc (.cells (zV y) 28)) 7 _ (.slice (some ⟨w3.heap.size,0,none⟩) 1 1) rfl rfl hSi ?_;have cI:=sV (i:=i) (g:=w3.heap.size) (ho3.later (aC w3 (.cells (zV y) 28))) (Nat.le_trans (Nat.le_trans hZd hg3.size) (aC w3 (.cells (zV y) 28)).size) y (by have:=HCL.o;have:=HI.o;omega) (Block.new w3 28 (vaC y)) (fun e=>by have:=(ho3.at' e).2;omega) (by have:=HCL.o;have:=HN.o;omega);refine plan.fJ 8 _ 51 #[v3,.int .i64 (i:Int),.slice (some ⟨w3.heap.size,0,none⟩) 1 1] rfl (cI.mono ?_);rintro e w4 ⟨v4,rfl,ho4,hg4⟩;rw [hob3] at hg4;have hS4:Block w4 w.heap.size 28 (vaC y):=(hg4.block _ hSi.lt (by have:=HNE.o;intro e;cases e;exact this rfl)).trans hSi;refine ⟨v4,rfl,hS4, ?_⟩;refine plan.bI (w1:=w4) 9 _ v4 rfl rfl hS4 ?_;refine plan.gm ?_;have HFIN:Hid (Turns B (.slice (some ⟨g,0,none⟩) V.length cap) (iO (cutV V k) i y) w (.returned v4) w4):=hid ⟨v4,rfl,ho4,HGB.o.trans (World.grownBy.trans (rows.eX (aI (Below.refl _ _))) (hg3.trans (World.grownBy.trans (rows.eX (aC w3 _)) hg4)))⟩;clear ho4 hg4 hS4 hS hS3 hSi hg3 ho3;walk_nrm;go_wp2;go_ret;exact HFIN.o
 ·have hS3:=hS.alloc (.cells (zV y) 28);refine ⟨_,rfl,rfl,.inl ⟨.slice (some ⟨W0.drew.heap.size,0,none⟩) 1 1,W0.drew.alloc (.cells (zV y) 28),by kernel_rfl,hS3, ?_⟩⟩;have hgl:g<W0.drew.heap.size:=(HO.o.at' rfl).2;refine plan.fJ 4 _ 53 #[.slice (some ⟨g,0,none⟩) V.length cap,.int .i64 (k:Int),.int .i64 ((k:Int)+1)] rfl ((qI (HOd.later (aC W0.drew (.cells (zV y) 28))) HK.o HN.o).mono ?_);rintro e w3 ⟨v3,rfl,ho3,hg3,hob3⟩;rw [hob] at hg3 hob3;have hSi:Block w3 w.heap.size 28 (vaC y):=(hg3.block _ hS3.lt (by have:=HNE.o;intro e;cases e;exact this rfl)).trans hS3;have hG:Block w3 W0.drew.heap.size 28 (vaC y):=(hg3.block _ si_ (by intro e;cases e;exact Nat.lt_irrefl _ hgl)).trans (Block.new W0.drew _ _);refine ⟨v3,rfl,hSi, ?_⟩;have cI:=sV (i:=i) (g:=W0.drew.heap.size) ho3 (Nat.le_trans (Nat.le_trans hZd (aC W0.drew (.cells (zV y) 28)).size) hg3.size) y (by have:=HCL.o;have:=HI.o;omega) hG (fun e=>by rw [hob3] at e;cases e;exact Nat.lt_irrefl _ hgl) (by have:=HCL.o;have:=HN.o;omega);refine plan.fJ 8 _ 51 #[v3,.int .i64 (i:Int),.slice (some ⟨W0.drew.heap.size,0,none⟩) 1 1] rfl (cI.mono ?_);rintro e w4 ⟨v4,rfl,ho4,hg4⟩;rw [hob3] at hg4;have hS4:Block w4 w.heap.size 28 (vaC y):=(hg4.block _ hSi.lt (by have:=HNE.o;intro e;cases e;exact this rfl)).trans hSi;refine ⟨v4,rfl,hS4, ?_⟩;refine plan.bI (w1:=w4) 9 _ v4 rfl rfl hS4 ?_;refine plan.gm ?_;have HFIN:Hid (Turns B (.slice (some ⟨g,0,none⟩) V.length cap) (iO (cutV V k) i y) w (.returned v4) w4):=hid ⟨v4,rfl,ho4,HGB.o.trans (World.grownBy.trans (rows.eX (aI (Below.refl _ _))) (World.grownBy.trans (rows.eX (aC W0.drew _)) (hg3.trans hg4)))⟩;clear ho4 hg4 hS4 hS hS3 hSi hg3 ho3 hG;walk_nrm;go_wp2;go_ret;exact HFIN.o
end turn
namespace typing
open Go.RowKit schema
open field (Gives aC aj)
open step (Lists)
theorem on_any (v:Int) (a:Option Addr) (cc:Nat) (F:List Fm) (s:step.Sp) (ta:Option Addr) (tc:Nat) (la:Option Addr) (lc:Nat) (w:World) (h:FmL w a F) (hF:Small w F) (hl:Lists w s ta la) (hL:s.l.length<=40):
  Calls prog 18 #[zS v a F.length cc,zP s ta tc la lc] w (oW (on v (forms F) s) w):=by
 obtain ⟨c,hc⟩:∃c,c=aJ (forms F) s:=⟨_,rfl⟩;have hs:s=c.s:=by rw [hc,uX]
 subst hs;unfold on;rw [<-hc];by_cases hf:Fit v (forms F) c.s
 ·rw [if_pos hf];by_cases h0:err c=0
  ·rw [if_pos h0];by_cases h1:Right v (applied (forms F) c)
   ·rw [if_pos h1];exact JI v a cc F c hc ta tc la lc w h hF hl hL hf h0 h1
   ·rw [if_neg h1];exact Iw v a cc F c hc ta tc la lc w h hF hl hL hf h0 h1
  ·rw [if_neg h0];exact Kt v a cc F c hc ta tc la lc w h hF hl hL hf h0
 ·rw [if_neg hf];exact KU v a cc F c hc ta tc la lc w h hF hl hL hf
end typing
namespace turn
open Go Go.RowKit schema typing
open record (dD)
open field (Va aC)
open step (Sp va0 fd0)
def kY (j:Int) (U:List Va) (E:Int) (w:World) (e:Ending) (w':World):Prop:=
 ∃x c,e=.returned (.tuple #[zS j x U.length c,.int .i64 E])/\Own w.heap.size w' (.slice x U.length c) U/\Below w.heap.size w w'
structure Up (i:Int) (fa:Option Addr) (fc:Nat) (L:List field.Fd) (s:Sp) (ta:Option Addr) (tc:Nat) (la:Option Addr) (lc:Nat) (j:Int) (u:Value) (U:List Va) (w W:World):Prop where
 form:Block W w.heap.size 57 (zS i fa L.length fc)
 step:Block W (w.heap.size+1) 32 (zP s ta tc la lc)
 rec':Block W (w.heap.size+1+1) 35 [.int .i64 j,u]
 res:Block W (w.heap.size+1+1+1) 35 [.int .i64 0,.slice none 0 0]
 row:Own (w.heap.size+4) W u U
 below:Below w.heap.size w W
section
variable {i:Int} {fa:Option Addr} {fc:Nat} {L:List field.Fd} {s:Sp} {ta:Option Addr} {tc:Nat} {la:Option Addr} {lc:Nat} {j:Int} {u u':Value} {U U':List Va} {w W W1 W2:World}
theorem Up.later (hA:Up i fa fc L s ta tc la lc j u U w W) (hb:Below W.heap.size W W1):Up i fa fc L s ta tc la lc j u U w W1:=
 ⟨hA.form.later hb,hA.step.later hb,hA.rec'.later hb,hA.res.later hb,hA.row.later hb,hA.below.trans (hb.mono hA.below.size)⟩
theorem Up.named (hA:Up i fa fc L s ta tc la lc j u U w W) (hb:Below W.heap.size W W1) (he:Hid (W1=W2)):Hid (Up i fa fc L s ta tc la lc j u U w W2):=hid (he.o ▸ hA.later hb)
theorem Up.turn (hA:Up i fa fc L s ta tc la lc j u U w W) (hg:W.grownBy W2 u.ownBlock) (ho:Own (w.heap.size+4) W2 u' U'):Block W2 (w.heap.size+1+1) 35 [.int .i64 j,u]/\Up i fa fc L s ta tc la lc j u' U' w (W2.setCell ⟨w.heap.size+1+1,1,none⟩ u'):=by
 have hr:∀ {g:Nat},u.ownBlock=some g->w.heap.size+4<=g:=fun e=>(hA.row.at' e).1
 have key:∀ {g:Nat} {t:TypeId} {cs:List Value},Block W g t cs->g<w.heap.size+4->Block W2 g t cs:=fun hB hlt=>(hg.block _ hB.lt (fun e=>by have:=hr e.symm;omega)).trans hB
 have hk:=key hA.rec' om_;refine ⟨hk,(key hA.form om_).apart _ _ _ om_,(key hA.step om_).apart _ _ _ om_,hk.setCell 1 u',(key hA.res om_).apart _ _ _ om_,ho.past (fun e=>by have:=(ho.at' e).1;omega) 1 [u'], ?_⟩;exact below_setCells (hA.below.grown hg hA.below.size (fun k e=>by have:=hr e;omega)) om_ 1 [u']
theorem Up.val (hA:Up i fa fc L s ta tc la lc j u U w W) {k:Nat} (hk:k<U.length) (y:Va) (hy:U.getD k va0=y):∃g cap,u=.slice (some ⟨g,0,none⟩) U.length cap/\W.rangeAt g (k*2) (record.vaC y)/\W.there g (k*2) 2/\
  w.heap.size+4<=g/\g<W.heap.size/\U.length<=cap:=by
 subst hy;obtain ⟨g,cap,hu,hb,hg,hn,hc,hr,hth,_⟩:=hA.row.get hk;exact ⟨g,cap,hu,hr,hth,hb,hg,hn⟩
theorem Up.set {g cap:Nat} (hA:Up i fa fc L s ta tc la lc j (.slice (some ⟨g,0,none⟩) U.length cap) U w W) {k:Nat} (hk:k<U.length) (m:Int) (q:ByteArray):Up i fa fc L s ta tc la lc j (.slice (some ⟨g,0,none⟩) U.length cap) (U.set k ⟨m,q⟩) w (W.setCells g (k*2) [.int .i64 m,.string q]):=by
 obtain ⟨g',cap',hu,hb,hg,hn,hc,hr,hth,hs,_⟩:=hA.row.get hk;cases hu
 exact ⟨hA.form.kZ _ _ _ om_,hA.step.kZ _ _ _ om_,hA.rec'.kZ _ _ _ om_,hA.res.kZ _ _ _ om_,hs m q,below_setCells hA.below om_ _ _⟩
theorem Up.fin (hA:Up i fa fc L s ta tc la lc j u U w W) (a b:Value):Block ((W.setCell ⟨w.heap.size+1+1+1,0,none⟩ a).setCell ⟨w.heap.size+1+1+1,1,none⟩ b) (w.heap.size+1+1+1) 35 [a,b]/\
  Own w.heap.size ((W.setCell ⟨w.heap.size+1+1+1,0,none⟩ a).setCell ⟨w.heap.size+1+1+1,1,none⟩ b) u U/\Below w.heap.size w ((W.setCell ⟨w.heap.size+1+1+1,0,none⟩ a).setCell ⟨w.heap.size+1+1+1,1,none⟩ b):=
 ⟨(hA.res.setCell 0 a).setCell 1 b,((hA.row.past (fun e=>by have:=(hA.row.at' e).1;omega) 0 [a]).past (fun e=>by have:=(hA.row.at' e).1;omega) 1 [b]).low om_,below_setCells (below_setCells hA.below om_ 0 [a]) om_ 1 [b]⟩
end
end turn
namespace pair
open Go.RowKit schema typing
open field (aC)
open step (Sp St Lists jm qJ Z16 wV qw spC)
theorem IJ (F:List schema.Form) (s:Sp):dW F s.fm=(aJ F s).L:=by
 unfold dW aJ;cases named F s.fm <;> rfl
theorem EZ {F:List schema.Form} {s:Sp} {c:Ch} (hc:c=aJ F s):ai (ids (dW F s.fm)) s.fd=c.at_/\bG (dW F s.fm) (ai (ids (dW F s.fm)) s.fd)=c.old/\dW F s.fm=c.L:=by
 have h1:=(iW F s).1;have h2:=(iW F s).2;rw [<-hc] at h1 h2;have h3:=IJ F s;rw [<-hc] at h3;rw [h3];exact ⟨h1.symm,by rw [h2,h1],rfl⟩
theorem Au (v:Int) (a:Option Addr) (cc:Nat) (F:List Fm) (s:Sp) (ta:Option Addr) (tc:Nat) (la:Option Addr) (lc:Nat) (w:World) (h:FmL w a F) (hF:Small w F) (hl:Lists w s ta la) (ht:s.t.length<=1000000) (h0:(on v (forms F) s).2.2=0):
  Calls prog 71 #[zS v a F.length cc,zP s ta tc la lc] w (yE (inv (forms F) s) w):=by
 have hf:=(lZ h0).1;obtain ⟨e1,e2,e3,e4⟩:=wQ (IC h0);have hop:=Dy hf;obtain ⟨c,hc⟩:∃c,c=aJ (forms F) s:=⟨_,rfl⟩;obtain ⟨i1,i2,i3⟩:=EZ hc;have hcs:c.s=s:=by rw [hc,uX]
 rw [<-hc] at e1 e2;have hk:s.op≠9->s.op≠1->s.op≠10->0<=c.at_:=fun h9 h1 h10=>by
  unfold found at e1;rw [hcs] at e1;simpa [h9,h1,h10] using e1
 have hcase:s.op=1\/s.op=2\/s.op=3\/s.op=4\/s.op=5\/s.op=6\/s.op=7\/s.op=8\/s.op=9\/s.op=10:=by omega
 have h9:s.op=9->¬0<=c.at_:=fun e=>by
  have hkn:c.kn=false:=by
   unfold twice at e2;rw [hcs,if_pos e] at e2;simpa using e2
  cases hn:named (forms F) s.fm with
  | none=>
   have:c=⟨s,0,[],false, -1,step.fd0⟩:=by rw [hc];unfold aJ;rw [hn]
   rw [this];show ¬(0:Int)<= -1
   omega
  | some p=>
   have:c=⟨s,s.fm,p.2,true,ai (ids p.2) s.fd,bG p.2 (ai (ids p.2) s.fd)⟩:=by rw [hc];unfold aJ;rw [hn]
   rw [this] at hkn;cases hkn
 by_cases ha:0<=c.at_
 ·have h9':s.op≠9:=fun e=>h9 e ha
  refine J6 v a cc F s (inv (forms F) s) c hc ta tc la lc w h hF hl ht ha om_ (fun e=> ?_) (fun e=> ?_) (fun e=> ?_) (fun e=> ?_) (fun e=> ?_) (fun e=> ?_) (fun e=> ?_) (fun e=> ?_) (fun e=> ?_) <;> (unfold inv;rw [i2,i1,i3];rw [e];rfl)
 ·refine JM v a cc F s (inv (forms F) s) c hc ta tc la lc w h hF hl ht ha (Decidable.byContradiction fun hh=>ha (hk (fun e=>hh (.inr (.inl e))) (fun e=>hh (.inl e)) (fun e=>hh (.inr (.inr e))))) (fun e=> ?_) (fun e=> ?_) (fun e=> ?_) <;> (unfold inv;rw [i2,i1,i3];rw [e];rfl)
end pair
end Go.Proofs.YtdnegbkhndekpaaGreat
