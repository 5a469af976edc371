/- Contracts and lemmas that claims of this seat share: TypingApplied, TypingOnMath, FieldNumber, PairMath, PairKit. Each says its own conditions. -/
import Derived.Test.YtogkgbnpodojjaaGreatCmWord
import Derived.Conc.WalkWords
import Derived.Test.YtogkgbnpodojjaaGreatCmE
import Derived.Test.YtogkgbnpodojjaaGreatCmF
import Derived.Test.YtogkgbnpodojjaaGreatCmU
import Derived.Test.YtogkgbnpodojjaaGreatCmO
import Derived.Test.YtogkgbnpodojjaaGreatCmQ
import Derived.Test.YtogkgbnpodojjaaGreatCmW
import Derived.Test.YtogkgbnpodojjaaGreatCmV
import Derived.Test.YtogkgbnpodojjaaGreatCmS
set_option linter.unusedVariables false
namespace Go.Proofs.YtogkgbnpodojjaaGreat
open Go.Proofs.Tryz
theorem t142{P:Prop}(h:P:=by
 refine plan.dZ (w1:=w3) 10 _ (zS c.s.fm ya c.s.l.length yc) rfl rfl hA3.k0 ?_
 exact t121):P:=h
theorem t121{P:Prop}(h:P:=by
 have hA4:=hA3.later (ak w3 (.cells (zS c.s.fm ya c.s.l.length yc) 49));refine plan.dZ (w1:=w3.alloc (.cells (zS c.s.fm ya c.s.l.length yc) 49)) 11 _ (.slice (some ⟨w3.heap.size,0,none⟩) 1 1) rfl rfl hA4.k0 ?_
 exact t2):P:=h
theorem t89{P:Prop}(h:P:=by
 exact below_setCells (below_setCells e3 om_ 0 [_]) om_ 1 [_]):P:=h
theorem t47{P:Prop}(h:P:=by
 have h1:=ak w (.cells (zH c ta tc la lc fa fc) 147);have h2:=h1.alloc h1.size (.cells (zS v a F.length cc) 24);exact h2.alloc h2.size _):P:=h
theorem t41{P:Prop}(h:P:=by
 have:=(Block.new ((w.alloc (.cells (zH c ta tc la lc fa fc) 147))) 24 (zS v a F.length cc)).alloc (.cells #[.int .i64 0,.slice none 0 0] 24);simpa using this):P:=h
theorem t2{P:Prop}(h:P:=by
 have hq:oq (w.heap.size+3) (w3.alloc (.cells (zS c.s.fm ya c.s.l.length yc) 49)) ⟨c.s.fm,ya,yc,c.s.l⟩:=(aW ho3 (by have:=hA2.low;exact this.2)).alloc _;have cI:=kL (w.heap.size+3) G.length P w3.heap.size 0 1 (fmC ⟨c.s.fm,ya,yc,c.s.l⟩) 49 (.slice x G.length xc) (fmV G) (fmC ⟨c.s.fm,ya,yc,c.s.l⟩) (w3.alloc (.cells (zS c.s.fm ya c.s.l.length yc) 49)) hA4.row hA4.low.2 om_ rfl (Block.new w3 _ _) (by simp [fmC]) (fun e=>by have:=(World.ownsRow.lt hA3.row _ e).2;omega) (fun j u hj=>by rw [Nat.zero_add];exact hj) (by intro u hu;simp [fmC] at hu;rcases hu with rfl | rfl <;> rfl) (lT G) (by have:=HF40.o;omega);unfold yZ at cI;refine plan.dY 12 _ 150 #[.slice x G.length xc,.int .i64 (P:Int),.slice (some ⟨w3.heap.size,0,none⟩) 1 1] rfl (cI.mono ?_);rintro e w4 ⟨v4,rfl,ho4,hg4⟩;obtain ⟨x4,xc4,rfl,_⟩:=aA ho4;have ho4':w4.ownsRow (w.heap.size+3) 49 2 (.slice x4 (G.length+1) xc4) (G.length+1) (fmV (G.take P++([⟨c.s.fm,ya,yc,c.s.l⟩]++G.drop P))):=by
  rw [dP,dP,<-mZ,<-mY];exact ho4
 have hh:=hA4.hold hg4;have hA5:=hA4.put hg4 ho4' (fun p hp=>by
  rcases List.mem_append.1 hp with h | h
  ·exact hA4.each p (List.mem_of_mem_take h)
  ·rcases List.mem_append.1 h with h2 | h2
   ·rw [List.mem_singleton.1 h2];exact hq
   ·exact hA4.each p (List.mem_of_mem_drop h2))
 have hk0:Block w4 w.heap.size 147 (zH c ta tc la lc fa fc):=(hg4.block _ hA4.k0.lt (fun e=>by have:=(World.ownsRow.lt hA4.row _ e.symm).1;omega)).trans hA4.k0;refine ⟨_,rfl,hk0, ?_⟩;refine plan.dZ (w1:=w4) 13 _ (.pointer (some ⟨w.heap.size+1,1,none⟩)) rfl rfl hk0 ?_;obtain ⟨w5,hw5⟩:∃w5,Hid (w4.setCell ⟨w.heap.size+1,1,none⟩ (.slice x4 (G.length+1) xc4)=w5):=⟨_,rfl⟩;rw [hw5.o] at hA5;have hrun:=fun (o:Oper) (act:Act) (q1:o.op=.store 22 (.tmp 43) (.tmp 42)) (q2:act.eval (.tmp 43)=.pointer (some ⟨w.heap.size+1,1,none⟩)) (q3:act.eval (.tmp 42)=.slice x4 (G.length+1) xc4)=>jF (o:=o) (a:=act) q1 q2 q3 (hh.cell 1) (hh.frozen 1)
 rw [hw5.o] at hrun;refine plan.ni (w1:=w5) 14 _ rfl rfl rfl (hrun _ _ rfl kr_ kr_) hA5.k0 ?_;have HA5:=hid hA5;clear hA5 hA4 hA3 hA2 hq cI ho4 ho4' hg4 hh hk0 hrun hw5 hGl ho3 hb3 hS cC;have z10:=HA5.o.k1.cell 0;have z11:=HA5.o.k1.cell 1;have q20:=HA5.o.k2.cell 0;have q21:=HA5.o.k2.cell 1;have r20:=HA5.o.k2.frozen 0;have r21:=HA5.o.k2.frozen 1;walk_nrm;go_wp2;have hR:=(HA5.o.k2.setCell 0 (.int .i64 v)).setCell 1 (.slice x4 (G.length+1) xc4);refine bodyPost_ret (aI (b:=w.heap.size+1+1) (o:=0) rfl rfl hR.whole underlying24 rfl (fV _ _)) rfl ?_;have hd:=HA5.o.done rfl;rw [HFE.o _ rfl] at hd;exact hd):P:=h
namespace typing
open Go.RowKit schema rows
open field (Gives ak aj)
theorem mZ (L:List Fm) (i:Nat):(fmV L).take (i*2)=fmV (L.take i):=by
 by_cases h:i<=L.length
 ·conv=>lhs;rw [<-List.take_append_drop i L,dP]
  exact List.take_left' (by rw [gU,List.length_take,Nat.min_eq_left h])
 ·rw [List.take_of_length_le (by rw [gU];omega),List.take_of_length_le om_]
theorem mY (L:List Fm) (i:Nat):(fmV L).drop (i*2)=fmV (L.drop i):=by
 by_cases h:i<=L.length
 ·conv=>lhs;rw [<-List.take_append_drop i L,dP]
  exact List.drop_left' (by rw [gU,List.length_take,Nat.min_eq_left h])
 ·rw [List.drop_of_length_le (by rw [gU];omega),List.drop_of_length_le om_];rfl
structure Ap (T B0:Nat) (K:List Value) (v:Int) (u:Value) (n:Nat) (G:List Fm) (w w2:World):Prop where
 k0:Block w2 B0 147 K
 k1:Block w2 (B0+1) 24 [.int .i64 v,u]
 k2:Block w2 (B0+1+1) 24 [.int .i64 0,.slice none 0 0]
 row:w2.ownsRow T 49 2 u n (fmV G)
 each:∀p∈G,oq T w2 p
 below:Below B0 w w2
 low:B0+3<=T/\T<=w2.heap.size
variable {T B0 n:Nat} {K:List Value} {v:Int} {u:Value} {G:List Fm} {w w2 w3:World}
theorem Ap.len (h:Ap T B0 K v u n G w w2):n=G.length:=by
 have:=h.row.1;rw [gU] at this;omega
theorem Ap.later (h:Ap T B0 K v u n G w w2) (hb:Below w2.heap.size w2 w3):Ap T B0 K v u n G w w3:=
 ⟨h.k0.later hb,h.k1.later hb,h.k2.later hb,ai h.row hb,fun p hp=>ai (h.each p hp) hb,h.below.trans (hb.mono (by have:=h.low;omega)),⟨h.low.1,Nat.le_trans h.low.2 hb.size⟩⟩
theorem Ap.put {m:Nat} {u':Value} {G':List Fm} (h:Ap T B0 K v u n G w w2) (hg:w2.grownBy w3 u.ownBlock) (ho:w3.ownsRow T 49 2 u' m (fmV G')) (hG:∀p∈G',oq T w2 p):Ap T B0 K v u' m G' w (w3.setCell ⟨B0+1,1,none⟩ u'):=by
 have hlt:=fun j hj=>World.ownsRow.lt h.row j hj
 have hl:=h.low;have hbk:∀j,j<T->w3.heap[j]?=w2.heap[j]?:=fun j hj=>hg.block j om_ (fun e=>by have:=hlt j e.symm;omega)
 have e0:Block w3 B0 147 K:=(hbk B0 om_).trans h.k0;have e1:Block w3 (B0+1) 24 [.int .i64 v,u]:=(hbk _ om_).trans h.k1;have e2:Block w3 (B0+1+1) 24 [.int .i64 0,.slice none 0 0]:=(hbk _ om_).trans h.k2;have hsy:=iI 52 h.row hg FY;refine ⟨e0.apart _ _ _ om_,e1.setCell 1 u',e2.apart _ _ _ om_,aT ho om_,fun p hp=>aT (hsy.row (hG p hp)) om_, ?_,⟨h.low.1,Nat.le_trans h.low.2 (by simpa using hg.size)⟩⟩;exact below_setCells (h.below.grown hg om_ (fun j hj=>by have:=hlt j hj;omega)) om_ 1 [u']
theorem Ap.hold (h:Ap T B0 K v u n G w w2) (hg:w2.grownBy w3 u.ownBlock):Block w3 (B0+1) 24 [.int .i64 v,u]:=by
 have hl:=h.low;exact (hg.block _ om_ (fun e=>by have:=World.ownsRow.lt h.row _ e.symm;omega)).trans h.k1
theorem Ap.done (h:Ap T B0 K v u n G w w2) (hw:w.heap.size=B0):gm v (forms G) w (.returned (.agg #[.int .i64 v,u])) ((w2.setCell ⟨B0+1+1,0,none⟩ (.int .i64 v)).setCell ⟨B0+1+1,1,none⟩ u):=by
 have hl:=h.low;refine ⟨u,G,rfl, ?_,fun p hp=> ?_,rfl, ?_⟩
 ·rw [hw,<-h.len];exact aW (aT (aT h.row om_) om_) om_
 ·rw [hw];exact aW (aT (aT (h.each p hp) om_) om_) om_
 ·rw [hw];exact below_setCells (below_setCells h.below om_ 0 [_]) om_ 1 [_]
theorem yB {o:Oper} {a:Act} {w:World} {x y:Operand} {b off len cap i:Nat} (ho:o.op=.indexAddr 22 x y) (hi:i<len) (hx:a.eval x=.slice (some ⟨b,off,none⟩) len cap:=by kernel_rfl) (hy:a.eval y=.int .i64 (i:Int):=by kernel_rfl):
  (execOp a.eval o).run prog w=.ok (.value (.pointer (some ⟨b,off+i*2,none⟩))) w:=by
 exact t37
theorem jF {o:Oper} {a:Act} {w:World} {x y:Operand} {ad:Addr} {v:Value} {p:Option Addr} {n c:Nat} (ho:o.op=.store 22 x y) (hx:a.eval x=.pointer (some ad)) (hy:a.eval y=.slice p n c) (hc:w.cell? ad=some v) (hf:w.frozen? ad=false):(execOp a.eval o).run prog w=.ok .skip (w.setCell ad (.slice p n c)):=by
 exact t37
theorem Ap.set {g cap P:Nat} {p q:Fm} (h:Ap T B0 K v (.slice (some ⟨g,0,none⟩) n cap) n G w w2) (hp:G[P]?=some p) (hq:q.id=p.id) (ho:oq T w2 q):
  Ap T B0 K v (.slice (some ⟨g,0,none⟩) n cap) n (G.set P q) w (w2.setCell ⟨g,P*2+1,none⟩ (.slice q.f q.fL.length q.fCap)):=by
 have hg:=World.ownsRow.lt h.row g rfl;have hl:=h.low;have hst:=h.row.stored (P*2+1) (.slice q.f q.fL.length q.fCap);rw [yG G P p q _ hp hq rfl] at hst;have hsy:dX 52 w2 (w2.setCell ⟨g,P*2+1,none⟩ (.slice q.f q.fL.length q.fCap)):=by
  rcases h.row.2 with ⟨hv,_⟩ | ⟨g',cap',cur,hv,_,hh,_⟩
  ·cases hv
  ·exact t101
 refine ⟨h.k0.apart _ _ _ om_,h.k1.apart _ _ _ om_,h.k2.apart _ _ _ om_,hst.1,fun r hr=> ?_,below_setCells h.below om_ _ [_],⟨hl.1,by simpa using hl.2⟩⟩;rcases List.mem_or_eq_of_mem_set hr with h1 | rfl
 ·exact hsy.row (h.each r h1)
 ·exact hsy.row ho
theorem rM (G:List Fm) (i:Nat):forms (G.take i)=(forms G).take i:=by unfold forms;rw [List.map_take]
theorem rJ (G:List Fm) (i:Nat):forms (G.drop i)=(forms G).drop i:=by unfold forms;rw [List.map_drop]
theorem lU (A D:List Fm):forms (A++D)=forms A++forms D:=by unfold forms;rw [List.map_append]
set_option maxRecDepth 20000 in
set_option maxHeartbeats 3200000 in
theorem mP (c:Ch) (ta:Option Addr) (tc:Nat) (la:Option Addr) (lc:Nat) (fa:Option Addr) (fc:Nat) (w:World) (v:Int) (a:Option Addr) (cc:Nat) (F:List Fm) (hm:Fms w a F) (hF:Small w F) (hs:Sorted (forms F)) (h10:c.s.op=10) (hk:named (forms F) c.s.fm≠none):
  Calls prog 94 #[zH c ta tc la lc fa fc,zS v a F.length cc] w (gm v (applied (forms F) c) w):=by
 have hbw:Below w.heap.size w ((((w.alloc (.cells (zH c ta tc la lc fa fc) 147))).alloc (.cells (zS v a F.length cc) 24)).alloc (.cells #[.int .i64 0,.slice none 0 0] 24)):=by
  exact t47
 have hsz:(((((w.alloc (.cells (zH c ta tc la lc fa fc) 147))).alloc (.cells (zS v a F.length cc) 24)).alloc (.cells #[.int .i64 0,.slice none 0 0] 24))).heap.size=w.heap.size+3:=by simp
 have HX:Hid (∀w',Below (((((w.alloc (.cells (zH c ta tc la lc fa fc) 147))).alloc (.cells (zS v a F.length cc) 24)).alloc (.cells #[.int .i64 0,.slice none 0 0] 24))).heap.size ((((w.alloc (.cells (zH c ta tc la lc fa fc) 147))).alloc (.cells (zS v a F.length cc) 24)).alloc (.cells #[.int .i64 0,.slice none 0 0] 24)) w'->Block w' w.heap.size 147 (zH c ta tc la lc fa fc)/\Block w' (w.heap.size+1) 24 (zS v a F.length cc)/\Block w' (w.heap.size+1+1) 24 [.int .i64 0,.slice none 0 0]/\Below w.heap.size w w'):=hid (fun w' hb=>by
  refine ⟨(((Block.new w _ _).alloc _).alloc _).later hb,Block.later (w:=((((w.alloc (.cells (zH c ta tc la lc fa fc) 147))).alloc (.cells (zS v a F.length cc) 24)).alloc (.cells #[.int .i64 0,.slice none 0 0] 24))) ?_ hb,Block.later (w:=((((w.alloc (.cells (zH c ta tc la lc fa fc) 147))).alloc (.cells (zS v a F.length cc) 24)).alloc (.cells #[.int .i64 0,.slice none 0 0] 24))) ?_ hb,hbw.trans (hb.mono om_)⟩
  ·exact t41
  ·have:=Block.new (((w.alloc (.cells (zH c ta tc la lc fa fc) 147))).alloc (.cells (zS v a F.length cc) 24)) 24 [.int .i64 0,.slice none 0 0];simpa using this)
 have cCl:=gB v a cc F ((((w.alloc (.cells (zH c ta tc la lc fa fc) 147))).alloc (.cells (zS v a F.length cc) 24)).alloc (.cells #[.int .i64 0,.slice none 0 0] 24)) (hm.below hbw) (hF.below hbw);unfold gm at cCl;have h40:=hF.1;have HAP:Hid (∀(w1:World) (x:Option Addr) (xc:Nat) (G:List Fm),Below (((((w.alloc (.cells (zH c ta tc la lc fa fc) 147))).alloc (.cells (zS v a F.length cc) 24)).alloc (.cells #[.int .i64 0,.slice none 0 0] 24))).heap.size ((((w.alloc (.cells (zH c ta tc la lc fa fc) 147))).alloc (.cells (zS v a F.length cc) 24)).alloc (.cells #[.int .i64 0,.slice none 0 0] 24)) w1->w1.ownsRow (((((w.alloc (.cells (zH c ta tc la lc fa fc) 147))).alloc (.cells (zS v a F.length cc) 24)).alloc (.cells #[.int .i64 0,.slice none 0 0] 24))).heap.size 49 2 (.slice x G.length xc) G.length (fmV G)->(∀p∈G,oq (((((w.alloc (.cells (zH c ta tc la lc fa fc) 147))).alloc (.cells (zS v a F.length cc) 24)).alloc (.cells #[.int .i64 0,.slice none 0 0] 24))).heap.size w1 p)->
   Ap (w.heap.size+3) w.heap.size (zH c ta tc la lc fa fc) v (.slice x G.length xc) G.length G w ((w1.setCell ⟨w.heap.size+1,0,none⟩ (.int .i64 v)).setCell ⟨w.heap.size+1,1,none⟩ (.slice x G.length xc))):=hid (fun w1 x xc G hb ho he=>by
  obtain ⟨e0,e1,e2,e3⟩:=HX.o w1 hb;rw [hsz] at ho he;refine ⟨(e0.apart _ _ _ om_).apart _ _ _ om_,(e1.setCell 0 (.int .i64 v)).setCell 1 (.slice x G.length xc),(e2.apart _ _ _ om_).apart _ _ _ om_,aT (aT ho om_) om_,fun p hp=>aT (aT (he p hp) om_) om_, ?_, ?_⟩
  ·exact t89
  ·have:=hb.size;rw [hsz] at this;simpa using this)
 have HS:=hid hs;have HF40:=hid h40;clear hbw hsz hm hs h40;have d9:=bf (show ¬c.s.op=9 by omega);have d10:=bt h10;have hlt:pos (forms F) c.s.fm<F.length:=by
  obtain ⟨p,hp⟩:=Option.ne_none_iff_exists'.1 hk;obtain ⟨h1,h2⟩:=bH hp;have:=pos_at HS.o h1;rw [h2] at this;have:=(List.getElem?_eq_some_iff.1 this).1;rwa [aF] at this
 have hap:applied (forms F) c=(forms F).take (pos (forms F) c.s.fm)++(forms F).drop (pos (forms F) c.s.fm+1):=by unfold applied;rw [if_neg om_,if_pos h10]
 rw [hap];clear h10 hk hap;obtain ⟨P,hP⟩:∃P,Hid (pos (forms F) c.s.fm=P):=⟨_,rfl⟩;rw [hP.o] at hlt ⊢;obtain ⟨N,hN⟩:∃N,Hid (F.length=N+1):=⟨F.length - 1,hid om_⟩;have hPN:P<=N:=by have:=hN.o;omega
 have hN40:N<=40:=by have:=hN.o;have:=HF40.o;omega
 have hPi:(P:Int)<=40:=by omega
 have n1:w.heap.size≠w.heap.size+1:=by omega
 have n2:w.heap.size+1≠w.heap.size+1+1:=by omega
 clear hlt;go_enter func94,ntmps94;go_wp2_with (first
   | (go_at_call 146;((with_reducible refine cCl.mono ?_);rintro e w1 ⟨u,G,rfl,hou,heach,heq,hb1⟩;obtain ⟨x,xc,rfl,hxc⟩:=aA hou;obtain ⟨b0,b1,b2,hbo⟩:=HX.o w1 hb1;have y1:=b0.cell 1;have y10:=b1.cell 0;have y11:=b1.cell 1;have f10:=b1.frozen 0;have f11:=b1.frozen 1;have HAP1:=hid (HAP.o w1 x xc G hb1 hou heach);have HEQ:=hid heq;have cSe:=jT x xc G c.s.fm _ (tu HAP1.o.row).1 (by have:=congrArg List.length heq;rw [aF,aF] at this;have:=HF40.o;omega) (by rw [heq];exact HS.o);rw [heq,hP.o] at cSe;clear hou heach heq hb1 b0 b1 b2 hbo))
   | (go_at_call 147;((with_reducible refine cSe.mono ?_);rintro e w2 ⟨b,rfl,hb2⟩;have HA2:=hid (HAP1.o.later hb2);have z10:=HA2.o.k1.cell 0;have z11:=HA2.o.k1.cell 1;have zop:=HA2.o.k0.cell 0;have g11:=HA2.o.k1.frozen 1;have q20:=HA2.o.k2.cell 0;have q21:=HA2.o.k2.cell 1;have r20:=HA2.o.k2.frozen 0;have r21:=HA2.o.k2.frozen 1;clear hb2))
   | (go_at_call 151;(have hGl:G.length=N+1:=(by have:=congrArg List.length HEQ.o;rw [aF,aF,hN.o] at this;exact this));(have cD:=zo (w.heap.size+3) N P (.slice x G.length xc) (fmV G) w2 (by rw [<-hGl];exact HA2.o.row) om_ (lT G) om_);unfold LessM at cD;((with_reducible refine cD.mono ?_);rintro e w3 ⟨v3,rfl,ho3,hg3,hob⟩;obtain ⟨x3,xc3,rfl,hx3⟩:=aA ho3;rw [mZ,mY,<-dP] at ho3;have hh:=HA2.o.hold hg3;have p11:=hh.cell 1;have g11':=hh.frozen 1;have HA5:=hid (HA2.o.put hg3 ho3 (fun p hp=>HA2.o.each p ((List.mem_append.1 hp).elim (fun h=>List.mem_of_mem_take h) (fun h=>List.mem_of_mem_drop h))));have z10:=HA5.o.k1.cell 0;have z11:=HA5.o.k1.cell 1;have q20:=HA5.o.k2.cell 0;have q21:=HA5.o.k2.cell 1;have r20:=HA5.o.k2.frozen 0;have r21:=HA5.o.k2.frozen 1;clear ho3 hg3 hob hh hGl)))
 have hR:=(HA5.o.k2.setCell 0 (.int .i64 v)).setCell 1 (.slice x3 N xc3);refine bodyPost_ret (aI (b:=w.heap.size+1+1) (o:=0) rfl rfl hR.whole underlying24 rfl (fV _ _)) rfl ?_;have hd:=HA5.o.done rfl;rw [lU,rM,rJ,HEQ.o] at hd;exact hd
set_option maxRecDepth 20000 in
set_option maxHeartbeats 3200000 in
theorem vV (c:Ch) (ta:Option Addr) (tc:Nat) (la:Option Addr) (lc:Nat) (fa:Option Addr) (fc:Nat) (w:World) (v:Int) (a:Option Addr) (cc:Nat) (F:List Fm) (hm:Fms w a F) (hF:Small w F) (hs:Sorted (forms F)) (h9:¬c.s.op=9) (h10:¬c.s.op=10) (p0:schema.Form) (hk:named (forms F) c.s.fm=some p0) (hfa:field.Fds w fa c.L) (hL:c.L.length<=40) (hp:Places c) (hb4:c.s.op=4->Bd c) (hb6:c.s.op=6->Bq c):
  Calls prog 94 #[zH c ta tc la lc fa fc,zS v a F.length cc] w (gm v (applied (forms F) c) w):=by
 have hbw:Below w.heap.size w ((((w.alloc (.cells (zH c ta tc la lc fa fc) 147))).alloc (.cells (zS v a F.length cc) 24)).alloc (.cells #[.int .i64 0,.slice none 0 0] 24)):=by
  exact t47
 have hsz:(((((w.alloc (.cells (zH c ta tc la lc fa fc) 147))).alloc (.cells (zS v a F.length cc) 24)).alloc (.cells #[.int .i64 0,.slice none 0 0] 24))).heap.size=w.heap.size+3:=by simp
 have HX:Hid (∀w',Below (((((w.alloc (.cells (zH c ta tc la lc fa fc) 147))).alloc (.cells (zS v a F.length cc) 24)).alloc (.cells #[.int .i64 0,.slice none 0 0] 24))).heap.size ((((w.alloc (.cells (zH c ta tc la lc fa fc) 147))).alloc (.cells (zS v a F.length cc) 24)).alloc (.cells #[.int .i64 0,.slice none 0 0] 24)) w'->Block w' w.heap.size 147 (zH c ta tc la lc fa fc)/\Block w' (w.heap.size+1) 24 (zS v a F.length cc)/\Block w' (w.heap.size+1+1) 24 [.int .i64 0,.slice none 0 0]/\Below w.heap.size w w'):=hid (fun w' hb=>by
  refine ⟨(((Block.new w _ _).alloc _).alloc _).later hb,Block.later (w:=((((w.alloc (.cells (zH c ta tc la lc fa fc) 147))).alloc (.cells (zS v a F.length cc) 24)).alloc (.cells #[.int .i64 0,.slice none 0 0] 24))) ?_ hb,Block.later (w:=((((w.alloc (.cells (zH c ta tc la lc fa fc) 147))).alloc (.cells (zS v a F.length cc) 24)).alloc (.cells #[.int .i64 0,.slice none 0 0] 24))) ?_ hb,hbw.trans (hb.mono om_)⟩
  ·exact t41
  ·have:=Block.new (((w.alloc (.cells (zH c ta tc la lc fa fc) 147))).alloc (.cells (zS v a F.length cc) 24)) 24 [.int .i64 0,.slice none 0 0];simpa using this)
 have cCl:=gB v a cc F ((((w.alloc (.cells (zH c ta tc la lc fa fc) 147))).alloc (.cells (zS v a F.length cc) 24)).alloc (.cells #[.int .i64 0,.slice none 0 0] 24)) (hm.below hbw) (hF.below hbw);unfold gm at cCl;have h40:=hF.1;have HAP:Hid (∀(w1:World) (x:Option Addr) (xc:Nat) (G:List Fm),Below (((((w.alloc (.cells (zH c ta tc la lc fa fc) 147))).alloc (.cells (zS v a F.length cc) 24)).alloc (.cells #[.int .i64 0,.slice none 0 0] 24))).heap.size ((((w.alloc (.cells (zH c ta tc la lc fa fc) 147))).alloc (.cells (zS v a F.length cc) 24)).alloc (.cells #[.int .i64 0,.slice none 0 0] 24)) w1->w1.ownsRow (((((w.alloc (.cells (zH c ta tc la lc fa fc) 147))).alloc (.cells (zS v a F.length cc) 24)).alloc (.cells #[.int .i64 0,.slice none 0 0] 24))).heap.size 49 2 (.slice x G.length xc) G.length (fmV G)->(∀p∈G,oq (((((w.alloc (.cells (zH c ta tc la lc fa fc) 147))).alloc (.cells (zS v a F.length cc) 24)).alloc (.cells #[.int .i64 0,.slice none 0 0] 24))).heap.size w1 p)->
   Ap (w.heap.size+3) w.heap.size (zH c ta tc la lc fa fc) v (.slice x G.length xc) G.length G w ((w1.setCell ⟨w.heap.size+1,0,none⟩ (.int .i64 v)).setCell ⟨w.heap.size+1,1,none⟩ (.slice x G.length xc))):=hid (fun w1 x xc G hb ho he=>by
  obtain ⟨e0,e1,e2,e3⟩:=HX.o w1 hb;rw [hsz] at ho he;refine ⟨(e0.apart _ _ _ om_).apart _ _ _ om_,(e1.setCell 0 (.int .i64 v)).setCell 1 (.slice x G.length xc),(e2.apart _ _ _ om_).apart _ _ _ om_,aT (aT ho om_) om_,fun p hp=>aT (aT (he p hp) om_) om_, ?_, ?_⟩
  ·exact t89
  ·have:=hb.size;rw [hsz] at this;simpa using this)
 have HS:=hid hs;have HF40:=hid h40;clear hbw hsz hm hs h40;have d9:=bf h9;have d10:=bf h10;have hat:(forms F)[pos (forms F) c.s.fm]?=some p0:=by
  obtain ⟨h1,h2⟩:=bH hk;have:=pos_at HS.o h1;rwa [h2] at this
 have hlt:pos (forms F) c.s.fm<F.length:=by
  have:=(List.getElem?_eq_some_iff.1 hat).1;rwa [aF] at this
 have hap:applied (forms F) c=(forms F).set (pos (forms F) c.s.fm) (c.s.fm,fields c):=by unfold applied;rw [if_neg h9,if_neg h10,Dz HS.o hk]
 rw [hap];have hp01:=(bH hk).2;clear h9 h10 hk hap;obtain ⟨P,hP⟩:∃P,Hid (pos (forms F) c.s.fm=P):=⟨_,rfl⟩;rw [hP.o] at hlt hat ⊢;have HAT:=hid hat;have hPi:(P:Int)<=40:=by have:=HF40.o;omega
 have hPL:(P:Int)<F.length:=by omega
 have n1:w.heap.size≠w.heap.size+1:=by omega
 have n2:w.heap.size+1≠w.heap.size+1+1:=by omega
 have cFl:=fun (w':World) (hb:Below w.heap.size w w')=>BH c ta tc la lc fa fc w' (hfa.below hb) hL hp hb4 hb6
 unfold mO at cFl;clear hat hfa hp hb4 hb6;obtain ⟨FL,hFL⟩:∃FL,Hid (fields c=FL):=⟨_,rfl⟩;rw [hFL.o] at cFl ⊢;go_enter func94,ntmps94;go_wp2_with (first
   | (go_at_call 146;((with_reducible refine cCl.mono ?_);rintro e w1 ⟨u,G,rfl,hou,heach,heq,hb1⟩;obtain ⟨x,xc,rfl,hxc⟩:=aA hou;obtain ⟨b0,b1,b2,hbo⟩:=HX.o w1 hb1;have y1:=b0.cell 1;have y10:=b1.cell 0;have y11:=b1.cell 1;have f10:=b1.frozen 0;have f11:=b1.frozen 1;have HAP1:=hid (HAP.o w1 x xc G hb1 hou heach);have HEQ:=hid heq;have cSe:=jT x xc G c.s.fm _ (tu HAP1.o.row).1 (by have:=congrArg List.length heq;rw [aF,aF] at this;have:=HF40.o;omega) (by rw [heq];exact HS.o);rw [heq,hP.o] at cSe;clear hou heach heq hb1 b0 b1 b2 hbo))
   | (go_at_call 147;((with_reducible refine cSe.mono ?_);rintro e w2 ⟨b,rfl,hb2⟩;have HA2:=hid (HAP1.o.later hb2);have z10:=HA2.o.k1.cell 0;have z11:=HA2.o.k1.cell 1;have zop:=HA2.o.k0.cell 0;have g11:=HA2.o.k1.frozen 1;have q20:=HA2.o.k2.cell 0;have q21:=HA2.o.k2.cell 1;have r20:=HA2.o.k2.frozen 0;have r21:=HA2.o.k2.frozen 1;clear hb2)))
 have hGl:G.length=F.length:=by have:=congrArg List.length HEQ.o;rwa [aF,aF] at this
 obtain ⟨g,rfl⟩:∃g,x=some ⟨g,0,none⟩:=by
  rcases HA2.o.row.2 with ⟨hv,h0⟩ | ⟨g,_,_,hv,_⟩
  ·omega
  ·cases hv;exact ⟨g,rfl⟩
 have hS:Block w2.drew w.heap.size 147 (zH c ta tc la lc fa fc)/\Block w2.drew (w.heap.size+1) 24 (zS v (some ⟨g,0,none⟩) G.length xc):=⟨HA2.o.k0,HA2.o.k1⟩;have hgT:=(World.ownsRow.lt HA2.o.row g rfl).1;refine plan.bU (S:=fun w'=>Block w' w.heap.size 147 (zH c ta tc la lc fa fc)/\Block w' (w.heap.size+1) 24 (zS v (some ⟨g,0,none⟩) G.length xc)) ?_;refine plan.af 0 _ (.pointer (some ⟨w.heap.size+1,1,none⟩)) rfl (fun w' hS'=>kr_) hS ?_;refine plan.af 1 _ (.slice (some ⟨g,0,none⟩) G.length xc) rfl (fun w' hS'=>aG (ad:=⟨w.heap.size+1,1,none⟩) rfl (hS'.2.cell 1) isAgg22) hS ?_;refine plan.af 2 _ (.int .i64 (P:Int)) rfl (fun w' hS'=>kr_) hS ?_;refine plan.af 3 _ (zH c ta tc la lc fa fc) rfl (fun w' hS'=>ax (b:=w.heap.size) (off:=0) rfl hS'.1.whole underlying147 rfl dH) hS ?_;refine plan.dY 4 _ 152 #[zH c ta tc la lc fa fc] rfl ((cFl w2.drew (aJ HA2.o.below)).mono ?_);rintro e w3 ⟨y,rfl,ho3,hb3⟩;obtain ⟨ya,yc,rfl,_⟩:=aA ho3;have hA3:=HA2.o.later (w3:=w3) ((aJ (Below.refl _ _)).trans hb3);refine ⟨_,rfl,⟨hA3.k0,hA3.k1⟩, ?_⟩;obtain ⟨p,hp⟩:∃p,G[P]?=some p:=⟨_,List.getElem?_eq_getElem om_⟩;have hpid:p.id=c.s.fm:=by
  have:=fF hp;rw [HEQ.o,HAT.o] at this;have:=Option.some.inj this;rw [<-hp01,this];rfl
 have c1:w3.cell? ⟨g,0+P*2+1,none⟩=some (.slice p.f p.fL.length p.fCap):=by
  have:=hA3.row.cells (g:=g) rfl (P*2+1) _ (uG G P p 1 hp om_);rwa [Addr.add_lit,<-Nat.add_assoc] at this
 have hfz:w3.frozen? ⟨g,0+P*2+1,none⟩=false:=hA3.row.frozenAt _;have hoq:oq (w.heap.size+3) w3 ⟨c.s.fm,ya,yc,FL⟩:=aW ho3 (by have:=HA2.o.low;exact this.2);have hA5:=hA3.set (q:=⟨c.s.fm,ya,yc,FL⟩) hp hpid.symm hoq;have hA5':Ap (w.heap.size+3) w.heap.size (zH c ta tc la lc fa fc) v (.slice (some ⟨g,0,none⟩) G.length xc) G.length (G.set P ⟨c.s.fm,ya,yc,FL⟩) w (w3.setCell ⟨g,0+P*2+1,none⟩ (.slice ya FL.length yc)):=by rw [Nat.zero_add];exact hA5
 refine plan.dZ (w1:=w3) 5 _ (.pointer (some ⟨g,0+P*2,none⟩)) rfl rfl (hv:=(yB (b:=g) (off:=0) (len:=G.length) (cap:=xc) (i:=P) rfl om_)) ⟨hA3.k0,hA3.k1⟩ ?_;refine plan.dZ (w1:=w3) 6 _ (.pointer (some ⟨g,0+P*2+1,none⟩)) rfl rfl ⟨hA3.k0,hA3.k1⟩ ?_;obtain ⟨w5,hw5⟩:∃w5,Hid (w3.setCell ⟨g,0+P*2+1,none⟩ (.slice ya FL.length yc)=w5):=⟨_,rfl⟩;rw [hw5.o] at hA5';have hrun:=fun (o:Oper) (act:Act) (q1:o.op=.store 47 (.tmp 27) (.tmp 25)) (q2:act.eval (.tmp 27)=.pointer (some ⟨g,0+P*2+1,none⟩)) (q3:act.eval (.tmp 25)=.slice ya FL.length yc)=>zB (o:=o) (a:=act) q1 q2 q3 c1 hfz
 rw [hw5.o] at hrun;refine plan.ni (w1:=w5) 7 _ rfl rfl rfl (hrun _ _ rfl kr_ kr_) ⟨hA5'.k0,hA5'.k1⟩ ?_;have HA5:=hid hA5';have HFE:Hid (forms (G.set P ⟨c.s.fm,ya,yc,FL⟩)=(forms F).set P (c.s.fm,FL)):=hid (by unfold forms;rw [List.map_set];show (forms G).set P _=_;rw [HEQ.o];rfl);clear hA5 hA5' hA3 hoq c1 hfz hp hS ho3 hb3 cFl hrun hw5 hGl;have z10:=HA5.o.k1.cell 0;have z11:=HA5.o.k1.cell 1;have q20:=HA5.o.k2.cell 0;have q21:=HA5.o.k2.cell 1;have r20:=HA5.o.k2.frozen 0;have r21:=HA5.o.k2.frozen 1;walk_nrm;go_wp2;have hR:=(HA5.o.k2.setCell 0 (.int .i64 v)).setCell 1 (.slice (some ⟨g,0,none⟩) G.length xc);refine bodyPost_ret (aI (b:=w.heap.size+1+1) (o:=0) rfl rfl hR.whole underlying24 rfl (fV _ _)) rfl ?_;have hd:=HA5.o.done rfl;rw [HFE.o] at hd;exact hd
set_option maxRecDepth 20000 in
set_option maxHeartbeats 3200000 in
theorem yg (c:Ch) (ta:Option Addr) (tc:Nat) (la:Option Addr) (lc:Nat) (fa:Option Addr) (fc:Nat) (w:World) (v:Int) (a:Option Addr) (cc:Nat) (F:List Fm) (hm:Fms w a F) (hF:Small w F) (hs:Sorted (forms F)) (h9:c.s.op=9) (hla:field.Fds w la c.s.l) (hL:c.s.l.length<=40):
  Calls prog 94 #[zH c ta tc la lc fa fc,zS v a F.length cc] w (gm v (applied (forms F) c) w):=by
 have hbw:Below w.heap.size w ((((w.alloc (.cells (zH c ta tc la lc fa fc) 147))).alloc (.cells (zS v a F.length cc) 24)).alloc (.cells #[.int .i64 0,.slice none 0 0] 24)):=by
  exact t47
 have hsz:(((((w.alloc (.cells (zH c ta tc la lc fa fc) 147))).alloc (.cells (zS v a F.length cc) 24)).alloc (.cells #[.int .i64 0,.slice none 0 0] 24))).heap.size=w.heap.size+3:=by simp
 have HX:Hid (∀w',Below (((((w.alloc (.cells (zH c ta tc la lc fa fc) 147))).alloc (.cells (zS v a F.length cc) 24)).alloc (.cells #[.int .i64 0,.slice none 0 0] 24))).heap.size ((((w.alloc (.cells (zH c ta tc la lc fa fc) 147))).alloc (.cells (zS v a F.length cc) 24)).alloc (.cells #[.int .i64 0,.slice none 0 0] 24)) w'->Block w' w.heap.size 147 (zH c ta tc la lc fa fc)/\Block w' (w.heap.size+1) 24 (zS v a F.length cc)/\Block w' (w.heap.size+1+1) 24 [.int .i64 0,.slice none 0 0]/\Below w.heap.size w w'):=hid (fun w' hb=>by
  refine ⟨(((Block.new w _ _).alloc _).alloc _).later hb,Block.later (w:=((((w.alloc (.cells (zH c ta tc la lc fa fc) 147))).alloc (.cells (zS v a F.length cc) 24)).alloc (.cells #[.int .i64 0,.slice none 0 0] 24))) ?_ hb,Block.later (w:=((((w.alloc (.cells (zH c ta tc la lc fa fc) 147))).alloc (.cells (zS v a F.length cc) 24)).alloc (.cells #[.int .i64 0,.slice none 0 0] 24))) ?_ hb,hbw.trans (hb.mono om_)⟩
  ·exact t41
  ·have:=Block.new (((w.alloc (.cells (zH c ta tc la lc fa fc) 147))).alloc (.cells (zS v a F.length cc) 24)) 24 [.int .i64 0,.slice none 0 0];simpa using this)
 have cCl:=gB v a cc F ((((w.alloc (.cells (zH c ta tc la lc fa fc) 147))).alloc (.cells (zS v a F.length cc) 24)).alloc (.cells #[.int .i64 0,.slice none 0 0] 24)) (hm.below hbw) (hF.below hbw);unfold gm at cCl;have h40:=hF.1;have HAP:Hid (∀(w1:World) (x:Option Addr) (xc:Nat) (G:List Fm),Below (((((w.alloc (.cells (zH c ta tc la lc fa fc) 147))).alloc (.cells (zS v a F.length cc) 24)).alloc (.cells #[.int .i64 0,.slice none 0 0] 24))).heap.size ((((w.alloc (.cells (zH c ta tc la lc fa fc) 147))).alloc (.cells (zS v a F.length cc) 24)).alloc (.cells #[.int .i64 0,.slice none 0 0] 24)) w1->w1.ownsRow (((((w.alloc (.cells (zH c ta tc la lc fa fc) 147))).alloc (.cells (zS v a F.length cc) 24)).alloc (.cells #[.int .i64 0,.slice none 0 0] 24))).heap.size 49 2 (.slice x G.length xc) G.length (fmV G)->(∀p∈G,oq (((((w.alloc (.cells (zH c ta tc la lc fa fc) 147))).alloc (.cells (zS v a F.length cc) 24)).alloc (.cells #[.int .i64 0,.slice none 0 0] 24))).heap.size w1 p)->
   Ap (w.heap.size+3) w.heap.size (zH c ta tc la lc fa fc) v (.slice x G.length xc) G.length G w ((w1.setCell ⟨w.heap.size+1,0,none⟩ (.int .i64 v)).setCell ⟨w.heap.size+1,1,none⟩ (.slice x G.length xc))):=hid (fun w1 x xc G hb ho he=>by
  obtain ⟨e0,e1,e2,e3⟩:=HX.o w1 hb;rw [hsz] at ho he;refine ⟨(e0.apart _ _ _ om_).apart _ _ _ om_,(e1.setCell 0 (.int .i64 v)).setCell 1 (.slice x G.length xc),(e2.apart _ _ _ om_).apart _ _ _ om_,aT (aT ho om_) om_,fun p hp=>aT (aT (he p hp) om_) om_, ?_, ?_⟩
  ·exact t89
  ·have:=hb.size;rw [hsz] at this;simpa using this)
 have HS:=hid hs;have HF40:=hid h40;clear hbw hsz hm hs h40;have d9:=bt h9;have hle:pos (forms F) c.s.fm<=F.length:=by have:=Cj (forms F) c.s.fm;rwa [aF] at this
 have hap:applied (forms F) c=(forms F).take (pos (forms F) c.s.fm)++([(c.s.fm,c.s.l)]++(forms F).drop (pos (forms F) c.s.fm)):=by unfold applied;rw [if_pos h9]
 rw [hap];clear h9 hap;obtain ⟨P,hP⟩:∃P,Hid (pos (forms F) c.s.fm=P):=⟨_,rfl⟩;rw [hP.o] at hle ⊢;have hPi:(P:Int)<=40:=by have:=HF40.o;omega
 have n1:w.heap.size≠w.heap.size+1:=by omega
 have n2:w.heap.size+1≠w.heap.size+1+1:=by omega
 have cC:=fun (w':World) (hb:Below w.heap.size w w')=>lK la lc c.s.l w' (hla.below hb) om_
 unfold mO at cC;clear hla;go_enter func94,ntmps94;go_wp2_with (first
   | (go_at_call 146;((with_reducible refine cCl.mono ?_);rintro e w1 ⟨u,G,rfl,hou,heach,heq,hb1⟩;obtain ⟨x,xc,rfl,hxc⟩:=aA hou;obtain ⟨b0,b1,b2,hbo⟩:=HX.o w1 hb1;have y1:=b0.cell 1;have y10:=b1.cell 0;have y11:=b1.cell 1;have f10:=b1.frozen 0;have f11:=b1.frozen 1;have HAP1:=hid (HAP.o w1 x xc G hb1 hou heach);have HEQ:=hid heq;have cSe:=jT x xc G c.s.fm _ (tu HAP1.o.row).1 (by have:=congrArg List.length heq;rw [aF,aF] at this;have:=HF40.o;omega) (by rw [heq];exact HS.o);rw [heq,hP.o] at cSe;clear hou heach heq hb1 b0 b1 b2 hbo))
   | (go_at_call 147;((with_reducible refine cSe.mono ?_);rintro e w2 ⟨b,rfl,hb2⟩;have HA2:=hid (HAP1.o.later hb2);have z10:=HA2.o.k1.cell 0;have z11:=HA2.o.k1.cell 1;have zop:=HA2.o.k0.cell 0;have g11:=HA2.o.k1.frozen 1;have q20:=HA2.o.k2.cell 0;have q21:=HA2.o.k2.cell 1;have r20:=HA2.o.k2.frozen 0;have r21:=HA2.o.k2.frozen 1;clear hb2)))
 have hGl:G.length=F.length:=by have:=congrArg List.length HEQ.o;rwa [aF,aF] at this
 have hS:Block w2.drew w.heap.size 147 (zH c ta tc la lc fa fc):=HA2.o.k0;have hA2:Ap (w.heap.size+3) w.heap.size (zH c ta tc la lc fa fc) v (.slice x G.length xc) G.length G w w2.drew:=HA2.o.later (aJ (Below.refl _ _));have HFE:Hid (∀q:Fm,q.p=(c.s.fm,c.s.l)->forms (G.take P++([q]++G.drop P))=(forms F).take P++([(c.s.fm,c.s.l)]++(forms F).drop P)):=hid (fun q hq=>by
  rw [lU,lU,rM,rJ,HEQ.o];show _++([q.p]++_)=_
  rw [hq])
 refine plan.bU (S:=fun w'=>Block w' w.heap.size 147 (zH c ta tc la lc fa fc)) ?_;refine plan.af 0 _ (.pointer (some ⟨w.heap.size+1,1,none⟩)) rfl (fun w' hS'=>kr_) hS ?_;refine plan.af 2 _ (.int .i64 (P:Int)) rfl (fun w' hS'=>kr_) hS ?_;refine plan.af 3 _ (.pointer (some ⟨w.heap.size,0,none⟩)) rfl (fun w' hS'=>kr_) hS ?_;refine plan.af 4 _ (.pointer (some ⟨w.heap.size,1,none⟩)) rfl (fun w' hS'=>kr_) hS ?_;refine plan.af 5 _ (.int .i64 c.s.fm) rfl (fun w' hS'=>aB (ad:=⟨w.heap.size,1,none⟩) rfl kr_ (hS'.cell 1) isAgg3) hS ?_;refine plan.af 6 _ (.pointer (some ⟨w.heap.size,0,none⟩)) rfl (fun w' hS'=>kr_) hS ?_;refine plan.af 7 _ (.pointer (some ⟨w.heap.size,15,none⟩)) rfl (fun w' hS'=>kr_) hS ?_;refine plan.af 8 _ (.slice la c.s.l.length lc) rfl (fun w' hS'=>aG (ad:=⟨w.heap.size,15,none⟩) rfl (hS'.cell 15) isAgg47) hS ?_;refine uj 1 9 ?_ ?_
 ·refine ⟨_,rfl,rfl,.inl ⟨.slice x G.length xc,w2.drew,aG (ad:=⟨w.heap.size+1,1,none⟩) rfl (hA2.k1.cell 1) isAgg22,hA2.k0, ?_⟩⟩;refine plan.dY 9 _ 97 #[.slice la c.s.l.length lc] rfl ((cC w2.drew (aJ HA2.o.below)).mono ?_);rintro e w3 ⟨y,rfl,ho3,hb3⟩;obtain ⟨ya,yc,rfl,_⟩:=aA ho3;have hA3:=hA2.later hb3;refine ⟨_,rfl,hA3.k0, ?_⟩
  exact t142
 ·refine ⟨_,rfl,rfl,.inr ⟨97,#[.slice la c.s.l.length lc],by kernel_rfl,(cC w2.drew (aJ HA2.o.below)).mono ?_⟩⟩;rintro e w3 ⟨y,rfl,ho3,hb3⟩;obtain ⟨ya,yc,rfl,_⟩:=aA ho3;have hA3:=hA2.later hb3;refine ⟨_,rfl,hA3.k0, ?_⟩;refine uj 1 10 ?_ ?_
  ·refine ⟨_,rfl,rfl,.inl ⟨.slice x G.length xc,w3,aG (ad:=⟨w.heap.size+1,1,none⟩) rfl (hA3.k1.cell 1) isAgg22,hA3.k0, ?_⟩⟩
   exact t142
  ·refine ⟨_,rfl,rfl,.inl ⟨zS c.s.fm ya c.s.l.length yc,w3,by kernel_rfl,hA3.k0, ?_⟩⟩;refine uj 1 11 ?_ ?_
   ·refine ⟨_,rfl,rfl,.inl ⟨.slice x G.length xc,w3,aG (ad:=⟨w.heap.size+1,1,none⟩) rfl (hA3.k1.cell 1) isAgg22,hA3.k0, ?_⟩⟩
    exact t121
   ·have hA4:=hA3.later (ak w3 (.cells (zS c.s.fm ya c.s.l.length yc) 49));refine ⟨_,rfl,rfl,.inl ⟨(.slice (some ⟨w3.heap.size,0,none⟩) 1 1),w3.alloc (.cells (zS c.s.fm ya c.s.l.length yc) 49),by kernel_rfl,hA4.k0, ?_⟩⟩;refine plan.dZ (w1:=w3.alloc (.cells (zS c.s.fm ya c.s.l.length yc) 49)) 1 _ (.slice x G.length xc) rfl rfl (hv:=(aG (ad:=⟨w.heap.size+1,1,none⟩) rfl (hA4.k1.cell 1) isAgg22)) hA4.k0 ?_
    exact t2
end typing
namespace typing
open Go.RowKit schema
open field (Gives ak aj)
open step (Lists)
theorem lI {F:List schema.Form} {c:Ch} (hc:c=aC F c.s) (h:c.kn=true\/0<=c.at_):∃p,named F c.s.fm=some p/\c.L=p.2:=by
 cases hn:named F c.s.fm with
 | none=>
  have:c=⟨c.s,0,[],false, -1,step.fd0⟩:=by rw [hc,sN];unfold aC;rw [hn]
  rw [this] at h;simp at h
 | some p=>
  have:c=⟨c.s,c.s.fm,p.2,true,au (ids p.2) c.s.fd,bQ p.2 (au (ids p.2) c.s.fd)⟩:=by rw [hc,sN];unfold aC;rw [hn]
  exact ⟨p,rfl,by rw [this]⟩
theorem GN {v:Int} {F:List schema.Form} {c:Ch} (hr:Right v F) (hc:c=aC F c.s):(-1099511627776<=c.old.lo/\c.old.lo<=1099511627776)/\(-1099511627776<=c.old.hi/\c.old.hi<=1099511627776):=by
 have h1:=(gu F c.s).1;have h2:=(gu F c.s).2;rw [<-hc] at h1 h2;by_cases hk:0<=c.at_
 ·obtain ⟨p,hp,hL⟩:=lI hc (.inr hk);rw [h1,hL] at hk;have:=(EJ hr hp hk).2;rw [<-hL,<-h1,<-h2] at this;have:=Cm this;omega
 ·rw [h2];unfold bQ;rw [if_neg hk];simp
theorem yE {v:Int} {F:List schema.Form} {c:Ch} (hf:Fit v F c.s) (hc:c=aC F c.s):(c.s.op=4->Bd c)/\(c.s.op=6->Bq c):=by
 obtain ⟨h1,h2⟩:=GN hf.1 hc;refine ⟨fun h=> ?_,fun h=> ?_⟩
 ·have:=mX hf (m:=5) (by rw [h];decide);unfold step.Sp.Fine at this;simp at this;exact ⟨by omega,by omega,h1,h2⟩
 ·have:=mX hf (m:=4) (by rw [h];decide);unfold step.Sp.Fine at this;simp at this;exact ⟨by omega,h2⟩
theorem uq {c:Ch} (h:err c=0):found c=true/\twice c=false/\beyond c=false/\iP c=true:=by
 unfold err at h;cases h1:found c <;> cases h2:twice c <;> cases h3:beyond c <;> cases h4:iP c <;> simp [h1,h2,h3,h4] at h ⊢
theorem BL {v:Int} {F:List schema.Form} {c:Ch} (hf:Fit v F c.s) (hc:c=aC F c.s) (h0:err c=0) (h9:¬c.s.op=9) (h10:¬c.s.op=10):Places c/\∃p,named F c.s.fm=some p:=by
 obtain ⟨e1,e2,e3,e4⟩:=uq h0;have hat:=(gu F c.s).1;rw [<-hc] at hat;by_cases h1:c.s.op=1
 ·have hk:c.kn=true:=by unfold found at e1;simpa [h9,h1] using e1
  obtain ⟨p,hp,_⟩:=lI hc (.inl hk);have hfi:=mX hf (m:=2) (by rw [h1];decide);unfold step.Sp.Fine at hfi;simp at hfi;unfold beyond at e3;simp [h1] at e3;exact ⟨⟨fun _=>⟨by omega,by omega⟩,fun h=>by omega,fun h=>absurd h1 h⟩,p,hp⟩
 ·have hk:0<=c.at_:=by unfold found at e1;simpa [h9,h1,h10] using e1
  obtain ⟨p,hp,_⟩:=lI hc (.inr hk);have hlt:c.at_<c.L.length:=by
   rw [hat] at hk ⊢;have:=(jP hk).1;rw [je] at this;omega
  refine ⟨⟨fun h=>absurd h h1,fun h7=> ?_,fun _=>⟨hk,hlt⟩⟩,p,hp⟩;have hfi:=mX hf (m:=2) (by rw [h7];decide);unfold step.Sp.Fine at hfi;simp at hfi;unfold beyond at e3;simp [h7] at e3;omega
theorem kC (v:Int) (a:Option Addr) (cc:Nat) (F:List Fm) (c:Ch) (hc:c=aC (forms F) c.s) (ta:Option Addr) (tc:Nat) (la:Option Addr) (lc:Nat) (fa:Option Addr) (fc:Nat) (w:World)
  (hm:Fms w a F) (hF:Small w F) (hf:Fit v (forms F) c.s) (h0:err c=0) (hla:field.Fds w la c.s.l) (hL:c.s.l.length<=40) (hfa:field.Fds w fa c.L) (hcl:c.L.length<=40):
  Calls prog 94 #[zH c ta tc la lc fa fc,zS v a F.length cc] w (gm v (applied (forms F) c) w):=by
 have hs:=fQ hf.1;by_cases h9:c.s.op=9
 ·exact yg c ta tc la lc fa fc w v a cc F hm hF hs h9 hla hL
 ·by_cases h10:c.s.op=10
  ·have hk:c.kn=true:=by
    have e1:=(uq h0).1;unfold found at e1;simpa [h9,h10] using e1
   obtain ⟨p,hp,_⟩:=lI hc (.inl hk)
   exact mP c ta tc la lc fa fc w v a cc F hm hF hs h10 (by rw [hp];simp)
  ·obtain ⟨hP,p,hp⟩:=BL hf hc h0 h9 h10;obtain ⟨hb4,hb6⟩:=yE hf hc;exact vV c ta tc la lc fa fc w v a cc F hm hF hs h9 h10 p hp hfa hcl hP hb4 hb6
end typing
theorem t108{P:Prop}(h:P:=by
 rw [BitVec.ofInt_natCast,BitVec.toNat_ofNat];exact Nat.mod_eq_of_lt om_):P:=h
theorem t98{P:Prop}(h:P:=by
 rw [List.getD_eq_getElem?_getD,List.getElem?_eq_getElem om_];exact hx _ (List.getElem_mem om_)):P:=h
namespace field
open Go.RowKit
theorem sK (a b:Nat) (ha:a<9223372036854775808) (hb:b<9223372036854775808):
  bits .or .i64 (a:Int) (b:Int)=((a ||| b:Nat):Int):=by
 have hx:a ||| b<2 ^ 63:=Nat.or_lt_two_pow om_ om_
 have h1:(BitVec.ofInt 64 (a:Int)).toNat=a:=by
  exact t108
 have h2:(BitVec.ofInt 64 (b:Int)).toNat=b:=by
  exact t108
 show IntKind.i64.wrap ((BitVec.ofInt 64 (a:Int) ||| BitVec.ofInt 64 (b:Int)).toNat:Int)=_
 rw [BitVec.toNat_or,h1,h2,IntWalk.i64_in _ om_]
theorem KC (a b:Nat) (hb:b<256) (ha:a<36028797018963968):bits .or .i64 ((a:Int)*256) (b:Int)=((256*a+b:Nat):Int):=by
 have e:(a:Int)*256=((2 ^ 8*a:Nat):Int):=by omega
 rw [e,sK (2 ^ 8*a) b om_ om_,<-Nat.two_pow_add_eq_or_of_lt om_]
theorem vZ (xs:List Nat) (k:Nat) (hk:k<xs.length):num (xs.take (k+1))=256*num (xs.take k)+xs.getD k 0:=by
 rw [List.take_add_one,List.getElem?_eq_getElem hk];simp only [Option.toList,qx];rw [List.getD_eq_getElem?_getD,List.getElem?_eq_getElem hk];rfl
theorem vM (a:Option Addr) (len cap:Nat) (xs:List Nat) (w:World) (hr:Reads .u8 w a len xs) (hx:∀x∈xs,x<256) (hl:len<=6):Calls prog 156 #[.slice a len cap] w (Quiet (.int .i64 (num xs:Int)) w):=by
 have hlen:=hr.1;have hall:num xs=num (xs.take len):=by rw [List.take_of_length_le om_]
 rw [hall];clear hall;go_enter func156,ntmps156;go_wp2;go_loopw [3,8] (fun n i wr=>∃(k:Nat),n=.int .i64 (num (xs.take k):Int)/\i=.int .i64 (k:Int)/\k<=len/\w=wr) (fun n i wr=>len - (intOf i).toNat);case atStart=>exact ⟨0,by simp [num],rfl,Nat.zero_le _,rfl⟩
 case round=>
  obtain ⟨k,rfl,rfl,hk,rfl⟩:=hrel;by_cases hlt:k<len
  ·obtain ⟨b,off,rfl,hbb,hc⟩:=hr.at (i:=k) hlt;have hck:=hc k hlt;have hn1:=Cb k (xs.take k) (by rw [List.length_take];omega) (fun x hm=>hx x (List.mem_of_mem_take hm));have hp:(256:Nat) ^ k<=256 ^ 5:=Nat.pow_le_pow_right om_ om_;have hs:=vZ xs k om_;have hxk:xs.getD k 0<256:=by
    exact t98
   generalize xs.getD k 0=X at *;generalize hN:num (xs.take k)=N at *;have hN5:N<1099511627776:=by have:(256:Nat) ^ 5=1099511627776:=de_;omega
   have ho:=KC N X hxk om_;rw [<-hs] at ho;clear hs hp hn1 hc;have HO:=hid ho;clear ho;go_wp2;go_round
   ·exact ⟨k+1,by rw [HO.o],by simp,by omega,trivial⟩
   ·simp [intOf];omega
  ·obtain rfl:k=len:=by omega
   clear hlt;go_wp2;go_ret;exact ⟨rfl,0,rfl⟩
def part (size n i:Nat):List Nat:=(List.range size).map fun p=>if size - i<=p then n / 256 ^ (size - 1 - p) % 256 else 0
theorem EL (size n:Nat):part size n 0=List.replicate size 0:=by
 apply List.ext_getElem?;intro j;unfold part;by_cases hj:j<size
 ·simp [hj];intro h;omega
 ·simp [hj]
theorem Hf (size n:Nat):part size n size=digits size n:=by
 unfold part digits;apply List.map_congr_left;intro p hp;rw [if_pos om_]
theorem Hg (size n i:Nat) (hi:i<size):(part size n i).set (size - 1 - i) (n / 256 ^ i % 256)=part size n (i+1):=by
 apply List.ext_getElem?;intro j;unfold part;rw [List.getElem?_set];by_cases hj:j<size
 ·by_cases h:size - 1 - i=j
  ·subst h;simp [hj];rw [if_pos om_,show size - 1 - (size - 1 - i)=i by omega]
  ·rw [if_neg h,List.getElem?_map,List.getElem?_map,List.getElem?_range hj];simp only [Option.map_some];by_cases hq:size - i<=j
   ·rw [if_pos hq,if_pos om_]
   ·rw [if_neg hq,if_neg om_]
 ·rw [if_neg om_];simp [hj]
def u8v (xs:List Nat):List Value:=xs.map fun x:Nat=>Value.int .u8 (x:Int)
theorem vO (xs:List Nat):(u8v xs).length=xs.length:=by simp [u8v]
theorem Je (xs:List Nat) (i x:Nat):(u8v xs).set i (.int .u8 (x:Int))=u8v (xs.set i x):=by simp [u8v,List.map_set]
theorem tV:(prog.info? 5).map (fun i=>(i.zero,i.size,i.bytes))=some (some (.int .u8 0),1,1):=by kernel_rfl
set_option maxRecDepth 20000 in
theorem vY (n size:Nat) (hn:n<281474976710656) (hs:size<=6) (w:World):Calls prog 182 #[.int .i64 (n:Int),.int .i64 (size:Int)] w fun e w'=>∃v,e=.returned v/\w'.ownsRow w.heap.size 5 1 v size (u8v (digits size n))/\Below w.heap.size w w':=by
 obtain ⟨i0,hi,hz0,hz1,hz2⟩:=info_parts tV;go_enter func182,ntmps182;go_wp2_with (at_make;refine wpList_make_full _ rfl _ _ 91 rfl w.heap.size 5 i0 (.int .u8 0) 1 underlying91 hi hz0 hz1 _ _ _ _ size rfl rfl rfl rfl (by rw [hz2];omega) (by unfold maxLen;omega) (Nat.le_refl _) ?_);intro w1 hown hgrow;go_wp2;go_loopw [11] (fun i wr=>∃k:Nat,k<=size/\i=.int .i64 k/\wr.ownsRow w.heap.size 5 1 (.slice (some ⟨w.heap.size,0,none⟩) size size) size (u8v (part size n k))/\Below w.heap.size w wr)
  (fun i _=>size - (intOf i).toNat)
 case atStart=>
  refine ⟨0,Nat.zero_le _,rfl, ?_,Below.grown (Below.refl _ _) hgrow (Nat.le_refl _) (fun k h=>by cases h)⟩;rw [EL,u8v,List.map_replicate];rw [toList_madeCells_one] at hown;exact hown
 case round=>
  obtain ⟨k,hk,rfl,ho,hb⟩:=hrel;by_cases hlt:k<size
  ·have f2:=ho.frozenAt (size - 1 - k);have c2:wr.cell? ⟨w.heap.size,size - 1 - k,none⟩=some (.int .u8 0):=by
    rw [ho.cellAt _ om_];unfold u8v part;rw [List.getElem?_map,List.getElem?_map,List.getElem?_range om_];simp;omega
   have HO:=hid ho;clear ho;obtain ⟨D,hD⟩:∃D:Nat,Hid (size - 1 - k=D):=⟨_,rfl⟩;rw [hD.o] at f2 c2;obtain ⟨x,hx⟩:∃x:Nat,Hid (n / 256 ^ k % 256=x):=⟨_,rfl⟩;have hx256:x<256:=by rw [<-hx.o];exact Nat.mod_lt _ om_
   have hDs:size=D+1+k:=by have:=hD.o;omega
   subst hDs;have e1:((D+1+k:Nat):Int) - 1 - (k:Int)=(D:Int):=by omega
   go_wp2;have e2:(n:Int) / 2 ^ (8*k) % 256=((n / 256 ^ k % 256:Nat):Int):=by
    have h:(256:Nat) ^ k=2 ^ (8*k):=by rw [Nat.pow_mul]
    rw [h];simp
   rw [e2];have hst:=HO.o.stored D (.int .u8 ((n / 256 ^ k % 256:Nat):Int));rw [Je] at hst;have hps:=Hg (D+1+k) n k om_;rw [hD.o] at hps;rw [hps] at hst;exact ⟨⟨k+1,by omega,by simp,hst.1,hb.grown hst.2 (by simp [hb.size]) (fun j h=>by cases h;exact Nat.le_refl _)⟩,by simp [intOf];omega⟩
  ·obtain rfl:k=size:=by omega
   go_wp2;go_ret;rw [Hf] at ho;exact ⟨_,rfl,ho,hb⟩
end field
namespace pair
open Go.RowKit schema step typing
def bV (F:List schema.Form) (x:Int):List field.Fd:=match named F x with
 | some p=>p.2
 | none=>[]
def inv (F:List schema.Form) (s:Sp):Sp:=
 if s.op=9 then ⟨29,s.fm,0,0,0,0,0,fd0,va0,[],[]⟩ else if s.op=10 then ⟨30,s.fm,0,0,0,0,0,fd0,va0,[],bV F s.fm⟩
 else if s.op=1 then ⟨21,s.fm,s.f.id,0,0,0,0,fd0,va0,[],[]⟩
 else if s.op=2 then ⟨22,s.fm,0,au (ids (bV F s.fm)) s.fd,0,0,0,bQ (bV F s.fm) (au (ids (bV F s.fm)) s.fd),s.v,[],[]⟩
 else if s.op=3 then ⟨23,s.fm,s.fd,0,0,0,0,bQ (bV F s.fm) (au (ids (bV F s.fm)) s.fd),va0,[],[]⟩
 else if s.op=4 then ⟨24,s.fm,s.fd,0,0,s.a,s.b,bQ (bV F s.fm) (au (ids (bV F s.fm)) s.fd),va0,[],[]⟩
 else if s.op=5 then ⟨25,s.fm,s.fd,0,0,0,0,fd0,va0,s.t,[]⟩
 else if s.op=6 then ⟨26,s.fm,s.fd,0,s.tt,s.a,0,bQ (bV F s.fm) (au (ids (bV F s.fm)) s.fd),va0,[],[]⟩
 else if s.op=7 then ⟨27,s.fm,s.fd,au (ids (bV F s.fm)) s.fd,0,0,0,fd0,va0,[],[]⟩
 else ⟨28,s.fm,s.tt,0,s.fd,0,0,fd0,va0,[],[]⟩
def invert (v:Int) (F:List schema.Form) (s:Sp):Sp×Nat:=if (on v F s).2.2=0 then (inv F s,0) else (Sp.zero,(on v F s).2.2)
def fU:Int->List schema.Form->List Sp->List Sp->List Sp×Nat
 | _,_,[],A=>(A,0)
 | v,F,s :: r,A=>if (on v F s).2.2=0 then fU (on v F s).1 (on v F s).2.1 r (inv F s :: A) else ([],(on v F s).2.2)
theorem IZ {v:Int} {F:List schema.Form} {s:Sp} (h:(on v F s).2.2=0):err (aC F s)=0:=by
 have hf:=(jw h).1;unfold on at h;rw [if_pos hf] at h;by_cases he:err (aC F s)=0
 ·exact he
 ·rw [if_neg he] at h;exact h
theorem Js {s:Sp} (h:0<=s.fm/\s.fm<=200):s.Fine 0:=by unfold Sp.Fine;exact h
theorem Jt {s:Sp} (h:0<=s.fd/\s.fd<=255):s.Fine 1:=by unfold Sp.Fine;simpa using h
theorem Ju {s:Sp} (h:0<=s.pl/\s.pl<=8):s.Fine 2:=by unfold Sp.Fine;simpa using h
theorem Jv {s:Sp} (h:(0<=s.tt/\s.tt<=255)/\s.tt≠s.fd):s.Fine 3:=by unfold Sp.Fine;simpa using h
theorem Jw {s:Sp} (h:2<=s.a/\s.a<=1048576):s.Fine 4:=by unfold Sp.Fine;simpa using h
theorem Jy {s:Sp} (h:((-1048576<=s.a/\s.a<=1048576)/\s.a≠0)/\(-1099511627776<=s.b/\s.b<=1099511627776)):s.Fine 5:=by unfold Sp.Fine;simpa using h
theorem Jz {s:Sp} (h:Table s.t 1000):s.Fine 7:=by unfold Sp.Fine;simpa using h
theorem JA {s:Sp} (h:s.f.Right/\s.f.id=s.fd):s.Fine 8:=by unfold Sp.Fine;simpa using h
theorem JB {s:Sp} (h:s.f.Has s.v):s.Fine 9:=by unfold Sp.Fine;simpa using h
theorem G9 {s:Sp} (h:schema.Fine (s.fm,s.l)):s.Fine 11:=by unfold Sp.Fine;simpa using h
end pair
namespace pair
open Go.RowKit schema typing
open field (ak)
open step (Sp St Lists gq oz Z16 vG nJ spC)
theorem iH (e:TypeId) {g:Nat} {t:TypeId} {cs:List Value} {w:World} (hB:Block w g t cs) (ht:t≠e) (o:Nat) (vs:List Value):dX e w (w.setCells g o vs):=by
 intro k cs' fr hk;refine (dU g vs o w k ?_).trans hk
 exact t97
structure Iv (n S T B1 B2 G:Nat) (w0:World) (s:Sp) (ta:Option Addr) (tc:Nat) (la:Option Addr) (lc:Nat) (c:Ch) (fa:Option Addr) (fc:Nat) (X:List Value) (w:World):Prop where
 step:Block w S 57 (zP s ta tc la lc)
 res:Block w T 57 Z16
 form:Block w B1 49 (zS c.fi fa c.L.length fc)
 old:Block w B2 52 (zF c.old)
 back:Block w G 57 X
 row:w.ownsRow n 52 5 (.slice fa c.L.length fc) c.L.length (fdV c.L)
 below:Below n w0 w
 lt:n<=T/\S<B1/\T<B1/\B1<B2/\B2<G
variable {n S T B1 B2 G:Nat} {w0:World} {s:Sp} {ta:Option Addr} {tc:Nat} {la:Option Addr} {lc:Nat} {c:Ch} {fa:Option Addr} {fc:Nat} {X:List Value}
theorem Iv.later {w w':World} (h:Iv n S T B1 B2 G w0 s ta tc la lc c fa fc X w) (hb:Below w.heap.size w w'):Iv n S T B1 B2 G w0 s ta tc la lc c fa fc X w':=
 ⟨h.step.later hb,h.res.later hb,h.form.later hb,h.old.later hb,h.back.later hb,ai h.row hb,h.below.trans (hb.mono (by have:=h.res.lt;have:=h.lt;omega)),h.lt⟩
theorem Iv.put {w:World} (h:Iv n S T B1 B2 G w0 s ta tc la lc c fa fc X w) (o:Nat) (vs:List Value):Iv n S T B1 B2 G w0 s ta tc la lc c fa fc (put X o vs) (w.setCells G o vs):=by
 have:=h.lt;exact ⟨h.step.jB _ _ _ om_,h.res.jB _ _ _ om_,h.form.jB _ _ _ om_,h.old.jB _ _ _ om_,h.back.setCells,
  (iH _ h.back vG o vs).row h.row,below_setCells h.below om_ o vs,h.lt⟩
theorem Iv.done {w:World} (h:Iv n S T B1 B2 G w0 s ta tc la lc c fa fc X w) (Y:List Value) (hY:Y.length=16):Block (w.setCells T 0 Y) T 57 Y/\Below n w0 (w.setCells T 0 Y)/\dX 52 w (w.setCells T 0 Y)/\dX 3 w (w.setCells T 0 Y):=by
 refine ⟨?_,below_setCells h.below h.lt.1 _ _,iH _ h.res vG _ _,iH _ h.res nJ _ _⟩;have:=h.res.setCells (vs:=Y) (o:=0);rwa [dS _ _ (by rw [hY];rfl)] at this
theorem qR (v:Int) (a:Option Addr) (cap:Nat) (F:List Fm) (s:Sp) (ta:Option Addr) (tc:Nat) (la:Option Addr) (lc:Nat) (w:World):
  ∃W3,Hid (((((w.alloc (.cells (zS v a F.length cap) 24))).alloc (.cells (zP s ta tc la lc) 57)).alloc (.cells zZ 57))=W3)/\Below w.heap.size w W3/\W3.heap.size=w.heap.size+3/\Hid (∀w',Below W3.heap.size W3 w'->Block w' w.heap.size 24 (zS v a F.length cap)/\Block w' (w.heap.size+1) 57 (zP s ta tc la lc)/\Block w' (w.heap.size+1+1) 57 Z16/\Below w.heap.size w w'):=by
 have hbw:Below w.heap.size w ((((w.alloc (.cells (zS v a F.length cap) 24))).alloc (.cells (zP s ta tc la lc) 57)).alloc (.cells zZ 57)):=by
  have h1:=ak w (.cells (zS v a F.length cap) 24);have h2:=h1.alloc h1.size (.cells (zP s ta tc la lc) 57);exact h2.alloc h2.size _
 refine ⟨_,hid rfl,hbw,by simp,hid (fun w' hb=>⟨(((Block.new w _ _).alloc _).alloc _).later hb,Block.later (w:=((((w.alloc (.cells (zS v a F.length cap) 24))).alloc (.cells (zP s ta tc la lc) 57)).alloc (.cells zZ 57))) ?_ hb,Block.later (w:=((((w.alloc (.cells (zS v a F.length cap) 24))).alloc (.cells (zP s ta tc la lc) 57)).alloc (.cells zZ 57))) ?_ hb,hbw.trans (hb.mono (by simp;omega))⟩)⟩
 ·have:=(Block.new ((w.alloc (.cells (zS v a F.length cap) 24))) 57 (zP s ta tc la lc)).alloc (.cells zZ 57);simpa using this
 ·have:=Block.new (((w.alloc (.cells (zS v a F.length cap) 24))).alloc (.cells (zP s ta tc la lc) 57)) 57 Z16;simpa using this
def wM (r:Sp) (w:World) (e:Ending) (w':World):Prop:=∃xa xc ya yc,e=.returned (zP r xa xc ya yc)/\gq w.heap.size w' ⟨r,xa,xc,ya,yc⟩/\Below w.heap.size w w'
theorem dn {o:Oper} {a:Act} {w:World} {x y:Operand} {ad:Addr} {v:Value} {m:Int} (ho:o.op=.store 3 x y) (hc:w.cell? ad=some v) (hf:w.frozen? ad=false) (hx:a.eval x=.pointer (some ad):=by kernel_rfl) (hy:a.eval y=.int .i64 m:=by kernel_rfl):(execOp a.eval o).run prog w=.ok .skip (w.setCell ad (.int .i64 m)):=by
 exact t37
theorem vW {o:Oper} {a:Act} {w:World} {x y:Operand} {ad:Addr} {v:Value} {p:Option Addr} {n c:Nat} (ho:o.op=.store 55 x y) (hc:w.cell? ad=some v) (hf:w.frozen? ad=false) (hx:a.eval x=.pointer (some ad):=by kernel_rfl) (hy:a.eval y=.slice p n c:=by kernel_rfl):(execOp a.eval o).run prog w=.ok .skip (w.setCell ad (.slice p n c)):=by
 exact t37
theorem iU {o:Oper} {a:Act} {w:World} {ty:TypeId} {x y:Operand} {g off:Nat} {t:TypeId} {cs:List Value} {cells:Array Value} (ho:o.op=.store ty x y)
  (hb:Block w g t cs) (hl:off+cells.size<=cs.length) (hs:(prog.info? ty).map (·.size)=some cells.size) (h1:cells.all (·.oneCell')=true) (hx:a.eval x=.pointer (some ⟨g,off,none⟩):=by kernel_rfl) (hy:a.eval y=.agg cells:=by kernel_rfl):(execOp a.eval o).run prog w=.ok .skip (w.setCells g off cells.toList):=by
 unfold execOp;simp [ho,hx,hy,run_storeAt_mid w g off ty cells (hb.there off cells.size hl) hs h1]
theorem aN:Hid ((prog.info? 57).map (·.size)=some 16):=by show _=_;kernel_rfl
theorem iE:Hid ((prog.info? 54).map (·.size)=some 2):=by show _=_;kernel_rfl
theorem iY (r:Sp) (x y:Value) (hx:x.oneCell'=true) (hy:y.oneCell'=true):(spC r x y).toArray.all (·.oneCell')=true:=by
 refine all_oneCell_toArray fun v hv=> ?_
 simp only [spC,List.mem_cons,List.not_mem_nil,or_false] at hv;rcases hv with rfl | rfl | rfl | rfl | rfl | rfl | rfl | rfl | rfl | rfl | rfl | rfl | rfl | rfl | rfl | rfl <;> first | rfl | assumption
theorem Hl {w:World} {b:Nat} {t:TypeId} {s:Sp} {x y:Value} (h:Block w b t (spC s x y)):w.rangeAt b 12 (zV s.v):=h.range 12 _ (fun j v hj=>by
 match j,hj with
 | 0,hj=>exact hj
 | 1,hj=>exact hj)
end pair
end Go.Proofs.YtogkgbnpodojjaaGreat
