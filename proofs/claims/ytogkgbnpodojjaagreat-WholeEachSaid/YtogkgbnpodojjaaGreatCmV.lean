/- Contracts and lemmas that claims of this seat share: TypingCloned, FormOwn, SchemaRefFine. Each says its own conditions. -/
import Derived.Test.YtogkgbnpodojjaaGreatCmWord
import Derived.Laws.OwnMore
import Derived.Deep.RegionHeld3
import Derived.Conc.WalkWords
import Derived.Test.YtogkgbnpodojjaaGreatCmJ
import Derived.Test.YtogkgbnpodojjaaGreatCmS
set_option linter.unusedVariables false
namespace Go.Proofs.YtogkgbnpodojjaaGreat
open Go.Proofs.Tryz
theorem t101{P:Prop}(h:P:=by
 cases hv
 exact jX 52 (g:=g) (t:=49) (cs:=cur.toList) (by show _=_;simpa using hh) FY _ _):P:=h
namespace typing
open Go.RowKit schema
open field (Gives ak aj)
theorem yG:∀(L:List Fm) (k:Nat) (p q:Fm) (v:Value),L[k]?=some p->q.id=p.id->v=.slice q.f q.fL.length q.fCap->(fmV L).set (k*2+1) v=fmV (L.set k q)
 | [],k,p,q,v,h,_,_=>by simp at h
 | r :: L,0,p,q,v,h,hi,hv=>by
  simp at h;subst h;subst hv;simp [fmV,fmC,hi]
 | r :: L,k+1,p,q,v,h,hi,hv=>by
  have:=yG L k p q v (by simpa using h) hi hv;rw [List.set_cons_succ];unfold fmV;rw [<-this,show (k+1)*2+1=(fmC r).length+(k*2+1) by simp [fmC];omega,List.set_append_right _ _ om_];simp
def Small (w:World) (F:List Fm):Prop:=F.length<=40/\∀p∈F,field.Fds w p.f p.fL/\p.fL.length<=40
theorem Small.below {w w':World} {F:List Fm} (h:Small w F) (hb:Below w.heap.size w w'):Small w' F:=⟨h.1,fun p hp=>⟨(h.2 p hp).1.below hb,(h.2 p hp).2⟩⟩
structure Cl (B:Nat) (v:Int) (P:List schema.Form) (n:Nat) (u:Value) (k:Nat) (G:List Fm) (w0 wr:World):Prop where
 box:Block wr B 24 [.int .i64 v,u]
 res:Block wr (B+1) 24 [.int .i64 0,.slice none 0 0]
 row:wr.ownsRow (B+2) 49 2 u n (fmV G)
 each:∀i p,i<k->G[i]?=some p->oq B wr p
 rest:∀i p,k<=i->G[i]?=some p->field.Fds w0 p.f p.fL/\p.fL.length<=40
 eq:forms G=P
 below:Below B w0 wr
theorem ES {G:List Fm} {k:Nat} {p q:Fm} (h:G[k]?=some p) (hq:q.p=p.p):forms (G.set k q)=forms G:=by
 unfold forms;rw [List.map_set,hq];apply List.ext_getElem?;intro i;rw [List.getElem?_set];split
 ·rename_i e;subst e;have hk:=(List.getElem?_eq_some_iff.1 h).1;simp [hk];exact ((List.getElem?_eq_some_iff.1 h).2 ▸ rfl)
 ·rfl
theorem Cl.step {B:Nat} {v:Int} {P:List schema.Form} {n cap g k:Nat} {G:List Fm} {w0 wr w1 w3:World} {p q:Fm} (h:Cl B v P n (.slice (some ⟨g,0,none⟩) n cap) k G w0 wr) (hw0:B<=w0.heap.size)
  (h1:Below wr.heap.size wr w1) (h3:Below w1.heap.size w1 w3) (hp:G[k]?=some p) (hq:q.p=p.p) (ho:w3.ownsRow w1.heap.size 52 5 (.slice q.f q.fL.length q.fCap) q.fL.length (fdV q.fL)):
  Cl B v P n (.slice (some ⟨g,0,none⟩) n cap) (k+1) (G.set k q) w0 (w3.setCell ⟨g,k*2+1,none⟩ (.slice q.f q.fL.length q.fCap)):=by
 have hb13:=h1.trans (h3.mono h1.size);have hg:=World.ownsRow.lt h.row g rfl;have hrow:=ai h.row hb13;have hst:=hrow.stored (k*2+1) (.slice q.f q.fL.length q.fCap);have hid:q.id=p.id:=by have:=congrArg Prod.fst hq;exact this
 rw [yG G k p q _ hp hid rfl] at hst;have hsy:dX 52 w3 (w3.setCell ⟨g,k*2+1,none⟩ (.slice q.f q.fL.length q.fCap)):=by
  rcases hrow.2 with ⟨hv,_⟩ | ⟨g',cap',cur,hv,_,hh,_⟩
  ·cases hv
  ·exact t101
 refine ⟨?_, ?_,hst.1, ?_, ?_, ?_, ?_⟩
 ·exact (h.box.later hb13).apart _ _ _ om_
 ·exact (h.res.later hb13).apart _ _ _ om_
 ·intro i r hi hr;rw [List.getElem?_set] at hr;split at hr
  ·rename_i e;split at hr
   ·cases hr
    have:=h1.size;have hlt:=h.box.lt;exact hsy.row (aW ho om_)
   ·cases hr
  ·exact hsy.row (ai (h.each i r om_ hr) hb13)
 ·intro i r hi hr;rw [List.getElem?_set,if_neg om_] at hr;exact h.rest i r om_ hr
 ·rw [ES hp hq,h.eq]
 ·exact below_setCells (h.below.trans (hb13.mono (by have:=h.box.lt;omega))) om_ _ [_]
theorem fV (x y:Value):(prog.info? 24).map (·.size)=some [x,y].length:=by kernel_rfl
theorem JF:(24:TypeId)≠52:=by decide
theorem aT {w:World} {B e sz n S o:Nat} {u v:Value} {xs:List Value} (h:w.ownsRow B e sz u n xs) (hS:S<B):(w.setCell ⟨S,o,none⟩ v).ownsRow B e sz u n xs:=
 bT h (fun g hg=>by have:=World.ownsRow.lt h g hg;exact Below.heap_setCell w ⟨S,o,none⟩ v g (by show g≠S;omega))
def gm (v:Int) (P:List schema.Form) (w:World) (e:Ending) (w':World):Prop:=
 ∃u G,e=.returned (.agg #[.int .i64 v,u])/\w'.ownsRow w.heap.size 49 2 u G.length (fmV G)/\(∀p∈G,oq w.heap.size w' p)/\forms G=P/\Below w.heap.size w w'
set_option maxRecDepth 20000 in
set_option maxHeartbeats 1600000 in
theorem gB (v:Int) (a:Option Addr) (c:Nat) (F:List Fm) (w:World) (h:Fms w a F) (hF:Small w F):
  Calls prog 146 #[zS v a F.length c] w (gm v (forms F) w):=by
 have h40:=hF.1;have hml:(F.length:Int)<=40:=by omega
 obtain ⟨W2,hW2⟩:∃W2,W2=((w.alloc (.cells (zS v a F.length c) 24))).alloc (.cells #[.int .i64 0,.slice none 0 0] 24):=⟨_,rfl⟩;have hb2:Below w.heap.size w W2:=by rw [hW2];exact (((Below.refl _ _).alloc (Nat.le_refl _) _).alloc si_ _)
 have hs2:W2.heap.size=w.heap.size+2:=by rw [hW2];simp
 have hB1:Block W2 w.heap.size 24 (zS v a F.length c):=by rw [hW2];exact (Block.new w _ _).alloc _
 have hB2:Block W2 (w.heap.size+1) 24 [.int .i64 0,.slice none 0 0]:=by rw [hW2];have:=Block.new ((w.alloc (.cells (zS v a F.length c) 24))) 24 [.int .i64 0,.slice none 0 0];simpa using this
 have cM:=BA a c F W2 (h.below hb2) om_;have r0:=hB1.cell 0;have r1:=hB1.cell 1;have HB1:=hid hB1;have HB2:=hid hB2;have HW:=hid hb2;have HF:=hid hF;have HS2:=hid hs2;have hne:w.heap.size≠w.heap.size+1:=by omega
 have HK:Hid (∀(W:World) (u:Value) (G:List Fm),Below W2.heap.size W2 W->W.ownsRow W2.heap.size 49 2 u F.length (fmV F)->Cl w.heap.size v (forms F) F.length u 0 F w (W.setCell ⟨w.heap.size,1,none⟩ u)):=hid (fun W u G hb ho=>by
  refine ⟨?_, ?_, ?_,fun i p hi=>absurd hi om_,fun i p _ hp=>hF.2 p (List.mem_of_getElem? hp),rfl, ?_⟩
  ·have:=(hB1.later hb).setCell 1 u;simpa using this
  ·exact (hB2.later hb).apart _ _ _ om_
  ·rw [<-hs2];exact bT ho (fun g hg=>by have:=World.ownsRow.lt ho g hg;exact Below.heap_setCell W ⟨w.heap.size,1,none⟩ u g (by show g≠w.heap.size;omega))
  ·exact below_setCells (hb2.trans (hb.mono om_)) (Nat.le_refl _) 1 [u])
 have HR:Hid (∀W,Below W2.heap.size W2 W->W.cell? ⟨w.heap.size,1,none⟩=some (.slice a F.length c)/\W.frozen? ⟨w.heap.size,1,none⟩=false):=hid (fun W hb=>⟨(hB1.later hb).cell 1,(hB1.later hb).frozen 1⟩);clear h hF hB1 hB2 hb2 h40 hs2;subst hW2;go_enter func146,ntmps146;go_wp2_with (go_at_call 194;((with_reducible refine cM.mono ?_);rintro e w1 ⟨u,rfl,ho,hb1⟩;obtain ⟨x,xc,rfl,hxc⟩:=aA ho;obtain ⟨k1,k2⟩:=HR.o _ hb1;have HCL:=hid (HK.o _ _ F hb1 ho);clear ho hb1));clear cM r0 r1 HB1 HB2 HW HS2 HK HR;obtain ⟨B,hB⟩:∃B,Hid (w.heap.size=B):=⟨_,rfl⟩;rw [hB.o] at HCL k1 k2 hne ⊢;generalize w1.setCell ⟨B,1,none⟩ (.slice x F.length xc)=w2 at *;clear k1 k2;go_loopw [12] (fun n wr=>∃k G,k<=F.length/\n=.int .i64 (k:Int)/\Hid (Cl B v (forms F) F.length (.slice x F.length xc) k G w wr)) (fun n _=>F.length - (intOf n).toNat);case atStart=>exact ⟨0,F,Nat.zero_le _,rfl,HCL⟩
 case round=>
  obtain ⟨k,G,hk,rfl,HC⟩:=hrel;have z1:=HC.o.box.cell 1;have z0:=HC.o.box.cell 0;have y0:=HC.o.res.cell 0;have y1:=HC.o.res.cell 1;have f0:=HC.o.res.frozen 0;have f1:=HC.o.res.frozen 1;by_cases hlt:k<F.length
  ·have hGl:G.length=F.length:=by have:=congrArg List.length HC.o.eq;rwa [aF,aF] at this
   obtain ⟨g,rfl⟩:∃g,x=some ⟨g,0,none⟩:=by
    rcases HC.o.row.2 with ⟨hv,h0⟩ | ⟨g,_,_,hv,_⟩
    ·omega
    ·cases hv;exact ⟨g,rfl⟩
   obtain ⟨p,hp⟩:∃p,G[k]?=some p:=⟨_,List.getElem?_eq_getElem om_⟩;have i1:(k:Int)<F.length:=by omega
   have c0:wr.cell? ⟨g,k*2,none⟩=some (.int .i64 p.id):=by
    have:=HC.o.row.cells (g:=g) rfl (k*2) _ (uG G k p 0 hp om_);rwa [Addr.add_lit,Nat.zero_add] at this
   have c1:wr.cell? ⟨g,k*2+1,none⟩=some (.slice p.f p.fL.length p.fCap):=by
    have:=HC.o.row.cells (g:=g) rfl (k*2+1) _ (uG G k p 1 hp om_);rwa [Addr.add_lit,Nat.zero_add] at this
   have HP:=hid hp;have hrp:=HC.o.rest k p (Nat.le_refl _) hp;clear hp;obtain ⟨pi,pf,pc,pL⟩:=p;simp only at c0 c1 hrp;have HW1:Hid (Below wr.heap.size wr ((wr.alloc (.cells (zS pi pf pL.length pc) 49)))):=hid (ak _ _);have HV:Hid (Block ((wr.alloc (.cells (zS pi pf pL.length pc) 49))) wr.heap.size 49 (zS pi pf pL.length pc)):=hid (Block.new _ _ _);have hgw:=World.ownsRow.lt HC.o.row g rfl;have hBw:=HC.o.box.lt;have hg1:g≠wr.heap.size:=by omega
   have hg2:wr.heap.size≠g:=by omega
   have hg3:B≠wr.heap.size:=by omega
   have hg4:wr.heap.size≠B:=by omega
   have hg5:B≠g:=by omega
   have hg6:g≠B:=by omega
   have HW0:Hid (Below w.heap.size w ((wr.alloc (.cells (zS pi pf pL.length pc) 49)))):=hid (by have h1:=HC.o.below;rw [<-hB.o] at h1 hBw;exact h1.trans (HW1.o.mono (Nat.le_of_lt hBw)));have cC:=fun (W:World) (hb:Below ((wr.alloc (.cells (zS pi pf pL.length pc) 49))).heap.size ((wr.alloc (.cells (zS pi pf pL.length pc) 49))) W)=>lK pf pc pL W (hrp.1.below (HW0.o.trans (hb.mono HW0.o.size))) om_
   have HST:Hid (∀(W:World) (y:Option Addr) (yc:Nat),Below ((wr.alloc (.cells (zS pi pf pL.length pc) 49))).heap.size ((wr.alloc (.cells (zS pi pf pL.length pc) 49))) W->W.ownsRow ((wr.alloc (.cells (zS pi pf pL.length pc) 49))).heap.size 52 5 (.slice y pL.length yc) pL.length (fdV pL)->
     Cl B v (forms F) F.length (.slice (some ⟨g,0,none⟩) F.length xc) (k+1) (G.set k ⟨pi,y,yc,pL⟩) w (W.setCell ⟨g,k*2+1,none⟩ (.slice y pL.length yc))):=hid (fun W y yc hb ho=>HC.o.step (Nat.le_of_eq hB.o.symm) HW1.o hb HP.o rfl ho)
   have HFC:Hid (∀(W:World),Below ((wr.alloc (.cells (zS pi pf pL.length pc) 49))).heap.size ((wr.alloc (.cells (zS pi pf pL.length pc) 49))) W->W.cell? ⟨B,1,none⟩=some (.slice (some ⟨g,0,none⟩) F.length xc)/\W.cell? ⟨wr.heap.size,1,none⟩=some (.slice pf pL.length pc)/\W.cell? ⟨g,k*2+1,none⟩=some (.slice pf pL.length pc)/\W.frozen? ⟨g,k*2+1,none⟩=false):=hid (fun W hb=>by
    have hbw:=HW1.o.trans (hb.mono HW1.o.size);refine ⟨(HC.o.box.later hbw).cell 1,(HV.o.later hb).cell 1, ?_, ?_⟩
    ·rw [hbw.cell (p:=⟨g,k*2+1,none⟩) hgw.2];exact c1
    ·exact (ai HC.o.row hbw).frozenAt _)
   clear hrp;go_wp2;have hbd:Below ((wr.alloc (.cells (zS pi pf pL.length pc) 49))).heap.size ((wr.alloc (.cells (zS pi pf pL.length pc) 49))) ((wr.alloc (.cells (zS pi pf pL.length pc) 49))).drew:=aJ (Below.refl _ _);obtain ⟨q1,q2,q3,q4⟩:=HFC.o _ hbd;go_region_held3 (fun w'=>w'.cell? ⟨B,1,none⟩=some (.slice (some ⟨g,0,none⟩) F.length xc)/\w'.cell? ⟨wr.heap.size,1,none⟩=some (.slice pf pL.length pc)) (first | assumption | go_keep) (first
    | (go_at_call 97;(with_reducible refine (cC _ hbd).mono ?_);rintro e w3 ⟨y,rfl,ho3,hb3⟩;obtain ⟨ya,yc,rfl,_⟩:=aA ho3;have hb13:=hbd.trans (hb3.mono hbd.size);obtain ⟨q1,q2,q3,q4⟩:=HFC.o w3 hb13;have HO3:=hid ho3;clear ho3))
   go_wp2;exact ⟨⟨k+1,_,by omega,by go_num,hid (HST.o w3 ya yc hb13 HO3.o)⟩,by simp [intOf];omega⟩
  ·obtain rfl:k=F.length:=by omega
   have hGl:G.length=F.length:=by have:=congrArg List.length HC.o.eq;rwa [aF,aF] at this
   go_wp2;have hR:=(HC.o.res.setCell 0 (.int .i64 v)).setCell 1 (.slice x F.length xc);have hBw:=HC.o.box.lt;refine bodyPost_ret (aI (b:=B+1) (o:=0) rfl rfl hR.whole underlying24 rfl (fV _ _)) rfl ?_;refine ⟨_,G,rfl, ?_,fun p hp=> ?_,HC.o.eq, ?_⟩
   ·rw [hB.o,hGl];exact aW (aT (aT HC.o.row om_) om_) om_
   ·obtain ⟨i,hi⟩:=List.mem_iff_getElem?.1 hp;have:=HC.o.each i p (by have:=(List.getElem?_eq_some_iff.1 hi).1;omega) hi;rw [hB.o];have hsy:=(jX 52 HC.o.res JF 0 (.int .i64 v)).trans (jX 52 (HC.o.res.setCell 0 (.int .i64 v)) JF 1 (.slice x F.length xc));exact hsy.row this
   ·have h1:=HC.o.below;rw [<-hB.o] at h1 ⊢;exact below_setCells (below_setCells h1 om_ 0 [_]) om_ 1 [_]
end typing
namespace schema
open Go.RowKit
open field (Gives ak aj)
open typing (aT)
theorem Gj (v:Int) (a:Option Addr) (c:Nat) (F:List Fm) (x:Int) (k:Nat) (p:Fm) (w:World) (h:FmL w a F) (hF:F.length<=maxLen) (hp:F[k]?=some p) (hx:p.id=x) (hn:x∉(uy F).take k) (hL:p.fL.length<=1000000):
  Calls prog 53 #[zS v a F.length c,.int .i64 x] w fun e w'=>∃y cap,e=.returned (.tuple #[zS x y p.fL.length cap,.bool true])/\w'.ownsRow w.heap.size 52 5 (.slice y p.fL.length cap) p.fL.length (fdV p.fL)/\Below w.heap.size w w':=by
 have HX:=hid (W3.all v a F c x w);have h0:=W3.all v a F c x w _ (Below.refl _ _);have hsz:(W3 v a F c x w).heap.size=w.heap.size+3:=by simp [W3]
 have h3:=h.below (W3.forms v a F c x w);have cI:=oI a c F x (w.heap.size+1) (W3 v a F c x w) h3 hF h0.2.2.1 om_;rw [nS hn (by rw [<-hx];exact yC hp)] at cI;have hk:k<F.length:=(List.getElem?_eq_some_iff.1 hp).1;obtain ⟨b,off,rfl,hbl0⟩:∃b off,a=some ⟨b,off,none⟩/\b<w.heap.size:=by obtain ⟨b,off,q0,h1,h2,_⟩:=pV h (Below.refl _ _) hk;exact ⟨b,off,h1,h2⟩
 obtain ⟨b',off',q,hab,hbl,hq,c0,c1,hfd,hfl⟩:=pV h3 (Below.refl _ _) hk;obtain ⟨rfl,rfl⟩:b=b'/\off=off':=by cases hab;exact ⟨rfl,rfl⟩
 clear hab;have hn1:b≠w.heap.size+1+1:=by omega
 have hn2:w.heap.size+1+1≠b:=by omega
 have hn3:w.heap.size≠w.heap.size+1+1:=by omega
 have hn4:w.heap.size+1+1≠w.heap.size:=by omega
 obtain rfl:p=q:=by rw [hp] at hq;exact Option.some.inj hq
 have HFD:=hid hfd;have cC:=fun w' (hb:Below (W3 v (some ⟨b,off,none⟩) F c x w).heap.size (W3 v (some ⟨b,off,none⟩) F c x w) w')=>lK p.f p.fCap p.fL w' (hfd.below hb) hL
 have HC1:=hid (fun w' (hb:Below (W3 v (some ⟨b,off,none⟩) F c x w).heap.size (W3 v (some ⟨b,off,none⟩) F c x w) w')=>(hb.cell (p:=⟨b,off+k*2+1,none⟩) hbl).trans c1);have i1:(k:Int)<F.length:=by omega
 clear h hx hn h0 hsz hp h3 hq c0 c1 hfd hfl hbl hL hF hbl0;obtain ⟨i,f,fc,L⟩:=p;simp only at cC HC1 HFD ⊢;unfold W3 at HX cI cC HC1;go_enter func53,ntmps53;go_wp2_with (go_at_call 95;((with_reducible refine cI.mono ?_);rintro e w2 ⟨rfl,hb2⟩;obtain ⟨z0,z1,z2,hblk,hbo⟩:=HX.o _ hb2;have r0:=hblk.cell 0;have r1:=hblk.cell 1;have f0:=hblk.frozen 0;have f1:=hblk.frozen 1));have hb2d:=aJ hb2;have y0:=HC1.o _ hb2d;obtain ⟨z0,z1,z2,hblk,hbo⟩:=HX.o w2.drew hb2d;go_region_held3 (fun w'=>w'.cell? ⟨w.heap.size,1,none⟩=some (.slice (some ⟨b,off,none⟩) F.length c)/\w'.cell? ⟨w.heap.size+1,0,none⟩=some (.int .i64 x)/\w'.cell? ⟨b,off+k*2+1,none⟩=some (.slice f L.length fc)) (first | assumption | go_keep | (rw [World.cell?_setCell_other _ _ _ _ si_,World.cell?_setCell_other _ _ _ _ si_];assumption)) (first
  | (go_at_call 97;(with_reducible refine (cC _ hb2d).mono ?_);rintro e w3 ⟨yv,rfl,ho3,hb3⟩;obtain ⟨y,yc,rfl,_⟩:=aA ho3;have hb23:=hb2d.trans (hb3.mono hb2d.size);have y0:=HC1.o _ hb23;obtain ⟨z0,z1,z2,hblk3,hbo3⟩:=HX.o w3 hb23;have r0:=hblk3.cell 0;have r1:=hblk3.cell 1;have f0:=hblk3.frozen 0;have f1:=hblk3.frozen 1))
 go_wp2;have hB:=(hblk3.setCell 0 (.int .i64 x)).setCell 1 (.slice y L.length yc);have hlow:w.heap.size+3<=w2.drew.heap.size:=by have:=hb2d.size;simpa [W3] using this
 have hF3:=aW (aT (o:=1) (v:=.slice y L.length yc) (aT (o:=0) (v:=.int .i64 x) (aW ho3 hlow) (show w.heap.size+2<w.heap.size+3 by omega)) (show w.heap.size+2<w.heap.size+3 by omega)) (show w.heap.size<=w.heap.size+3 by omega);refine bodyPost_ret (ay (b:=w.heap.size+2) (o:=0) rfl rfl hB.whole underlying49 rfl (uH _ _)) rfl ?_;exact ⟨y,yc,rfl,hF3,below_setCells (below_setCells hbo3 om_ 0 [.int .i64 x]) om_ 1 [.slice y L.length yc]⟩
end schema
namespace schema
open Go.RowKit
open field (Gives ak aj)
end schema
end Go.Proofs.YtogkgbnpodojjaaGreat
