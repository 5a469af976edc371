/- Contracts and lemmas that claims of this seat share: TurnForm, TurnAp, TurnUndo, TurnUp. Each says its own conditions. -/
import Derived.Test.YtogkgbnpodojjaaGreatCmWord
import Derived.Deep.RegionHeld3
import Derived.Test.YtogkgbnpodojjaaGreatCmF
import Derived.Test.YtogkgbnpodojjaaGreatCmX
import Derived.Test.YtogkgbnpodojjaaGreatCmW
import Derived.Test.YtogkgbnpodojjaaGreatCmAD
import Derived.Test.YtogkgbnpodojjaaGreatCmS
set_option linter.unusedVariables false
namespace Go.Proofs.YtogkgbnpodojjaaGreat
open Go.Proofs.Tryz
namespace turn
open Go Go.RowKit schema typing
open record (vaC vaV um wP zX Has JJ bg)
open field (Va Gives ak)
def DV (j:Int) (V:List Va) (w:World) (e:Ending) (w':World):Prop:=∃x c,e=.returned (zS j x V.length c)/\Own w.heap.size w' (.slice x V.length c) V/\Below w.heap.size w w'
theorem Own.low {B B':Nat} {w:World} {u:Value} {V:List Va} (h:Own B w u V) (hB:B'<=B):Own B' w u V:=aW h hB
theorem Own.past {B:Nat} {w:World} {u:Value} {V:List Va} (h:Own B w u V) {S:Nat} (hS:u.ownBlock≠some S) (o:Nat) (vs:List Value):Own B (w.setCells S o vs) u V:=
 bT h fun g hg=>dU S vs o w g (by intro e;subst e;exact hS hg)
theorem gB (j:Int) (b:Option Addr) (d:Nat) (V:List Va) (w:World) (h:field.Vas w b V) (hV:V.length<=1000):
  Calls prog 100 #[zS j b V.length d] w (DV j V w):=by
 have HX:=hid (JJ j b V d w);have hN:=ak w (.cells (zS j b V.length d) 66);have hN2:=ak (w.alloc (.cells (zS j b V.length d) 66)) (.cells #[.int .i64 0,.slice none 0 0] 66);obtain ⟨W2,hW2⟩:∃x,Hid (((w.alloc (.cells (zS j b V.length d) 66)).alloc (.cells #[.int .i64 0,.slice none 0 0] 66))=x):=⟨_,hid rfl⟩;have hB2:Below w.heap.size w W2:=by rw [<-hW2.o];exact hN.trans (hN2.mono hN.size)
 have hBX:Below (w.alloc (.cells (zS j b V.length d) 66)).heap.size (w.alloc (.cells (zS j b V.length d) 66)) W2:=by rw [<-hW2.o];exact hN2
 have HR:Hid (Block W2 (w.heap.size+1) 66 [.int .i64 0,.slice none 0 0]):=hid (by rw [<-hW2.o];have:=Block.new (w.alloc (.cells (zS j b V.length d) 66)) 66 [.int .i64 0,.slice none 0 0];simpa using this);have hsz:W2.heap.size=w.heap.size+2:=by rw [<-hW2.o];simp
 have cC:=fun W (hb:Below W2.heap.size W2 W)=>um b d V W ((h.below hB2).below hb) om_
 have HB2:=hid hB2;have HBX:=hid hBX;have HSZ:=hid hsz;unfold DV;unfold wP at cC;clear h hV hN hN2 hB2 hBX hsz;go_enter func100,ntmps100;go_wp2;rw [hW2.o];have hb0:Below W2.heap.size W2 W2.drew:=aJ (Below.refl _ _);obtain ⟨y0,y1,_⟩:=HX.o _ (HBX.o.trans (hb0.mono HBX.o.size));go_region_held3 (fun w'=>w'.cell? ⟨w.heap.size,0,none⟩=some (.int .i64 j)/\w'.cell? ⟨w.heap.size,1,none⟩=some (.slice b V.length d)) (first | assumption | go_keep) (first
  | (go_at_call 159;(with_reducible refine (cC _ hb0).mono ?_);rintro e w3 ⟨v,rfl,ho3,hb3⟩;obtain ⟨x,c,rfl,hxc⟩:=aA ho3;have hb23:=hb0.trans (hb3.mono hb0.size);obtain ⟨y0,y1,_⟩:=HX.o _ (HBX.o.trans (hb23.mono HBX.o.size));have hR3:=HR.o.later hb23;have r0:=hR3.cell 0;have r1:=hR3.cell 1;have f0:=hR3.frozen 0;have f1:=hR3.frozen 1))
 go_wp2;have hB:=(hR3.setCell 0 (.int .i64 j)).setCell 1 (.slice x V.length c);refine bodyPost_ret (aI (b:=w.heap.size+1) (o:=0) rfl rfl hB.whole underlying66 rfl (bg _ _)) rfl ?_;have hne:(Value.slice x V.length c).ownBlock≠some (w.heap.size+1):=fun e=>by have:=(World.ownsRow.lt ho3 _ e).1;have:=HSZ.o;have:W2.drew.heap.size=W2.heap.size:=rfl;omega
 have hbw:=HB2.o.trans (hb23.mono HB2.o.size);refine ⟨x,c,rfl, ?_, ?_⟩
 ·have h1:Own w.heap.size w3 (.slice x V.length c) V:=aW ho3 HB2.o.size;exact (h1.past hne 0 [.int .i64 j]).past hne 1 [.slice x V.length c]
 ·exact below_setCells (below_setCells hbw om_ 0 [.int .i64 j]) om_ 1 [.slice x V.length c]
theorem Eb (F:List schema.Form) (s:step.Sp) (V:List Va):(fH F s.fm V↔Has (aC F s).fi (aC F s).L s.fm V)/\(fH F s.fm V->(aC F s).fi=s.fm/\(aC F s).L=fieldsOf F s.fm):=by
 unfold aC;cases hn:named F s.fm with
 | none=>
  refine ⟨⟨fun ⟨L,h,_⟩=>(by rw [hn] at h;cases h),fun h=> ?_⟩,fun ⟨L,h,_⟩=>(by rw [hn] at h;cases h)⟩;have:=h.1.2.1.1;simp at this
 | some p=>
  obtain ⟨p1,p2⟩:=p;obtain rfl:p1=s.fm:=(bH hn).2;have hf:fieldsOf F s.fm=p2:=by unfold fieldsOf;rw [hn]
  refine ⟨⟨fun ⟨L,h,k⟩=> ?_,fun h=>⟨_,hn,h⟩⟩,fun _=>⟨rfl,hf.symm⟩⟩;rw [hn] at h;cases h
  exact k
def pI (F:List Fm) (j:Int) (V:List Va) (w:World) (e:Ending) (w':World):Prop:=
 ∃i L y c r,e=.returned (.tuple #[zS i y L.length c,.bool r])/\field.Fds w' y L/\L.length<=40/\(r=true↔fH (forms F) j V)/\(r=true->i=j/\L=fieldsOf (forms F) j)/\Below w.heap.size w w'
theorem iG (v:Int) (a:Option Addr) (cc:Nat) (F:List Fm) (j:Int) (b:Option Addr) (d:Nat) (V:List Va) (w:World) (h:FmL w a F) (hF:Small w F) (hv:field.Vas w b V) (hV:V.length<=maxLen):
  Calls prog 99 #[zS v a F.length cc,zS j b V.length d] w (pI F j V w):=by
 obtain ⟨s,hs⟩:∃s:step.Sp,s.fm=j:=⟨⟨0,j,0,0,0,0,0,step.fd0,step.va0,[],[]⟩,rfl⟩;subst hs;obtain ⟨hh1,hh2⟩:=Eb (forms F) s V;have hln:=gY hF s;obtain ⟨c,hc⟩:∃c,c=aC (forms F) s:=⟨_,rfl⟩;rw [<-hc] at hh1 hh2 hln;obtain ⟨W3,hW3⟩:∃x,Hid (((w.alloc (.cells (zS v a F.length cc) 24)).alloc (.cells (zS s.fm b V.length d) 66)).alloc (.cells #[.int .i64 0,.slice none 0 0] 49)=x):=⟨_,hid rfl⟩;have hN1:=ak w (.cells (zS v a F.length cc) 24);have hN2:=ak (w.alloc (.cells (zS v a F.length cc) 24)) (.cells (zS s.fm b V.length d) 66);have hN3:=ak ((w.alloc (.cells (zS v a F.length cc) 24)).alloc (.cells (zS s.fm b V.length d) 66)) (.cells #[.int .i64 0,.slice none 0 0] 49);have hX:Hid (Below w.heap.size w W3/\W3.heap.size=w.heap.size+3/\Block W3 w.heap.size 24 (zS v a F.length cc)/\Block W3 (w.heap.size+1) 66 (zS s.fm b V.length d)/\Block W3 (w.heap.size+2) 49 [.int .i64 0,.slice none 0 0]):=hid (by
  rw [<-hW3.o];refine ⟨hN1.trans ((hN2.trans (hN3.mono hN2.size)).mono hN1.size),by simp,((Block.new w _ _).alloc _).alloc _, ?_, ?_⟩
  ·have:=(Block.new (w.alloc (.cells (zS v a F.length cc) 24)) 66 (zS s.fm b V.length d)).alloc (.cells #[.int .i64 0,.slice none 0 0] 49);simpa using this
  ·have:=Block.new ((w.alloc (.cells (zS v a F.length cc) 24)).alloc (.cells (zS s.fm b V.length d) 66)) 49 [.int .i64 0,.slice none 0 0];simpa using this)
 obtain ⟨hbw,hsz,b0,b1,b2⟩:=hX.o;have cN:=jd v a cc F s c hc W3 (h.below hbw) (hF.below hbw);have cH:=fun W (hb:Below w.heap.size w W) (fa:Option Addr) (fc:Nat) (hf:field.Fds W fa c.L)=>zX c.fi fa fc c.L s.fm b d V W hf (hv.below hb) (by unfold maxLen;omega) hV
 obtain ⟨r,hr⟩:∃r:Bool,Hid (decide (Has c.fi c.L s.fm V)=r):=⟨_,hid rfl⟩;rw [hr.o] at cH;have HE:Hid ((r=true↔fH (forms F) s.fm V)/\(r=true->c.fi=s.fm/\c.L=fieldsOf (forms F) s.fm)/\c.L.length<=40):=hid ⟨by rw [<-hr.o,decide_eq_true_iff];exact hh1.symm,fun e=>hh2 (hh1.2 (by rw [<-hr.o,decide_eq_true_iff] at e;exact e)),hln⟩;rw [<-hW3.o] at cN;have HB1:=hid b1;have HB2:=hid b2;have HBW:=hid hbw;have HSZ:=hid hsz;unfold pI;unfold Gives at cH;clear h hF hv hV hh1 hh2 hln hc hN1 hN2 hN3 hX hr hbw hsz b0 b1 b2;go_enter func99,ntmps99;go_wp2_with (first
  | (go_at_call 53;((with_reducible refine cN.mono ?_);rintro e w1 ⟨fa,fc,rfl,ho1,hb1⟩;rw [hW3.o] at ho1 hb1;have HO1:=hid ho1;have HB:=hid hb1;clear ho1 hb1)))
 obtain ⟨W4,hW4⟩:∃x,Hid (w1.alloc (.cells (zS c.fi fa c.L.length fc) 49)=x):=⟨_,hid rfl⟩;rw [hW4.o];have hb4:Below W3.heap.size W3 W4:=by rw [<-hW4.o];exact HB.o.trans ((ak w1 _).mono HB.o.size)
 have hf4:Block W4 w1.heap.size 49 (zS c.fi fa c.L.length fc):=by rw [<-hW4.o];exact Block.new w1 _ _
 have ho4:W4.ownsRow W3.heap.size 52 5 (.slice fa c.L.length fc) c.L.length (fdV c.L):=by rw [<-hW4.o];exact ai HO1.o (ak w1 _)
 have hb0:Below W4.heap.size W4 W4.drew:=aJ (Below.refl _ _);have hb5:Below W3.heap.size W3 W4.drew:=hb4.trans (hb0.mono hb4.size);have y0:=(HB1.o.later hb5).cell 0;have y1:=(HB1.o.later hb5).cell 1;have z0:=(hf4.later hb0).cell 0;have z1:=(hf4.later hb0).cell 1;have cH4:=cH W4.drew (HBW.o.trans (hb5.mono HBW.o.size)) fa fc (eu (ai ho4 hb0)).1;have HB4:=hid hb4;have HF4:=hid hf4;have HO4:=hid ho4;have HB5:=hid hb5;have hsz1:w.heap.size+1+1<w1.heap.size:=by have:=HB.o.size;have:=HSZ.o;omega
 have hn1:w1.heap.size≠w.heap.size+1+1:=by omega
 have hn2:w.heap.size+1+1≠w1.heap.size:=by omega
 clear hb4 hf4 ho4 hb0 hb5 cH HB HO1 hsz1;go_region_held3 (fun w'=>w'.cell? ⟨w1.heap.size,0,none⟩=some (.int .i64 c.fi)/\w'.cell? ⟨w1.heap.size,1,none⟩=some (.slice fa c.L.length fc)/\w'.cell? ⟨w.heap.size+1,0,none⟩=some (.int .i64 s.fm)/\w'.cell? ⟨w.heap.size+1,1,none⟩=some (.slice b V.length d)) (first | assumption | go_keep | (rw [World.cell?_setCell_other _ _ _ _ (by simp [hn1]),World.cell?_setCell_other _ _ _ _ (by simp [hn1])];assumption)) (first
  | (go_at_call 158;(with_reducible refine cH4.mono ?_);rintro e w5 ⟨rfl,hb6⟩;have hR5:=HB2.o.later (HB5.o.trans (hb6.mono HB5.o.size));have r0:=hR5.cell 0;have r1:=hR5.cell 1;have f0:=hR5.frozen 0;have f1:=hR5.frozen 1;have hF5:=HF4.o.later ((aJ (Below.refl _ _)).trans hb6);have z0:=hF5.cell 0;have z1:=hF5.cell 1;have hP5:=HB1.o.later (HB5.o.trans (hb6.mono HB5.o.size));have y0:=hP5.cell 0;have y1:=hP5.cell 1))
 go_wp2;have hB:=(hR5.setCell 0 (.int .i64 c.fi)).setCell 1 (.slice fa c.L.length fc);refine bodyPost_ret (ay (b:=w.heap.size+2) (o:=0) rfl rfl hB.whole underlying49 rfl (uH _ _)) rfl ?_;have hb7:Below w.heap.size w w5:=HBW.o.trans ((HB5.o.trans (hb6.mono HB5.o.size)).mono HBW.o.size);have ho5:w5.ownsRow W3.heap.size 52 5 (.slice fa c.L.length fc) c.L.length (fdV c.L):=ai HO4.o ((aJ (Below.refl _ _)).trans hb6);have hfd:=wZ (wZ (eu ho5).1 hR5 0 (.int .i64 c.fi)) (hR5.setCell 0 (.int .i64 c.fi)) 1 (.slice fa c.L.length fc);exact ⟨c.fi,c.L,fa,fc,r,rfl,hfd,HE.o.2.2,HE.o.1,HE.o.2.1,below_setCells (below_setCells hb7 om_ 0 [.int .i64 c.fi]) om_ 1 [.slice fa c.L.length fc]⟩
end turn
namespace turn
open Go Go.RowKit schema typing
open field (Va ak)
open step (Sp va0 fd0)
def wJ (j:Int) (V:List Va) (gone has:Bool) (lost:ByteArray) (w:World) (e:Ending) (w':World):Prop:=
 ∃x c,e=.returned (.agg #[.int .i64 j,.slice x V.length c,.bool gone,.bool has,.string lost])/\Own w.heap.size w' (.slice x V.length c) V/\Below w.heap.size w w'
structure Ap (D:Nat) (i:Int) (fa:Option Addr) (fc:Nat) (L:List field.Fd) (s:Sp) (ta:Option Addr) (tc:Nat) (la:Option Addr) (lc:Nat) (j:Int) (h:Bool) (lost:ByteArray) (u:Value) (U:List Va) (w W:World):Prop where
 form:Block W w.heap.size 49 (zS i fa L.length fc)
 step:Block W (w.heap.size+1) 57 (zP s ta tc la lc)
 res:Block W (w.heap.size+1+1+1) 108 [.int .i64 0,.slice none 0 0,.bool false,.bool false,.string ⟨#[]⟩]
 done:∃z,Block W D 108 [.int .i64 j,z,.bool false,.bool h,.string lost]
 row:Own (w.heap.size+4) W u U
 below:Below w.heap.size w W
 lt:w.heap.size+3<D
theorem aU:Hid ((prog.info? 108).map (·.size)=some 5):=by show _=_;kernel_rfl
theorem vd:(108:TypeId)≠54:=by decide
section
variable {B D:Nat} {i:Int} {fa:Option Addr} {fc:Nat} {L:List field.Fd} {s:Sp} {ta:Option Addr} {tc:Nat} {la:Option Addr} {lc:Nat} {j:Int} {h h':Bool} {lost lost':ByteArray} {u u' z:Value} {U U' V:List Va} {w W W1 W2:World}
theorem own_ne {g:Nat} {t:TypeId} {cs:List Value} (h:Own B W u U) (hg:Block W g t cs) (ht:t≠54):u.ownBlock≠some g:=by
 intro e;rcases h.2 with ⟨hv,_⟩ | ⟨g',cap,cur,hv,_,hB,_⟩
 ·rw [hv] at e;cases e
 ·rw [hv] at e;cases e
  unfold Block at hg;rw [hg] at hB;exact ht (Obj.cells.inj (Option.some.inj hB)).2.1
theorem Ap.later (hA:Ap D i fa fc L s ta tc la lc j h lost u U w W) (hb:Below W.heap.size W W1):Ap D i fa fc L s ta tc la lc j h lost u U w W1:=
 ⟨hA.form.later hb,hA.step.later hb,hA.res.later hb,hA.done.imp fun _ k=>k.later hb,hA.row.later hb,hA.below.trans (hb.mono hA.below.size),hA.lt⟩
theorem Ap.named (hA:Ap D i fa fc L s ta tc la lc j h lost u U w W) (hb:Below W.heap.size W W1) (he:Hid (W1=W2)):Hid (Ap D i fa fc L s ta tc la lc j h lost u U w W2):=hid (he.o ▸ hA.later hb)
theorem Ap.turn (hA:Ap D i fa fc L s ta tc la lc j h lost u U w W) (hg:W.grownBy W2 u.ownBlock) (ho:Own (w.heap.size+4) W2 u' U'):Ap D i fa fc L s ta tc la lc j h lost u' U' w W2:=by
 have hr:∀ {g:Nat},u.ownBlock=some g->w.heap.size+4<=g:=fun e=>(hA.row.at' e).1
 have key:∀ {g:Nat} {t:TypeId} {cs:List Value},Block W g t cs->u.ownBlock≠some g->Block W2 g t cs:=fun hB hne=>(hg.block _ hB.lt (fun e=>hne e.symm)).trans hB
 obtain ⟨z,hz⟩:=hA.done;exact ⟨key hA.form (fun e=>by have:=hr e;omega),key hA.step (fun e=>by have:=hr e;omega),key hA.res (fun e=>by have:=hr e;omega),⟨z,key hz (own_ne hA.row hz vd)⟩,ho,
  hA.below.grown hg hA.below.size (fun k e=>by have:=hr e;omega),hA.lt⟩
theorem Ap.set (hA:Ap D i fa fc L s ta tc la lc j h lost u U w W) {k:Nat} (hk:k<U.length) (y:Va) (hy:U.getD k va0=y):∃g cap,u=.slice (some ⟨g,0,none⟩) U.length cap/\W.cell? ⟨g,k*2,none⟩=some (.int .i64 y.n)/\W.cell? ⟨g,k*2+1,none⟩=some (.string y.s)/\W.frozen? ⟨g,k*2,none⟩=false/\
  w.heap.size+4<=g/\g<W.heap.size/\∀m,Ap D i fa fc L s ta tc la lc j h lost u (U.set k ⟨m,y.s⟩) w (W.setCell ⟨g,k*2,none⟩ (.int .i64 m)):=by
 subst hy;obtain ⟨g,cap,hu,hb,hg,hn,hc,hr,hth,_,hs⟩:=hA.row.get hk;refine ⟨g,cap,hu,hr 0 _ rfl,hr 1 _ rfl,(hth 0 om_).2,hb,hg,fun m=> ?_⟩;exact hA.turn (by rw [hu];exact rows.bD (v:=.slice (some ⟨g,0,none⟩) U.length cap) ((But.refl _ g W).setCell _ _) rfl) (hs m)
theorem Ap.lose (hA:Ap D i fa fc L s ta tc la lc j h lost u U w W):Ap D i fa fc L s ta tc la lc j true lost' u U w ((W.setCell ⟨D,3,none⟩ (.bool true)).setCell ⟨D,4,none⟩ (.string lost')):=by
 have:=hA.lt;obtain ⟨z,hz⟩:=hA.done;have hne:=own_ne hA.row hz vd;exact ⟨(hA.form.apart _ _ _ om_).apart _ _ _ om_,(hA.step.apart _ _ _ om_).apart _ _ _ om_,(hA.res.apart _ _ _ om_).apart _ _ _ om_,⟨z,(hz.setCell 3 (.bool true)).setCell 4 (.string lost')⟩,
  (hA.row.past hne 3 [.bool true]).past hne 4 [.string lost'],below_setCells (below_setCells hA.below om_ 3 [.bool true]) om_ 4 [.string lost'],hA.lt⟩
theorem Ap.end' (hA:Ap D i fa fc L s ta tc la lc j h lost u U w W):(∃z,Block W D 108 [.int .i64 j,z,.bool false,.bool h,.string lost])/\(W.setCell ⟨D,1,none⟩ u).there (w.heap.size+1+1+1) 0 5/\
  ∀vs,vs.length=5->Block ((W.setCell ⟨D,1,none⟩ u).setCells (w.heap.size+1+1+1) 0 vs) (w.heap.size+1+1+1) 108 vs/\Own (w.heap.size+4) ((W.setCell ⟨D,1,none⟩ u).setCells (w.heap.size+1+1+1) 0 vs) u U/\Below w.heap.size w ((W.setCell ⟨D,1,none⟩ u).setCells (w.heap.size+1+1+1) 0 vs):=by
 have:=hA.lt;obtain ⟨z,hz⟩:=hA.done;have hr:=hA.res.apart D 1 u om_;refine ⟨⟨z,hz⟩,hr.there 0 5 si_,fun vs hv=>⟨?_,(hA.row.past (own_ne hA.row hz vd) 1 [u]).past (fun e=>by have:=(hA.row.at' e).1;omega) 0 vs,below_setCells (below_setCells hA.below om_ 1 [u]) om_ 0 vs⟩⟩;have h2:=hr.setCells (vs:=vs) (o:=0);rwa [dS _ _ (by simp [hv])] at h2
end
section
variable {s:Sp} {L:List field.Fd} {V:List Va} {k:Nat} {y:Va}
theorem KW (h:s.op=1):fwd s k V=iQ V s.pl.toNat s.v:=if_pos h
theorem set_mid {V:List Va} {k:Nat} (h:k<V.length) (z:Va):V.set k z=V.take k++([z]++V.drop (k+1)):=by
 rw [List.set_eq_take_append_cons_drop,if_pos h];rfl
theorem pW (h1:s.op≠1) (h7:s.op≠7) (C:Can s L V k y):fwd s k V=V.take k++(bG s y++V.drop (k+1)):=by
 unfold fwd;rw [if_neg h1,if_neg h7,<-C.y']
theorem Can.lt (C:Can s L V k y) (h1:s.op≠1):k<V.length:=by have:=(C.at' h1).2;have:=C.len;omega
theorem KX (C:Can s L V k y) (h:s.op=2):fwd s k V=cutV V k:=by
 rw [pW om_ om_ C];unfold bG cutV;rw [if_pos h];rfl
theorem KU (C:Can s L V k y) (h:s.op=3\/s.op=8):fwd s k V=V:=by
 rw [pW om_ om_ C];unfold bG;rw [if_neg om_,if_neg om_,if_neg om_,if_neg om_];exact (jV (by rw [C.y'];exact iR (C.lt om_))).symm
theorem KY (C:Can s L V k y) (h:s.op=4):fwd s k V=V.set k (vn (s.a*y.n+s.b)):=by
 rw [pW om_ om_ C,set_mid (C.lt om_)];unfold bG;rw [if_neg om_,if_pos h]
theorem KZ (C:Can s L V k y) (h:s.op=5):fwd s k V=V.set k (vn (s.t.getD y.n.toNat 0)):=by
 rw [pW om_ om_ C,set_mid (C.lt om_)];unfold bG;rw [if_neg om_,if_neg om_,if_pos h]
theorem L6 (C:Can s L V k y) (h:s.op=6):fwd s k V=iQ (V.set k (vn (y.n.tdiv s.a))) (k+1) (vn (y.n.tmod s.a)):=by
 have hk:=C.lt om_;rw [pW om_ om_ C];unfold bG iQ;rw [if_neg om_,if_neg om_,if_neg om_,if_pos h];have h1:(V.set k (vn (y.n.tdiv s.a))).take (k+1)=V.take k++[vn (y.n.tdiv s.a)]:=by
  rw [set_mid hk,<-List.append_assoc];exact List.take_left' (by simp;omega)
 have h2:(V.set k (vn (y.n.tdiv s.a))).drop (k+1)=V.drop (k+1):=by
  rw [set_mid hk,<-List.append_assoc];exact List.drop_left' (by simp;omega)
 rw [h1,h2];simp
theorem L8 (C:Can s L V k y) (h:s.op=7):fwd s k V=iQ (cutV V k) s.pl.toNat y:=by
 unfold fwd;rw [if_neg om_,if_pos h,<-C.y']
end
end turn
namespace turn
open Go.RowKit schema step typing
open pair (inv bV)
open field (Va bytesOf)
open record (aY Has)
def fE (r:Sp) (k:Nat) (V:List Va):List Va×Int:=
 if r.op=21 then (cutV V k,0) else if r.op=22 then (iQ V r.pl.toNat r.v,0) else if r.op=27 then (iQ (cutV V k) r.pl.toNat (V.getD k va0),0)
 else if r.op=23 then (if r.f.Has (V.getD k va0) then (V,0) else ([],20))
 else if r.op=24 then (if ((V.getD k va0).n - r.b).tmod r.a=0/\r.f.Has (vn (((V.getD k va0).n - r.b).tdiv r.a)) then (V.set k (vn (((V.getD k va0).n - r.b).tdiv r.a)),0) else ([],20))
 else if r.op=25 then (if (V.getD k va0).n∈r.t then (V.set k (vn (r.t.idxOf (V.getD k va0).n)),0) else ([],20))
 else if r.op=26 then (if r.f.Has (vn (r.a*(V.getD k va0).n+(V.getD (k+1) va0).n)) then (cutV (V.set k (vn (r.a*(V.getD k va0).n+(V.getD (k+1) va0).n))) (k+1),0) else ([],20))
 else if r.op=29 then ([],20) else (V,0)
section
variable {r:Sp} {k:Nat} {V:List Va}
theorem Jf (h:r.op=21):fE r k V=(cutV V k,0):=by unfold fE;rw [if_pos h]
theorem Jg (h:r.op=22):fE r k V=(iQ V r.pl.toNat r.v,0):=by unfold fE;rw [if_neg om_,if_pos h]
theorem Jh (h:r.op=27):fE r k V=(iQ (cutV V k) r.pl.toNat (V.getD k va0),0):=by unfold fE;rw [if_neg om_,if_neg om_,if_pos h]
theorem DI (h:r.op=23):fE r k V=(if r.f.Has (V.getD k va0) then (V,0) else ([],20)):=by unfold fE;rw [if_neg om_,if_neg om_,if_neg om_,if_pos h]
theorem DJ (h:r.op=24):fE r k V=(if ((V.getD k va0).n - r.b).tmod r.a=0/\r.f.Has (vn (((V.getD k va0).n - r.b).tdiv r.a)) then (V.set k (vn (((V.getD k va0).n - r.b).tdiv r.a)),0) else ([],20)):=by unfold fE;rw [if_neg om_,if_neg om_,if_neg om_,if_neg om_,if_pos h]
theorem DK (h:r.op=25):fE r k V=(if (V.getD k va0).n∈r.t then (V.set k (vn (r.t.idxOf (V.getD k va0).n)),0) else ([],20)):=by unfold fE;rw [if_neg om_,if_neg om_,if_neg om_,if_neg om_,if_neg om_,if_pos h]
theorem DL (h:r.op=26):fE r k V=(if r.f.Has (vn (r.a*(V.getD k va0).n+(V.getD (k+1) va0).n)) then (cutV (V.set k (vn (r.a*(V.getD k va0).n+(V.getD (k+1) va0).n))) (k+1),0) else ([],20)):=by unfold fE;rw [if_neg om_,if_neg om_,if_neg om_,if_neg om_,if_neg om_,if_neg om_,if_pos h]
theorem DN (h:r.op=29):fE r k V=([],20):=by unfold fE;rw [if_neg om_,if_neg om_,if_neg om_,if_neg om_,if_neg om_,if_neg om_,if_neg om_,if_pos h]
theorem I5 (h:r.op≠21/\r.op≠22/\r.op≠23/\r.op≠24/\r.op≠25/\r.op≠26/\r.op≠27/\r.op≠29):fE r k V=(V,0):=by unfold fE;rw [if_neg om_,if_neg om_,if_neg om_,if_neg om_,if_neg om_,if_neg om_,if_neg om_,if_neg om_]
end
structure CanU (r:Sp) (L:List field.Fd) (V:List Va) (k:Nat) (y:Va):Prop where
 len:V.length=L.length
 l8:1<=L.length/\L.length<=8
 y':y=V.getD k va0
 at':(r.op=21\/r.op=23\/r.op=24\/r.op=25\/r.op=26\/r.op=27)->au (ids L) r.fd=k/\k<L.length
 yn:(-1099511627776<=y.n/\y.n<=1099511627776)
 c22:r.op=22->0<=r.pl/\r.pl<=L.length
 c24:r.op=24->((-1048576<=r.a/\r.a<=1048576)/\r.a≠0)/\(-1099511627776<=r.b/\r.b<=1099511627776)
 c26:r.op=26->k+1<L.length/\(2<=r.a/\r.a<=1048576)/\(-1099511627776<=(V.getD (k+1) va0).n/\(V.getD (k+1) va0).n<=1099511627776)
 c27:r.op=27->0<=r.pl/\r.pl<L.length
theorem Ej {f:field.Fd} {v:Va} (h:f.Has v): -1099511627776<=v.n/\v.n<=1099511627776:=by
 obtain ⟨⟨_,hr⟩,hb,_⟩:=h;unfold field.Fd.great at hb;rcases hr with ⟨k,_,h1,h2,_⟩ | ⟨k,h1,_⟩ | ⟨k,h1,h2⟩ | ⟨k,h1,_⟩
 ·rw [if_pos k] at hb;omega
 ·rw [if_neg om_,if_pos k] at hb;omega
 ·rw [if_neg om_,if_neg om_,if_pos k] at hb;omega
 ·rw [if_neg om_,if_neg om_,if_neg om_] at hb;omega
theorem uK {L:List field.Fd} {V:List Va} (h:aY L V) (k:Nat): -1099511627776<=(V.getD k va0).n/\(V.getD k va0).n<=1099511627776:=by
 have hl:=h.length;by_cases hk:k<V.length
 ·obtain ⟨f,hf⟩:∃f,L[k]?=some f:=⟨L[k],List.getElem?_eq_getElem om_⟩;exact Ej (h.at hf (iR hk))
 ·rw [List.getD_eq_getElem?_getD,List.getElem?_eq_none om_];exact ⟨by decide,by decide⟩
theorem nT {A R:List field.Fd} {f:field.Fd} {x:Int} (hn:(ids (A++([f]++R))).Nodup) (hx:f.id=x):au (ids (A++([f]++R))) x=A.length:=by
 refine oH hn ?_;unfold ids;rw [List.getElem?_map,List.getElem?_append_right (Nat.le_refl _),Nat.sub_self];simp [hx]
theorem yQ {V:List Va} {k:Nat} (h:k<V.length) (z:Va):V.set k z=V.take k++([z]++V.drop (k+1)):=by
 rw [List.set_eq_take_append_cons_drop,if_pos h];rfl
theorem nG {V:List Va} {k m:Nat} (h:0<m):((V.drop k).take m).getD 0 va0=V.getD k va0:=by
 rw [List.getD_eq_getElem?_getD,List.getD_eq_getElem?_getD,List.getElem?_take_of_lt h,List.getElem?_drop,Nat.add_zero]
theorem seg_next {V:List Va} {k m:Nat} (h:1<m):((V.drop k).take m).getD 1 va0=V.getD (k+1) va0:=by
 rw [List.getD_eq_getElem?_getD,List.getD_eq_getElem?_getD,List.getElem?_take_of_lt h,List.getElem?_drop]
theorem Ji {v:Int} {F:List schema.Form} {s:Sp} {L:List field.Fd} {V:List Va} (h:(on v F s).2.2=0) (hF:Form1 v F s L) (h9:s.op≠9) (h10:s.op≠10) (hV:aY (fields (aC F s)) V) (lost:ByteArray) (has:Bool) (z:Va) (hz:s.op=2->∀G,aV s (jH F s) G lost has=(z,0)):
  ∃k,CanU { inv F s with v:=if s.op=2 then z else (inv F s).v} (fields (aC F s)) V k (V.getD k va0)/\bwd v F s V lost has=fE { inv F s with v:=if s.op=2 then z else (inv F s).v} k V:=by
 have hlen:=hV.length;have hl8:=hF.fine'.2.1;have hnd:(ids (fields (aC F s))).Nodup:=hF.fine'.2.2.1.2;have hl8:1<=(fields (aC F s)).length/\(fields (aC F s)).length<=8:=hl8;have hfo:fieldsOf F s.fm=L:=aZ hF.here;have hfn:=aZ hF.there;have hfa:bV F s.fm=L:=by unfold bV;rw [hF.here]
 have hsp:=tq h;have hyb:=uK hV;have hat:atI F s=au (ids L) s.fd:=by unfold atI;rw [hfo]
 have hold:jH F s=bQ L (au (ids L) s.fd):=by unfold jH;rw [hfo,hat]
 unfold bwd;rw [hfn,if_neg h9];by_cases h1:s.op=1
 ·obtain ⟨e,hi,hh⟩:=lN h hF h1;have hr:inv F s=⟨21,s.fm,s.f.id,0,0,0,0,fd0,va0,[],[]⟩:=by unfold inv;rw [if_neg om_,if_neg om_,if_pos h1]
  rw [hr,if_neg om_,if_pos h1];rw [e] at hlen hl8 hnd ⊢;have hk:=jK hnd hi;refine ⟨s.pl.toNat,⟨hlen.symm,hl8,rfl,fun _=>⟨hk, ?_⟩,hyb _,by simp,by simp,by simp,by simp⟩, ?_⟩
  ·show s.pl.toNat<(jf L s.pl.toNat s.f).length
   unfold jf;simp;omega
  ·rw [hk];rfl
 obtain ⟨k,hk,hkl,hLk,hxid,hxr⟩:=jv h hF h1 h9 h10;rw [if_neg h1];by_cases h7:s.op=7
 ·obtain ⟨e,hi⟩:=kH h hF hk hkl h7;have hr:inv F s=⟨27,s.fm,s.fd,au (ids L) s.fd,0,0,0,fd0,va0,[],[]⟩:=by
   unfold inv;rw [if_neg om_,if_neg om_,if_neg om_,if_neg om_,if_neg om_,if_neg om_,if_neg om_,if_neg om_,if_pos h7,hfa]
  rw [hr,if_neg om_,if_pos h7,hat];rw [e] at hlen hl8 hnd ⊢;have hfi:=jK hnd hi;rw [hxid] at hfi;have hcc:=jq hkl;have hpl:(jf (jo L k) s.pl.toNat (bQ L (au (ids L) s.fd))).length=(jo L k).length+1:=by unfold jf;simp;omega
  refine ⟨s.pl.toNat,⟨hlen.symm,hl8,rfl,fun _=>⟨hfi,by omega⟩,hyb _,by simp,by simp,by simp,fun _=> ?_⟩, ?_⟩
  ·show 0<=au (ids L) s.fd/\au (ids L) s.fd<_
   omega
  ·rw [hfi];rfl
 rw [if_neg h7];have hS:=tN h hF h1 h7 h9 h10;have e:=oU hF hk h1 h7;have hl1:=oW hS;have hkt:(au (ids L) s.fd).toNat=k:=by omega
 have htk:(L.take k).length=k:=by simp;omega
 have hlV:V.length=k+many s+(L.length - (k+1)):=by
  rw [<-hlen,e];simp [hl1];omega
 rw [hat,hkt];obtain ⟨x,hx⟩:∃x,Hid (bQ L (au (ids L) s.fd)=x):=⟨_,hid rfl⟩;rw [hold] at hz ⊢;rw [hx.o] at hS hl1 hLk hxid hxr hz e ⊢;rcases hS.op with h2 | h3 | h4 | h5 | h6 | h8
 ·have hr:inv F s=⟨22,s.fm,0,k,0,0,0,x,s.v,[],[]⟩:=by
   unfold inv;rw [if_neg h9,if_neg h10,if_neg h1,if_pos h2,hfa,hk];rw [show bQ L k=x by rw [<-hk];exact hx.o]
  rw [hr,if_pos h2,hz h2]
  have hm:many s=0:=by unfold many;rw [if_pos h2]
  refine ⟨0,⟨hlen.symm,hl8,rfl,by simp,hyb _,fun _=> ?_,by simp,by simp,by simp⟩, ?_⟩
  ·show 0<=(k:Int)/\(k:Int)<=_
   rw [hlen];omega
  ·rw [if_neg si_,hm,Nat.add_zero];rfl
 ·have hr:inv F s=⟨23,s.fm,s.fd,0,0,0,0,x,va0,[],[]⟩:=by
   unfold inv;rw [if_neg h9,if_neg h10,if_neg h1,if_neg om_,if_pos h3,hfa,hx.o]
  have hm:many s=1:=by unfold many;rw [if_neg om_,if_neg om_]
  have e1:bF s x=[s.f]:=by unfold bF dG;simp only;rw [h3];rfl
  have hid_:s.f.id=s.fd:=by
   have hm:=jh h (m:=8) (by rw [h3];decide);unfold Sp.Fine at hm;simp only [Nat.reduceEqDiff,if_false,if_true] at hm;exact hm.2
  rw [e,e1] at hnd
  have hfi:au (ids (fields (aC F s))) s.fd=k:=by rw [e,e1,nT hnd hid_,htk]
  rw [hr,if_neg om_]
  refine ⟨k,⟨hlen.symm,hl8,rfl,fun _=>⟨hfi,by omega⟩,hyb _,by simp,by simp,by simp,by simp⟩, ?_⟩
  have hb:aV s x ((V.drop k).take (many s)) lost has=chk x (V.getD k va0):=by
   unfold aV;rw [if_neg om_,if_neg om_,if_neg om_,if_neg om_,if_neg om_,nG om_]
  rw [hb,hm]
  rw [DI rfl]
  unfold chk
  by_cases hh:x.Has (V.getD k va0)
  ·rw [if_pos hh,if_neg si_,if_pos hh,<-jV (iR om_)]
  ·rw [if_neg hh,if_pos si_,if_neg hh]
 ·have hr:inv F s=⟨24,s.fm,s.fd,0,0,s.a,s.b,x,va0,[],[]⟩:=by
   unfold inv;rw [if_neg h9,if_neg h10,if_neg h1,if_neg om_,if_neg om_,if_pos h4,hfa,hx.o]
  have hm:many s=1:=by unfold many;rw [if_neg om_,if_neg om_]
  have e1:bF s x=[{ x with lo:=low ⟨s,0,[],false,0,x⟩,hi:=high ⟨s,0,[],false,0,x⟩}]:=by unfold bF dG;simp only;rw [h4];rfl
  rw [e,e1] at hnd
  have hfi:au (ids (fields (aC F s))) s.fd=k:=by rw [e,e1,nT hnd hxid,htk]
  have hm5:=jh h (m:=5) (by rw [h4];decide)
  unfold Sp.Fine at hm5
  simp only [Nat.reduceEqDiff,if_false,if_true] at hm5
  rw [hr,if_neg om_]
  refine ⟨k,⟨hlen.symm,hl8,rfl,fun _=>⟨hfi,by omega⟩,hyb _,by simp,fun _=>hm5,by simp,by simp⟩, ?_⟩
  have hb:aV s x ((V.drop k).take (many s)) lost has=if ((V.getD k va0).n - s.b).tmod s.a≠0 then (va0,20) else chk x (vn (((V.getD k va0).n - s.b).tdiv s.a)):=by
   unfold aV;rw [if_neg om_,if_neg om_,if_pos h4,nG om_]
  rw [hb,hm]
  rw [DJ rfl]
  unfold chk
  by_cases hq:((V.getD k va0).n - s.b).tmod s.a=0
  ·rw [if_neg (show ¬(((V.getD k va0).n - s.b).tmod s.a≠0) from fun q=>q hq)]
   by_cases hh:x.Has (vn (((V.getD k va0).n - s.b).tdiv s.a))
   ·rw [if_pos hh,if_neg si_,if_pos ⟨hq,hh⟩,yQ (show k<V.length by omega)]
   ·rw [if_neg hh,if_pos si_,if_neg (fun q=>hh q.2)]
  ·rw [if_pos (show ((V.getD k va0).n - s.b).tmod s.a≠0 from hq),if_pos si_,if_neg (fun q=>hq q.1)]
 ·have hr:inv F s=⟨25,s.fm,s.fd,0,0,0,0,fd0,va0,s.t,[]⟩:=by
   unfold inv;rw [if_neg h9,if_neg h10,if_neg h1,if_neg om_,if_neg om_,if_neg om_,if_pos h5]
  have hm:many s=1:=by unfold many;rw [if_neg om_,if_neg om_]
  have e1:bF s x=[{ x with most:=s.a}]:=by unfold bF dG;simp only;rw [h5];rfl
  rw [e,e1] at hnd
  have hfi:au (ids (fields (aC F s))) s.fd=k:=by rw [e,e1,nT hnd hxid,htk]
  obtain ⟨hk3,hmo,ht⟩:=hS.c5 h5
  rw [hr,if_neg om_]
  refine ⟨k,⟨hlen.symm,hl8,rfl,fun _=>⟨hfi,by omega⟩,hyb _,by simp,by simp,by simp,by simp⟩, ?_⟩
  have hb:aV s x ((V.drop k).take (many s)) lost has=if (V.getD k va0).n∈s.t then chk x (vn (s.t.idxOf (V.getD k va0).n)) else (va0,20):=by
   unfold aV;rw [if_neg om_,if_neg om_,if_neg om_,if_pos h5,nG om_]
  rw [hb,hm]
  rw [DK rfl]
  unfold chk
  by_cases hq:(V.getD k va0).n∈s.t
  ·have hil:=List.idxOf_lt_length_of_mem hq
   have hh:x.Has (vn (s.t.idxOf (V.getD k va0).n)):=qf hxr om_ _ (by have:=hxr.2;omega) (by rw [lW hk3];omega)
   rw [if_pos hq,if_pos hh,if_neg si_,if_pos hq,yQ (show k<V.length by omega)]
  ·rw [if_neg hq,if_pos si_,if_neg hq]
 ·have hr:inv F s=⟨26,s.fm,s.fd,0,s.tt,s.a,0,x,va0,[],[]⟩:=by
   unfold inv;rw [if_neg h9,if_neg h10,if_neg h1,if_neg om_,if_neg om_,if_neg om_,if_neg om_,if_pos h6,hfa,hx.o]
  have hm:many s=2:=by unfold many;rw [if_neg om_,if_pos h6]
  have e1:bF s x=[{ x with hi:=Int.tdiv x.hi s.a}]++[⟨s.tt,1,0,mn (s.a - 1) x.hi,0⟩]:=by unfold bF dG;simp only;rw [h6];rfl
  rw [e,e1,List.append_assoc] at hnd
  have hfi:au (ids (fields (aC F s))) s.fd=k:=by rw [e,e1,List.append_assoc,nT hnd hxid,htk]
  have hm4:=jh h (m:=4) (by rw [h6];decide)
  unfold Sp.Fine at hm4
  simp only [Nat.reduceEqDiff,if_false,if_true] at hm4
  rw [hr,if_neg om_]
  refine ⟨k,⟨hlen.symm,hl8,rfl,fun _=>⟨hfi,by omega⟩,hyb _,by simp,by simp,fun _=>⟨by omega,hm4,hyb _⟩,by simp⟩, ?_⟩
  have hb:aV s x ((V.drop k).take (many s)) lost has=chk x (vn ((V.getD k va0).n*s.a+(V.getD (k+1) va0).n)):=by
   unfold aV;rw [if_neg om_,if_neg om_,if_neg om_,if_neg om_,if_pos h6,nG om_,seg_next om_]
  rw [hb,hm,Int.mul_comm]
  rw [DL rfl]
  unfold chk
  by_cases hh:x.Has (vn (s.a*(V.getD k va0).n+(V.getD (k+1) va0).n))
  ·rw [if_pos hh,if_neg si_,if_pos hh]
   have hs1:cutV (V.set k (vn (s.a*(V.getD k va0).n+(V.getD (k+1) va0).n))) (k+1)=V.take k++([vn (s.a*(V.getD k va0).n+(V.getD (k+1) va0).n)]++V.drop (k+2)):=by
    have hvk:(V.take k++[vn (s.a*(V.getD k va0).n+(V.getD (k+1) va0).n)]).length=k+1:=by simp;omega
    unfold cutV;rw [yQ om_,<-List.append_assoc,List.take_left' hvk,<-List.drop_drop,List.drop_left' hvk,List.drop_drop,List.append_assoc]
   rw [hs1]
  ·rw [if_neg hh,if_pos si_,if_neg hh]
 ·have hr:inv F s=⟨28,s.fm,s.tt,0,s.fd,0,0,fd0,va0,[],[]⟩:=by
   unfold inv;rw [if_neg h9,if_neg h10,if_neg h1,if_neg om_,if_neg om_,if_neg om_,if_neg om_,if_neg om_,if_neg h7]
  have hm:many s=1:=by unfold many;rw [if_neg om_,if_neg om_]
  rw [hr,if_neg om_]
  refine ⟨k,⟨hlen.symm,hl8,rfl,by simp,hyb _,by simp,by simp,by simp,by simp⟩, ?_⟩
  have hb:aV s x ((V.drop k).take (many s)) lost has=(V.getD k va0,0):=by
   unfold aV;rw [if_neg om_,if_pos h8,nG om_]
  rw [hb,hm]
  rw [I5 si_,if_neg si_,<-jV (iR om_)]
end turn
namespace turn
open Go Go.RowKit schema typing
open record (bg)
open field (Va ak)
open step (Sp va0 fd0)
def ku (j:Int) (U:List Va) (E:Int) (w:World) (e:Ending) (w':World):Prop:=
 ∃x c,e=.returned (.tuple #[zS j x U.length c,.int .i64 E])/\Own w.heap.size w' (.slice x U.length c) U/\Below w.heap.size w w'
structure Up (i:Int) (fa:Option Addr) (fc:Nat) (L:List field.Fd) (s:Sp) (ta:Option Addr) (tc:Nat) (la:Option Addr) (lc:Nat) (j:Int) (u:Value) (U:List Va) (w W:World):Prop where
 form:Block W w.heap.size 49 (zS i fa L.length fc)
 step:Block W (w.heap.size+1) 57 (zP s ta tc la lc)
 rec':Block W (w.heap.size+1+1) 66 [.int .i64 j,u]
 res:Block W (w.heap.size+1+1+1) 66 [.int .i64 0,.slice none 0 0]
 row:Own (w.heap.size+4) W u U
 below:Below w.heap.size w W
section
variable {i:Int} {fa:Option Addr} {fc:Nat} {L:List field.Fd} {s:Sp} {ta:Option Addr} {tc:Nat} {la:Option Addr} {lc:Nat} {j:Int} {u u':Value} {U U':List Va} {w W W1 W2:World}
theorem Up.later (hA:Up i fa fc L s ta tc la lc j u U w W) (hb:Below W.heap.size W W1):Up i fa fc L s ta tc la lc j u U w W1:=
 ⟨hA.form.later hb,hA.step.later hb,hA.rec'.later hb,hA.res.later hb,hA.row.later hb,hA.below.trans (hb.mono hA.below.size)⟩
theorem Up.named (hA:Up i fa fc L s ta tc la lc j u U w W) (hb:Below W.heap.size W W1) (he:Hid (W1=W2)):Hid (Up i fa fc L s ta tc la lc j u U w W2):=hid (he.o ▸ hA.later hb)
theorem Up.turn (hA:Up i fa fc L s ta tc la lc j u U w W) (hg:W.grownBy W2 u.ownBlock) (ho:Own (w.heap.size+4) W2 u' U'):Block W2 (w.heap.size+1+1) 66 [.int .i64 j,u]/\Up i fa fc L s ta tc la lc j u' U' w (W2.setCell ⟨w.heap.size+1+1,1,none⟩ u'):=by
 have hr:∀ {g:Nat},u.ownBlock=some g->w.heap.size+4<=g:=fun e=>(hA.row.at' e).1
 have key:∀ {g:Nat} {t:TypeId} {cs:List Value},Block W g t cs->g<w.heap.size+4->Block W2 g t cs:=fun hB hlt=>(hg.block _ hB.lt (fun e=>by have:=hr e.symm;omega)).trans hB
 have hk:=key hA.rec' om_;refine ⟨hk,(key hA.form om_).apart _ _ _ om_,(key hA.step om_).apart _ _ _ om_,hk.setCell 1 u',(key hA.res om_).apart _ _ _ om_,ho.past (fun e=>by have:=(ho.at' e).1;omega) 1 [u'], ?_⟩;exact below_setCells (hA.below.grown hg hA.below.size (fun k e=>by have:=hr e;omega)) om_ 1 [u']
theorem Up.val (hA:Up i fa fc L s ta tc la lc j u U w W) {k:Nat} (hk:k<U.length) (y:Va) (hy:U.getD k va0=y):∃g cap,u=.slice (some ⟨g,0,none⟩) U.length cap/\W.rangeAt g (k*2) (record.vaC y)/\W.there g (k*2) 2/\
  w.heap.size+4<=g/\g<W.heap.size/\U.length<=cap:=by
 subst hy;obtain ⟨g,cap,hu,hb,hg,hn,hc,hr,hth,_⟩:=hA.row.get hk;exact ⟨g,cap,hu,hr,hth,hb,hg,hn⟩
theorem Up.set {g cap:Nat} (hA:Up i fa fc L s ta tc la lc j (.slice (some ⟨g,0,none⟩) U.length cap) U w W) {k:Nat} (hk:k<U.length) (m:Int) (q:ByteArray):Up i fa fc L s ta tc la lc j (.slice (some ⟨g,0,none⟩) U.length cap) (U.set k ⟨m,q⟩) w (W.setCells g (k*2) [.int .i64 m,.string q]):=by
 obtain ⟨g',cap',hu,hb,hg,hn,hc,hr,hth,hs,_⟩:=hA.row.get hk;cases hu
 exact ⟨hA.form.jB _ _ _ om_,hA.step.jB _ _ _ om_,hA.rec'.jB _ _ _ om_,hA.res.jB _ _ _ om_,hs m q,below_setCells hA.below om_ _ _⟩
theorem Up.fin (hA:Up i fa fc L s ta tc la lc j u U w W) (a b:Value):Block ((W.setCell ⟨w.heap.size+1+1+1,0,none⟩ a).setCell ⟨w.heap.size+1+1+1,1,none⟩ b) (w.heap.size+1+1+1) 66 [a,b]/\
  Own w.heap.size ((W.setCell ⟨w.heap.size+1+1+1,0,none⟩ a).setCell ⟨w.heap.size+1+1+1,1,none⟩ b) u U/\Below w.heap.size w ((W.setCell ⟨w.heap.size+1+1+1,0,none⟩ a).setCell ⟨w.heap.size+1+1+1,1,none⟩ b):=
 ⟨(hA.res.setCell 0 a).setCell 1 b,((hA.row.past (fun e=>by have:=(hA.row.at' e).1;omega) 0 [a]).past (fun e=>by have:=(hA.row.at' e).1;omega) 1 [b]).low om_,below_setCells (below_setCells hA.below om_ 0 [a]) om_ 1 [b]⟩
end
end turn
end Go.Proofs.YtogkgbnpodojjaaGreat
