/- Contracts and lemmas that claims of this seat share: TypingOnAny, PairInverse, PairInvert. Each says its own conditions. -/
import Derived.Test.YtogkgbnpodojjaaGreatCmWord
import Derived.Test.YtogkgbnpodojjaaGreatCmAC
import Derived.Test.YtogkgbnpodojjaaGreatCmAL
set_option linter.unusedVariables false
namespace Go.Proofs.YtogkgbnpodojjaaGreat
open Go.Proofs.Tryz
namespace typing
open Go.RowKit schema
open field (Gives ak aj)
open step (Lists)
theorem on_any (v:Int) (a:Option Addr) (cc:Nat) (F:List Fm) (s:step.Sp) (ta:Option Addr) (tc:Nat) (la:Option Addr) (lc:Nat) (w:World) (h:FmL w a F) (hF:Small w F) (hl:Lists w s ta la) (hL:s.l.length<=40):
  Calls prog 49 #[zS v a F.length cc,zP s ta tc la lc] w (lH (on v (forms F) s) w):=by
 obtain ⟨c,hc⟩:∃c,c=aC (forms F) s:=⟨_,rfl⟩;have hs:s=c.s:=by rw [hc,sN]
 subst hs;unfold on;rw [<-hc];by_cases hf:Fit v (forms F) c.s
 ·rw [if_pos hf];by_cases h0:err c=0
  ·rw [if_pos h0];by_cases h1:Right v (applied (forms F) c)
   ·rw [if_pos h1];exact Ky v a cc F c hc ta tc la lc w h hF hl hL hf h0 h1
   ·rw [if_neg h1];exact J3 v a cc F c hc ta tc la lc w h hF hl hL hf h0 h1
  ·rw [if_neg h0];exact Kw v a cc F c hc ta tc la lc w h hF hl hL hf h0
 ·rw [if_neg hf];exact Lh v a cc F c hc ta tc la lc w h hF hl hL hf
end typing
namespace pair
open Go.RowKit schema typing
open field (ak)
open step (Sp St Lists gq oz Z16 vG nJ spC)
theorem Iq (F:List schema.Form) (s:Sp):bV F s.fm=(aC F s).L:=by
 unfold bV aC;cases named F s.fm <;> rfl
theorem Et {F:List schema.Form} {s:Sp} {c:Ch} (hc:c=aC F s):au (ids (bV F s.fm)) s.fd=c.at_/\bQ (bV F s.fm) (au (ids (bV F s.fm)) s.fd)=c.old/\bV F s.fm=c.L:=by
 have h1:=(gu F s).1;have h2:=(gu F s).2;rw [<-hc] at h1 h2;have h3:=Iq F s;rw [<-hc] at h3;rw [h3];exact ⟨h1.symm,by rw [h2,h1],rfl⟩
theorem Ad (v:Int) (a:Option Addr) (cc:Nat) (F:List Fm) (s:Sp) (ta:Option Addr) (tc:Nat) (la:Option Addr) (lc:Nat) (w:World) (h:FmL w a F) (hF:Small w F) (hl:Lists w s ta la) (ht:s.t.length<=1000000) (h0:(on v (forms F) s).2.2=0):
  Calls prog 169 #[zS v a F.length cc,zP s ta tc la lc] w (wM (inv (forms F) s) w):=by
 have hf:=(jw h0).1;obtain ⟨e1,e2,e3,e4⟩:=uq (IZ h0);have hop:=Gh hf;obtain ⟨c,hc⟩:∃c,c=aC (forms F) s:=⟨_,rfl⟩;obtain ⟨i1,i2,i3⟩:=Et hc;have hcs:c.s=s:=by rw [hc,sN]
 rw [<-hc] at e1 e2;have hk:s.op≠9->s.op≠1->s.op≠10->0<=c.at_:=fun h9 h1 h10=>by
  unfold found at e1;rw [hcs] at e1;simpa [h9,h1,h10] using e1
 have hcase:s.op=1\/s.op=2\/s.op=3\/s.op=4\/s.op=5\/s.op=6\/s.op=7\/s.op=8\/s.op=9\/s.op=10:=by omega
 have h9:s.op=9->¬0<=c.at_:=fun e=>by
  have hkn:c.kn=false:=by
   unfold twice at e2;rw [hcs,if_pos e] at e2;simpa using e2
  cases hn:named (forms F) s.fm with
  | none=>
   have:c=⟨s,0,[],false, -1,step.fd0⟩:=by rw [hc];unfold aC;rw [hn]
   rw [this];show ¬(0:Int)<= -1
   omega
  | some p=>
   have:c=⟨s,s.fm,p.2,true,au (ids p.2) s.fd,bQ p.2 (au (ids p.2) s.fd)⟩:=by rw [hc];unfold aC;rw [hn]
   rw [this] at hkn;cases hkn
 by_cases ha:0<=c.at_
 ·have h9':s.op≠9:=fun e=>h9 e ha
  refine IK v a cc F s (inv (forms F) s) c hc ta tc la lc w h hF hl ht ha om_ (fun e=> ?_) (fun e=> ?_) (fun e=> ?_) (fun e=> ?_) (fun e=> ?_) (fun e=> ?_) (fun e=> ?_) (fun e=> ?_) (fun e=> ?_) <;> (unfold inv;rw [i2,i1,i3];rw [e];rfl)
 ·refine Kr v a cc F s (inv (forms F) s) c hc ta tc la lc w h hF hl ht ha (Decidable.byContradiction fun hh=>ha (hk (fun e=>hh (.inr (.inl e))) (fun e=>hh (.inl e)) (fun e=>hh (.inr (.inr e))))) (fun e=> ?_) (fun e=> ?_) (fun e=> ?_) <;> (unfold inv;rw [i2,i1,i3];rw [e];rfl)
end pair
theorem t117{P:Prop}(h:P:=by
 rw [dS _ _ (by rfl)] at this;rw [<-hw8.o];exact this):P:=h
namespace pair
open Go.RowKit schema typing
open field (ak)
open step (Sp St Lists gq oz Z16 vG nJ spC)
def kY (r:Sp×Nat) (w:World) (e:Ending) (w':World):Prop:=∃xa xc ya yc,e=.returned (.tuple #[zP r.1 xa xc ya yc,.int .i64 (r.2:Nat)])/\gq w.heap.size w' ⟨r.1,xa,xc,ya,yc⟩/\Below w.heap.size w w'
set_option maxRecDepth 20000 in
set_option maxHeartbeats 3200000 in
theorem mg (v:Int) (a:Option Addr) (cc:Nat) (F:List Fm) (s:Sp) (ta:Option Addr) (tc:Nat) (la:Option Addr) (lc:Nat) (w:World) (h:FmL w a F) (hF:Small w F) (hl:Lists w s ta la) (ht:s.t.length<=1000000) (hL:s.l.length<=40):
  Calls prog 120 #[zS v a F.length cc,zP s ta tc la lc] w (kY (invert v (forms F) s) w):=by
 obtain ⟨W3,HW3,hbw,hsz3,HX⟩:=qR v a cc F s ta tc la lc w;have cO:=on_any v a cc F s ta tc la lc W3 (h.below hbw) (hF.below hbw) (hl.below hbw) hL;have cI:=fun (w':World) (hb:Below w.heap.size w w') (h0:(on v (forms F) s).2.2=0)=>Ad v a cc F s ta tc la lc w' (h.below hb) (hF.below hb) (hl.below hb) ht h0
 unfold invert;rw [<-HW3.o] at cO;generalize on v (forms F) s=r at *;generalize inv (forms F) s=q at *;obtain ⟨v2,P,n⟩:=r;simp only at cI ⊢;unfold lH at cO;unfold wM at cI;unfold kY;have HSZ:=hid hsz3;have HIG:Hid ((prog.info? 57).map (·.size)=some (zZ:Array Value).size):=hid aN.o;have HON:Hid ((zZ:Array Value).all (·.oneCell')=true):=hid (iY Sp.zero _ _ rfl rfl);clear h hF hl ht hL hbw hsz3;by_cases h0:n=0
 ·rw [if_pos h0];subst h0;replace cI:=fun w' hb=>cI w' hb rfl
  go_enter func120,ntmps120;go_wp2_with (first
   | (go_at_call 49;((with_reducible refine cO.mono ?_);rintro e w5 ⟨x,xc,G,rfl,hG,hfo,hfar,hb5⟩;rw [HW3.o] at hb5;have hN:=ak w5 (.cells (zS v2 x G.length xc) 24);have hb6:=hb5.trans (hN.mono hb5.size);obtain ⟨k0,k1,k2,kb⟩:=HX.o _ hb6;have z0:=k0.cell 0;have z1:=k0.cell 1;have y0:=k1.cell 0;have y1:=k1.cell 1;have y2:=k1.cell 2;have y3:=k1.cell 3;have y4:=k1.cell 4;have y5:=k1.cell 5;have y6:=k1.cell 6;have y7:=k1.cell 7;have y8:=k1.cell 8;have y9:=k1.cell 9;have y10:=k1.cell 10;have y11:=k1.cell 11;have y12:=k1.cell 12;have y13:=k1.cell 13;have y14:=k1.cell 14;have y15:=k1.cell 15;have cJ:=cI _ kb;have K2:=hid k2;have KB:=hid kb;have HB6:=hid hb6;clear k0 k1 k2 kb hN hb5 hb6 hG hfo hfar cI cO))
   | (go_at_call 169;((with_reducible refine cJ.mono ?_);rintro e w7 ⟨xa,xc2,ya,yc,rfl,ho7,hb7⟩;have K7:=hid (K2.o.later hb7);have HB7:Hid (Below w.heap.size w w7):=hid (KB.o.trans (hb7.mono KB.o.size));have HO7:Hid (gq w.heap.size w7 ⟨q,xa,xc2,ya,yc⟩):=hid (ho7.low KB.o.size);have HTH:Hid (w7.there (w.heap.size+1+1) 0 ((zP q xa xc2 ya yc):Array Value).size):=hid (K7.o.there 0 16 si_);have HIH:Hid ((prog.info? 57).map (·.size)=some ((zP q xa xc2 ya yc):Array Value).size):=hid aN.o;have HOH:Hid (((zP q xa xc2 ya yc):Array Value).all (·.oneCell')=true):=hid (iY q _ _ rfl rfl);clear ho7 hb7))
   | (with_reducible refine ah rfl 57 (.tmp 4) (.tmp 20) rfl (w.heap.size+1+1) 0 (zP q xa xc2 ya yc) rfl rfl HTH.o HIH.o HOH.o ?_))
  intro w8 hw8;have hB:Block w8 (w.heap.size+1+1) 57 (zP q xa xc2 ya yc):=by
   have:=K7.o.setCells (vs:=(zP q xa xc2 ya yc)) (o:=0)
   exact t117
  have hO8:gq w.heap.size w8 ⟨q,xa,xc2,ya,yc⟩:=by rw [<-hw8.o];exact HO7.o.stay (iH _ K7.o nJ _ _) (iH _ K7.o vG _ _)
  have hb8:Below w.heap.size w w8:=by rw [<-hw8.o];exact below_setCells HB7.o om_ _ _
  go_wp2;refine bodyPost_ret (ay (b:=w.heap.size+1+1) (o:=0) rfl rfl hB.whole underlying57 rfl aN.o) rfl ?_;exact ⟨_,_,_,_,rfl,hO8,hb8⟩
 ·rw [if_neg h0];have hne:(((n:Nat):Int) != 0)=true:=by simpa using h0
  clear h0 cI;go_enter func120,ntmps120;go_wp2_with (first
   | (go_at_call 49;((with_reducible refine cO.mono ?_);rintro e w5 ⟨x,xc,G,rfl,hG,hfo,hfar,hb5⟩;rw [HW3.o] at hb5;have hN:=ak w5 (.cells (zS v2 x G.length xc) 24);have hb6:=hb5.trans (hN.mono hb5.size);obtain ⟨k0,k1,k2,kb⟩:=HX.o _ hb6;have K2:=hid k2;have KB:=hid kb;have HTH:Hid ((w5.alloc (.cells (zS v2 x G.length xc) 24)).there (w.heap.size+1+1) 0 (zZ:Array Value).size):=hid (k2.there 0 16 si_);clear k0 k1 k2 kb hN hb5 hb6 hG hfo hfar cO))
   | (with_reducible refine ah rfl 57 (.tmp 4) (.tmp 16) rfl (w.heap.size+1+1) 0 zZ rfl rfl HTH.o HIG.o HON.o ?_))
  intro w8 hw8;have hB:Block w8 (w.heap.size+1+1) 57 Z16:=by
   have:=K2.o.setCells (vs:=Z16) (o:=0)
   exact t117
  have hb8:Below w.heap.size w w8:=by rw [<-hw8.o];exact below_setCells KB.o om_ _ _
  go_wp2;refine bodyPost_ret (ay (b:=w.heap.size+1+1) (o:=0) rfl rfl hB.whole underlying57 rfl aN.o) rfl ?_;exact ⟨none,0,none,0,rfl,gq.nil _ _ _ rfl rfl,hb8⟩
end pair
end Go.Proofs.YtogkgbnpodojjaaGreat
