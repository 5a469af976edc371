/- Contracts and lemmas that claims of this seat share: PairInvert. Each says its own conditions. -/
import Derived.Test.YtdnegbkhndekpaaGreatCmWord
import Derived.Test.YtdnegbkhndekpaaGreatCmZ
set_option linter.unusedVariables false
namespace Go.Proofs.YtdnegbkhndekpaaGreat
open Go.Proofs.Tryz
theorem t142{P:Prop}(h:P:=by
 rw [fZ _ _ (by rfl)] at this;rw [<-hw8.o];exact this):P:=h
namespace pair
open Go.RowKit schema typing
open field (aC)
open step (Sp St Lists jm qJ Z16 wV qw spC)
def nD (r:Sp×Nat) (w:World) (e:Ending) (w':World):Prop:=∃xa xc ya yc,e=.returned (.tuple #[zP r.1 xa xc ya yc,.int .i64 (r.2:Nat)])/\jm w.heap.size w' ⟨r.1,xa,xc,ya,yc⟩/\Below w.heap.size w w'
set_option maxRecDepth 20000 in
set_option maxHeartbeats 3200000 in
theorem oK (v:Int) (a:Option Addr) (cc:Nat) (F:List Fm) (s:Sp) (ta:Option Addr) (tc:Nat) (la:Option Addr) (lc:Nat) (w:World) (h:FmL w a F) (hF:Small w F) (hl:Lists w s ta la) (ht:s.t.length<=1000000) (hL:s.l.length<=40):
  Calls prog 39 #[zS v a F.length cc,zP s ta tc la lc] w (nD (invert v (forms F) s) w):=by
 obtain ⟨W3,HW3,hbw,hsz3,HX⟩:=tJ v a cc F s ta tc la lc w;have cO:=on_any v a cc F s ta tc la lc W3 (h.below hbw) (hF.below hbw) (hl.below hbw) hL;have cI:=fun (w':World) (hb:Below w.heap.size w w') (h0:(on v (forms F) s).2.2=0)=>Au v a cc F s ta tc la lc w' (h.below hb) (hF.below hb) (hl.below hb) ht h0
 unfold invert;rw [<-HW3.o] at cO;generalize on v (forms F) s=r at *;generalize inv (forms F) s=q at *;obtain ⟨v2,P,n⟩:=r;simp only at cI ⊢;unfold oW at cO;unfold yE at cI;unfold nD;have HSZ:=hid hsz3;have HIG:Hid ((prog.info? 32).map (·.size)=some (zZ:Array Value).size):=hid aV.o;have HON:Hid ((zZ:Array Value).all (·.oneCell')=true):=hid (jQ Sp.zero _ _ rfl rfl);clear h hF hl ht hL hbw hsz3;by_cases h0:n=0
 ·rw [if_pos h0];subst h0;replace cI:=fun w' hb=>cI w' hb rfl
  go_enter func39,ntmps39;go_wp2_with (first
   | (go_at_call 18;((with_reducible refine cO.mono ?_);rintro e w5 ⟨x,xc,G,rfl,hG,hfo,hfar,hb5⟩;rw [HW3.o] at hb5;have hN:=aC w5 (.cells (zS v2 x G.length xc) 24);have hb6:=hb5.trans (hN.mono hb5.size);obtain ⟨k0,k1,k2,kb⟩:=HX.o _ hb6;have z0:=k0.cell 0;have z1:=k0.cell 1;have y0:=k1.cell 0;have y1:=k1.cell 1;have y2:=k1.cell 2;have y3:=k1.cell 3;have y4:=k1.cell 4;have y5:=k1.cell 5;have y6:=k1.cell 6;have y7:=k1.cell 7;have y8:=k1.cell 8;have y9:=k1.cell 9;have y10:=k1.cell 10;have y11:=k1.cell 11;have y12:=k1.cell 12;have y13:=k1.cell 13;have y14:=k1.cell 14;have y15:=k1.cell 15;have cJ:=cI _ kb;have K2:=hid k2;have KB:=hid kb;have HB6:=hid hb6;clear k0 k1 k2 kb hN hb5 hb6 hG hfo hfar cI cO))
   | (go_at_call 71;((with_reducible refine cJ.mono ?_);rintro e w7 ⟨xa,xc2,ya,yc,rfl,ho7,hb7⟩;have K7:=hid (K2.o.later hb7);have HB7:Hid (Below w.heap.size w w7):=hid (KB.o.trans (hb7.mono KB.o.size));have HO7:Hid (jm w.heap.size w7 ⟨q,xa,xc2,ya,yc⟩):=hid (ho7.low KB.o.size);have HTH:Hid (w7.there (w.heap.size+1+1) 0 ((zP q xa xc2 ya yc):Array Value).size):=hid (K7.o.there 0 16 si_);have HIH:Hid ((prog.info? 32).map (·.size)=some ((zP q xa xc2 ya yc):Array Value).size):=hid aV.o;have HOH:Hid (((zP q xa xc2 ya yc):Array Value).all (·.oneCell')=true):=hid (jQ q _ _ rfl rfl);clear ho7 hb7))
   | (with_reducible refine ax rfl 32 (.tmp 4) (.tmp 20) rfl (w.heap.size+1+1) 0 (zP q xa xc2 ya yc) rfl rfl HTH.o HIH.o HOH.o ?_))
  intro w8 hw8;have hB:Block w8 (w.heap.size+1+1) 32 (zP q xa xc2 ya yc):=by
   have:=K7.o.setCells (vs:=(zP q xa xc2 ya yc)) (o:=0)
   exact t142
  have hO8:jm w.heap.size w8 ⟨q,xa,xc2,ya,yc⟩:=by rw [<-hw8.o];exact HO7.o.stay (jF _ K7.o qw _ _) (jF _ K7.o wV _ _)
  have hb8:Below w.heap.size w w8:=by rw [<-hw8.o];exact below_setCells HB7.o om_ _ _
  go_wp2;refine bodyPost_ret (au (b:=w.heap.size+1+1) (o:=0) rfl rfl hB.whole underlying32 rfl aV.o) rfl ?_;exact ⟨_,_,_,_,rfl,hO8,hb8⟩
 ·rw [if_neg h0];have hne:(((n:Nat):Int) != 0)=true:=by simpa using h0
  clear h0 cI;go_enter func39,ntmps39;go_wp2_with (first
   | (go_at_call 18;((with_reducible refine cO.mono ?_);rintro e w5 ⟨x,xc,G,rfl,hG,hfo,hfar,hb5⟩;rw [HW3.o] at hb5;have hN:=aC w5 (.cells (zS v2 x G.length xc) 24);have hb6:=hb5.trans (hN.mono hb5.size);obtain ⟨k0,k1,k2,kb⟩:=HX.o _ hb6;have K2:=hid k2;have KB:=hid kb;have HTH:Hid ((w5.alloc (.cells (zS v2 x G.length xc) 24)).there (w.heap.size+1+1) 0 (zZ:Array Value).size):=hid (k2.there 0 16 si_);clear k0 k1 k2 kb hN hb5 hb6 hG hfo hfar cO))
   | (with_reducible refine ax rfl 32 (.tmp 4) (.tmp 16) rfl (w.heap.size+1+1) 0 zZ rfl rfl HTH.o HIG.o HON.o ?_))
  intro w8 hw8;have hB:Block w8 (w.heap.size+1+1) 32 Z16:=by
   have:=K2.o.setCells (vs:=Z16) (o:=0)
   exact t142
  have hb8:Below w.heap.size w w8:=by rw [<-hw8.o];exact below_setCells KB.o om_ _ _
  go_wp2;refine bodyPost_ret (au (b:=w.heap.size+1+1) (o:=0) rfl rfl hB.whole underlying32 rfl aV.o) rfl ?_;exact ⟨none,0,none,0,rfl,jm.nil _ _ _ rfl rfl,hb8⟩
end pair
end Go.Proofs.YtdnegbkhndekpaaGreat
