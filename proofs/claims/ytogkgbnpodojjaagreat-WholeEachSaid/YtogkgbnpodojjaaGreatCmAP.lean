/- Contracts and lemmas that claims of this seat share: TurnRegain. Each says its own conditions. -/
import Derived.Test.YtogkgbnpodojjaaGreatCmWord
import Derived.Lib.AtoiErrMem
import Derived.Test.YtogkgbnpodojjaaGreatCmAO
import Derived.Test.YtogkgbnpodojjaaGreatCmAG
import Derived.Test.YtogkgbnpodojjaaGreatCmAK
import Derived.Test.YtogkgbnpodojjaaGreatCmS
import Derived.Test.YtogkgbnpodojjaaGreatCmAM
set_option linter.unusedVariables false
namespace Go.Proofs.YtogkgbnpodojjaaGreat
open Go.Proofs.Tryz
namespace turn
open Go Go.RowKit schema typing
open record (bg dN oh oM)
open field (Va ak bytesOf bytesOf_length dO)
open step (Sp Lists va0 fd0)
set_option maxRecDepth 20000 in
set_option maxHeartbeats 16000000 in
theorem sF (v:Int) (a:Option Addr) (cc:Nat) (F:List Fm) (s:Sp) (ta:Option Addr) (tc:Nat) (la:Option Addr) (lc:Nat) (lost:ByteArray) (w:World) (h:FmL w a F) (hF:Small w F) (hl:Lists w s ta la) (hL:s.l.length<=40) (hs:lost.size<=maxLen) (h0:(on v (forms F) s).2.2=0) (h10:s.op=10):
  Calls prog 123 #[zS v a F.length cc,zP s ta tc la lc,.string lost] w (ku (bC v (forms F) s lost).1 (bC v (forms F) s lost).2.1 (bC v (forms F) s lost).2.2 w):=by
 obtain ⟨T,ht⟩:∃T,dN s.fm (fieldsOf (forms F) s.fm) (bytesOf lost)=T:=⟨_,rfl⟩;obtain ⟨j,V,E⟩:=T;have hrg:bC v (forms F) s lost=if E≠0 then (0,[],12) else (j,V,E):=by unfold bC;rw [if_neg (by simpa using h0),if_neg (by simpa using h10),ht]
 rw [hrg];obtain ⟨L,hn,_⟩:=lg h0 h10;obtain ⟨c,hc⟩:∃c,c=aC (forms F) s:=⟨_,rfl⟩;have hcL:c.fi=s.fm/\c.L=L:=by rw [hc];unfold aC;rw [hn];exact ⟨rfl,rfl⟩
 have hln:=gY hF s;rw [<-hc] at hln;rw [aZ hn,<-hcL.1,<-hcL.2] at ht;obtain ⟨W4,hW4,hbw,hsz,hBX⟩:=aS w [(24,zS v a F.length cc),(57,zP s ta tc la lc),(66,[.int .i64 0,.slice none 0 0])];simp only [boxes] at hW4;have cO:=typing.on_any v a cc F s ta tc la lc W4 (h.below hbw) (hF.below hbw) (hl.below hbw) hL;have cF:=fun W (hb:Below W4.heap.size W4 W)=>jd v a cc F s c hc W (h.below (hbw.trans (hb.mono hbw.size))) (hF.below (hbw.trans (hb.mono hbw.size)))
 have hcv:∀W:World,(convert 9 91 (.string lost)).run prog W=.ok (.slice (some ⟨W.heap.size,0,none⟩) lost.size (grownCap W lost.size 0 5)) (Lib.bytesWorld W 5 lost):=fun W=>Lib.run_convert_string_bytes W _ _ _ _ underlying9 underlying91 underlying5
 have cT:=fun (W:World) (fa:Option Addr) (fc:Nat) (hf:field.Fds W fa c.L)=>oh c.fi fa fc c.L (some ⟨W.heap.size,0,none⟩) lost.size (grownCap W lost.size 0 5) (bytesOf lost) (Lib.bytesWorld W 5 lost) (hf.below (Lib.bytesWorld_below _ _ _)) (by unfold maxLen;omega)
  ⟨by rw [bytesOf_length],.inr ⟨_,_,rfl,by rw [Lib.bytesWorld_size];omega,fun i hi=>by
   rw [Nat.zero_add,Lib.bytesWorld_cell _ _ _ _ hi];have hi':i<lost.data.toList.length:=by rw [Array.length_toList];exact hi
   simp [bytesOf,List.getD_eq_getElem?_getD,List.getElem?_eq_getElem hi']⟩⟩ (dO lost) (grownCap_ge _ _ _ _) (by have:=grownCap_le_maxLen W lost.size 0 5 hs;unfold maxLen at this;omega)
 rw [ht] at cT;unfold oM at cT;simp only at cT;rw [<-hW4.o] at cO;unfold lH at cO;obtain ⟨r,hrr⟩:∃q,on v (forms F) s=q:=⟨_,rfl⟩;rw [hrr] at cO h0;obtain ⟨r1,r2,n⟩:=r;simp only at cO h0;subst h0;have e10:(s.op != 10)=false:=by simp [h10]
 have HCV:=hid hcv;have HSZ:Hid (W4.heap.size=w.heap.size+3):=hid (by simpa using hsz.o);unfold ku;clear h hF hl hL hs hrg h10 ht hn hcL hln hc hrr hbw hsz hcv;by_cases hE:E=0
 ·subst hE;rw [if_neg si_];go_enter func123,ntmps123;go_wp2_with (first
   | (go_at_call 49;((with_reducible refine cO.mono ?_);rintro e w1 ⟨x1,c1,G,rfl,hG,hfo,hfar,hb1⟩;rw [hW4.o] at hb1;have hN1:=ak w1 (.cells (zS r1 x1 G.length c1) 24);have hb5:=hb1.trans (hN1.mono hb1.size);obtain ⟨⟨k0,k1,k2,_⟩,hbw5⟩:=hBX.o _ hb5;have HB5:=hid hb5;have x0:=k0.cell 0;have x1':=k0.cell 1;have s0:=k1.cell 0;have s1:=k1.cell 1;have cF5:=cF _ hb5;clear k0 k1 k2 hb5 hbw5 hN1 hG hfo hfar hb1))
   | (go_at_call 53;((with_reducible refine cF5.mono ?_);rintro e w2 ⟨fa,fc,rfl,ho2,hb2⟩;have hN2:=ak w2 (.cells (zS c.fi fa c.L.length fc) 49);have hb6:=HB5.o.trans ((hb2.trans (hN2.mono hb2.size)).mono HB5.o.size);have HB6:=hid hb6;have hcv6:=HCV.o (w2.alloc (.cells (zS c.fi fa c.L.length fc) 49));have f0:=(Block.new w2 49 (zS c.fi fa c.L.length fc)).cell 0;have f1:=(Block.new w2 49 (zS c.fi fa c.L.length fc)).cell 1;have cT6:=cT (w2.alloc (.cells (zS c.fi fa c.L.length fc) 49)) fa fc (eu (ai ho2 hN2)).1;simp only [World.size_alloc] at hcv6 cT6;clear hb6 hN2 hb2 ho2))
   | (go_at_call 54;((with_reducible refine cT6.mono ?_);rintro e w7 ⟨x7,c7,rfl,hv7,hb7⟩;have hs2:=HB6.o.size;have hb67:Below (w2.alloc (.cells (zS c.fi fa c.L.length fc) 49)).heap.size (w2.alloc (.cells (zS c.fi fa c.L.length fc) 49)) w7:=(Lib.bytesWorld_below _ _ _).trans (hb7.mono (Lib.bytesWorld_below _ _ _).size);have hN7:=ak w7 (.cells (zS j x7 V.length c7) 66);have hb8:=HB6.o.trans ((hb67.trans (hN7.mono hb67.size)).mono HB6.o.size);obtain ⟨⟨k0,k1,k2,_⟩,hbw8⟩:=hBX.o _ hb8;have K2:=hid k2;have HBW:=hid hbw8;have HV7:Hid (Own (w.heap.size+3) (w7.alloc (.cells (zS j x7 V.length c7) 66)) (.slice x7 V.length c7) V):=hid (aW (ai hv7 hN7) (by have:=HSZ.o;have:=(Lib.bytesWorld_below (w2.alloc (.cells (zS c.fi fa c.L.length fc) 49)) 5 lost).size;omega));have e0:=k2.cell 0;have e1:=k2.cell 1;have g0:=k2.frozen 0;have g1:=k2.frozen 1;have q0:=(Block.new w7 66 (zS j x7 V.length c7)).cell 0;have q1:=(Block.new w7 66 (zS j x7 V.length c7)).cell 1;clear k0 k1 k2 hbw8 hb8 hN7 hb67 hb7 hv7 hs2)))
  have hB:=(K2.o.setCell 0 (.int .i64 j)).setCell 1 (.slice x7 V.length c7);refine bodyPost_ret (ay (b:=w.heap.size+1+1) (o:=0) rfl rfl hB.whole underlying66 rfl (bg _ _)) rfl ?_;have hne:(Value.slice x7 V.length c7).ownBlock≠some (w.heap.size+1+1):=fun q=>by have:=(HV7.o.at' q).1;omega
  exact ⟨x7,c7,rfl,((HV7.o.low (show w.heap.size<=w.heap.size+3 by omega)).past hne 0 [.int .i64 j]).past hne 1 [.slice x7 V.length c7],below_setCells (below_setCells HBW.o om_ 0 [.int .i64 j]) om_ 1 [.slice x7 V.length c7]⟩
 ·rw [if_pos hE];have hE':(E != 0)=true:=by simpa using hE
  go_enter func123,ntmps123;go_wp2_with (first
   | (go_at_call 49;((with_reducible refine cO.mono ?_);rintro e w1 ⟨x1,c1,G,rfl,hG,hfo,hfar,hb1⟩;rw [hW4.o] at hb1;have hN1:=ak w1 (.cells (zS r1 x1 G.length c1) 24);have hb5:=hb1.trans (hN1.mono hb1.size);obtain ⟨⟨k0,k1,k2,_⟩,hbw5⟩:=hBX.o _ hb5;have HB5:=hid hb5;have x0:=k0.cell 0;have x1':=k0.cell 1;have s0:=k1.cell 0;have s1:=k1.cell 1;have cF5:=cF _ hb5;clear k0 k1 k2 hb5 hbw5 hN1 hG hfo hfar hb1))
   | (go_at_call 53;((with_reducible refine cF5.mono ?_);rintro e w2 ⟨fa,fc,rfl,ho2,hb2⟩;have hN2:=ak w2 (.cells (zS c.fi fa c.L.length fc) 49);have hb6:=HB5.o.trans ((hb2.trans (hN2.mono hb2.size)).mono HB5.o.size);have HB6:=hid hb6;have hcv6:=HCV.o (w2.alloc (.cells (zS c.fi fa c.L.length fc) 49));have f0:=(Block.new w2 49 (zS c.fi fa c.L.length fc)).cell 0;have f1:=(Block.new w2 49 (zS c.fi fa c.L.length fc)).cell 1;have cT6:=cT (w2.alloc (.cells (zS c.fi fa c.L.length fc) 49)) fa fc (eu (ai ho2 hN2)).1;simp only [World.size_alloc] at hcv6 cT6;clear hb6 hN2 hb2 ho2))
   | (go_at_call 54;((with_reducible refine cT6.mono ?_);rintro e w7 ⟨x7,c7,rfl,hv7,hb7⟩;have hs2:=HB6.o.size;have hb67:Below (w2.alloc (.cells (zS c.fi fa c.L.length fc) 49)).heap.size (w2.alloc (.cells (zS c.fi fa c.L.length fc) 49)) w7:=(Lib.bytesWorld_below _ _ _).trans (hb7.mono (Lib.bytesWorld_below _ _ _).size);have hN7:=ak w7 (.cells (zS j x7 V.length c7) 66);have hb8:=HB6.o.trans ((hb67.trans (hN7.mono hb67.size)).mono HB6.o.size);obtain ⟨⟨k0,k1,k2,_⟩,hbw8⟩:=hBX.o _ hb8;have K2:=hid k2;have HBW:=hid hbw8;have HV7:Hid (Own (w.heap.size+3) (w7.alloc (.cells (zS j x7 V.length c7) 66)) (.slice x7 V.length c7) V):=hid (aW (ai hv7 hN7) (by have:=HSZ.o;have:=(Lib.bytesWorld_below (w2.alloc (.cells (zS c.fi fa c.L.length fc) 49)) 5 lost).size;omega));have e0:=k2.cell 0;have e1:=k2.cell 1;have g0:=k2.frozen 0;have g1:=k2.frozen 1;have q0:=(Block.new w7 66 (zS j x7 V.length c7)).cell 0;have q1:=(Block.new w7 66 (zS j x7 V.length c7)).cell 1;clear k0 k1 k2 hbw8 hb8 hN7 hb67 hb7 hv7 hs2)))
  have hB:=(K2.o.setCell 0 (.int .i64 0)).setCell 1 (.slice none 0 0);refine bodyPost_ret (ay (b:=w.heap.size+1+1) (o:=0) rfl rfl hB.whole underlying66 rfl (bg _ _)) rfl ?_;exact ⟨none,0,rfl,World.ownsRow_nil _ _ _ _,below_setCells (below_setCells HBW.o om_ 0 [.int .i64 0]) om_ 1 [.slice none 0 0]⟩
theorem uZ (v:Int) (a:Option Addr) (cc:Nat) (F:List Fm) (s:Sp) (ta:Option Addr) (tc:Nat) (la:Option Addr) (lc:Nat) (lost:ByteArray) (j:Int) (V:List Va) (w:World) (h:FmL w a F) (hF:Small w F) (hl:Lists w s ta la) (hL:s.l.length<=40) (hs:lost.size<=maxLen) (hr:bC v (forms F) s lost=(j,V,0)):
  Calls prog 123 #[zS v a F.length cc,zP s ta tc la lc,.string lost] w fun e w'=>∃x c,e=.returned (.tuple #[zS j x V.length c,.int .i64 0])/\field.Vas w' x V/\Below w.heap.size w w':=by
 have h0:(on v (forms F) s).2.2=0:=by
  by_cases h0:(on v (forms F) s).2.2=0
  ·exact h0
  ·unfold bC at hr;rw [if_pos h0] at hr;have:=congrArg (fun q:Int×List Va×Int=>q.2.2) hr;simp only at this;omega
 have h10:s.op=10:=by
  by_cases h10:s.op=10
  ·exact h10
  ·unfold bC at hr;rw [if_neg (by simpa using h0),if_pos h10] at hr;cases hr
 have k:=sF v a cc F s ta tc la lc lost w h hF hl hL hs h0 h10;rw [hr] at k;exact k.mono fun _ _ ⟨x,c,he,ho,hb⟩=>⟨x,c,he,(record.tC ho).1,hb⟩
end turn
end Go.Proofs.YtogkgbnpodojjaaGreat
