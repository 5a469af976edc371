/- Contracts and lemmas that claims of this seat share: TypingRefOn. Each says its own conditions. -/
import Derived.Test.YtdnegbkhndekpaaGreatCmWord
import Derived.Test.YtdnegbkhndekpaaGreatCmU
import Derived.Test.YtdnegbkhndekpaaGreatCmAJ
import Derived.Test.YtdnegbkhndekpaaGreatCmAK
import Derived.Test.YtdnegbkhndekpaaGreatCmAL
set_option linter.unusedSimpArgs false
set_option linter.unusedVariables false
namespace Go.Proofs.YtdnegbkhndekpaaGreat
open Go.Proofs.Tryz
theorem t147{P:Prop}(h:P:=by
 refine bodyPost_ret (au (b:=w.heap.size+1+1) (o:=0) rfl rfl hB.whole underlying24 rfl (bT _ _)) rfl ?_;exact ⟨none,0,[],rfl,⟨.inl rfl,by simp⟩,rfl,(fun z hz=>by cases hz),below_setCells (below_setCells KB.o om_ 0 [_]) om_ 1 [_]⟩):P:=h
theorem t13{P:Prop}(h:P:=by
 clear h hF hl hL hmx hbw hf hr hs cN;go_enter func13,ntmps13;go_wp2_with (first
  | (go_at_call 30;((with_reducible refine cR.mono ?_);rintro e w1 ⟨rfl,hb1⟩;rw [HW3.o] at hb1;obtain ⟨k0,k1,k2,kb⟩:=HX.o _ hb1;have z0:=k0.cell 0;have z1:=k0.cell 1;have y0:=k1.cell 0;have y1:=k1.cell 1;have y2:=k1.cell 2;have y3:=k1.cell 3;have y4:=k1.cell 4;have y5:=k1.cell 5;have y6:=k1.cell 6;have y7:=k1.cell 7;have y8:=k1.cell 8;have y9:=k1.cell 9;have y10:=k1.cell 10;have y11:=k1.cell 11;have y12:=k1.cell 12;have y13:=k1.cell 13;have y14:=k1.cell 14;have y15:=k1.cell 15;have x0:=k2.cell 0;have x1:=k2.cell 1;have f0:=k2.frozen 0;have f1:=k2.frozen 1;have K2:=hid k2;have KB:=hid kb;clear k0 k1 k2 kb))
  | (go_at_call 31;((with_reducible refine (cS _ hb1).mono ?_);rintro e w2 ⟨rfl,hb2⟩;have hb1:=hb1.trans (hb2.mono hb1.size);obtain ⟨k0,k1,k2,kb⟩:=HX.o _ hb1;have z0:=k0.cell 0;have z1:=k0.cell 1;have y0:=k1.cell 0;have y1:=k1.cell 1;have y2:=k1.cell 2;have y3:=k1.cell 3;have y4:=k1.cell 4;have y5:=k1.cell 5;have y6:=k1.cell 6;have y7:=k1.cell 7;have y8:=k1.cell 8;have y9:=k1.cell 9;have y10:=k1.cell 10;have y11:=k1.cell 11;have y12:=k1.cell 12;have y13:=k1.cell 13;have y14:=k1.cell 14;have y15:=k1.cell 15;have x0:=k2.cell 0;have x1:=k2.cell 1;have f0:=k2.frozen 0;have f1:=k2.frozen 1;have K2:=hid k2;have KB:=hid kb;clear k0 k1 k2 kb)))
 have hB:=(K2.o.setCell 0 (.int .i64 0)).setCell 1 (.slice none 0 0)
 exact t147):P:=h
namespace typing
open Go.RowKit schema
open field (Gives aC aj)
open step (Lists lH)
set_option maxRecDepth 20000 in
set_option maxHeartbeats 3200000 in
theorem Hw (v:Int) (a:Option Addr) (cap:Nat) (F:List Fm) (s:step.Sp) (ta:Option Addr) (tc:Nat) (la:Option Addr) (lc:Nat) (w:World) (h:FmL w a F) (hF:Small w F) (hl:Lists w s ta la) (hL:s.l.length<=40) (hf:¬Fit v (forms F) s):
  Calls prog 13 #[zS v a F.length cap,zP s ta tc la lc] w (OnR (0,[],2) w):=by
 obtain ⟨W3,HW3,hbw,hsz3,HX⟩:=kW v a cap F s ta tc la lc w;have hmx:F.length<=maxLen:=by have:=hF.1;unfold maxLen;omega
 have cR:=aP v a cap F W3 (h.below hbw) hmx;unfold Gives at cR;rw [<-HW3.o] at cR;have n1:w.heap.size≠w.heap.size+1+1:=by omega
 have n2:w.heap.size+1≠w.heap.size+1+1:=by omega
 have cS:=fun (w':World) (hb:Below W3.heap.size W3 w')=>step.aP s ta tc la lc w' ((hl.below hbw).below hb)
 unfold Gives at cS;have cN:=fun (w':World) (hb:Below w.heap.size w w')=>gI v a cap F s ta tc la lc w' (h.below hb) hmx
 unfold Gives at cN;have HSZ:Hid (W3.heap.size=w.heap.size+3):=hid hsz3;clear hsz3;unfold OnR;by_cases hr:Right v (forms F)
 ·rw [decide_eq_true hr] at cR;by_cases hs:s.Right
  ·rw [decide_eq_true hs] at cS;have d10:decide (s.op>10)=true:=decide_eq_true (Int.not_le.1 (fun h10=>hf ⟨hr,hs,h10⟩))
   exact t13
  ·rw [decide_eq_false hs] at cS
   exact t13
 ·rw [decide_eq_false hr] at cR;clear h hF hl hL hmx hbw hf hr cN cS;go_enter func13,ntmps13;go_wp2_with ((go_at_call 30;((with_reducible refine cR.mono ?_);rintro e w1 ⟨rfl,hb1⟩;rw [HW3.o] at hb1;obtain ⟨k0,k1,k2,kb⟩:=HX.o _ hb1;have z0:=k0.cell 0;have z1:=k0.cell 1;have y0:=k1.cell 0;have y1:=k1.cell 1;have y2:=k1.cell 2;have y3:=k1.cell 3;have y4:=k1.cell 4;have y5:=k1.cell 5;have y6:=k1.cell 6;have y7:=k1.cell 7;have y8:=k1.cell 8;have y9:=k1.cell 9;have y10:=k1.cell 10;have y11:=k1.cell 11;have y12:=k1.cell 12;have y13:=k1.cell 13;have y14:=k1.cell 14;have y15:=k1.cell 15;have x0:=k2.cell 0;have x1:=k2.cell 1;have f0:=k2.frozen 0;have f1:=k2.frozen 1;have K2:=hid k2;have KB:=hid kb;clear k0 k1 k2 kb)));have hB:=(K2.o.setCell 0 (.int .i64 0)).setCell 1 (.slice none 0 0)
  exact t147
set_option maxRecDepth 20000 in
set_option maxHeartbeats 3200000 in
theorem Ar (v:Int) (a:Option Addr) (cap:Nat) (F:List Fm) (s:step.Sp) (ta:Option Addr) (tc:Nat) (la:Option Addr) (lc:Nat) (w:World) (h:FmL w a F) (hF:Small w F) (hl:Lists w s ta la) (hL:s.l.length<=40) (hf:Fit v (forms F) s) (h0:names (forms F) s≠0):
  Calls prog 13 #[zS v a F.length cap,zP s ta tc la lc] w (OnR (0,[],names (forms F) s) w):=by
 obtain ⟨W3,HW3,hbw,hsz3,HX⟩:=kW v a cap F s ta tc la lc w;have hmx:F.length<=maxLen:=by have:=hF.1;unfold maxLen;omega
 have cR:=aP v a cap F W3 (h.below hbw) hmx;unfold Gives at cR;rw [<-HW3.o] at cR;have n1:w.heap.size≠w.heap.size+1+1:=by omega
 have n2:w.heap.size+1≠w.heap.size+1+1:=by omega
 have cS:=fun (w':World) (hb:Below W3.heap.size W3 w')=>step.aP s ta tc la lc w' ((hl.below hbw).below hb)
 unfold Gives at cS;have cN:=fun (w':World) (hb:Below w.heap.size w w')=>gI v a cap F s ta tc la lc w' (h.below hb) hmx
 unfold Gives at cN;have HSZ:Hid (W3.heap.size=w.heap.size+3):=hid hsz3;clear hsz3;rw [decide_eq_true hf.1] at cR;have hf1:=hf.2.1;have hf2:=hf.2.2;simp only [decide_eq_true hf1] at cS;have d10:decide (s.op>10)=false:=decide_eq_false om_;generalize names (forms F) s=N at *;have dN:(((N:Nat):Int) != 0)=true:=by simpa using h0
 unfold OnR;clear h hF hl hL hmx hbw hf h0 hf1 hf2;go_enter func13,ntmps13;go_wp2_with (first
  | (go_at_call 30;((with_reducible refine cR.mono ?_);rintro e w1 ⟨rfl,hb1⟩;rw [HW3.o] at hb1;obtain ⟨k0,k1,k2,kb⟩:=HX.o _ hb1;have z0:=k0.cell 0;have z1:=k0.cell 1;have y0:=k1.cell 0;have y1:=k1.cell 1;have y2:=k1.cell 2;have y3:=k1.cell 3;have y4:=k1.cell 4;have y5:=k1.cell 5;have y6:=k1.cell 6;have y7:=k1.cell 7;have y8:=k1.cell 8;have y9:=k1.cell 9;have y10:=k1.cell 10;have y11:=k1.cell 11;have y12:=k1.cell 12;have y13:=k1.cell 13;have y14:=k1.cell 14;have y15:=k1.cell 15;have x0:=k2.cell 0;have x1:=k2.cell 1;have f0:=k2.frozen 0;have f1:=k2.frozen 1;have K2:=hid k2;have KB:=hid kb;clear k0 k1 k2 kb))
  | (go_at_call 31;((with_reducible refine (cS _ hb1).mono ?_);rintro e w2 ⟨rfl,hb2⟩;have hb1:=hb1.trans (hb2.mono hb1.size);obtain ⟨k0,k1,k2,kb⟩:=HX.o _ hb1;have z0:=k0.cell 0;have z1:=k0.cell 1;have y0:=k1.cell 0;have y1:=k1.cell 1;have y2:=k1.cell 2;have y3:=k1.cell 3;have y4:=k1.cell 4;have y5:=k1.cell 5;have y6:=k1.cell 6;have y7:=k1.cell 7;have y8:=k1.cell 8;have y9:=k1.cell 9;have y10:=k1.cell 10;have y11:=k1.cell 11;have y12:=k1.cell 12;have y13:=k1.cell 13;have y14:=k1.cell 14;have y15:=k1.cell 15;have x0:=k2.cell 0;have x1:=k2.cell 1;have f0:=k2.frozen 0;have f1:=k2.frozen 1;have K2:=hid k2;have KB:=hid kb;clear k0 k1 k2 kb))
  | (go_at_call 32;((with_reducible refine (cN _ KB.o).mono ?_);rintro e w3 ⟨rfl,hb3⟩;have hb1:=hb1.trans (hb3.mono hb1.size);obtain ⟨k0,k1,k2,kb⟩:=HX.o _ hb1;have z0:=k0.cell 0;have z1:=k0.cell 1;have y0:=k1.cell 0;have y1:=k1.cell 1;have y2:=k1.cell 2;have y3:=k1.cell 3;have y4:=k1.cell 4;have y5:=k1.cell 5;have y6:=k1.cell 6;have y7:=k1.cell 7;have y8:=k1.cell 8;have y9:=k1.cell 9;have y10:=k1.cell 10;have y11:=k1.cell 11;have y12:=k1.cell 12;have y13:=k1.cell 13;have y14:=k1.cell 14;have y15:=k1.cell 15;have x0:=k2.cell 0;have x1:=k2.cell 1;have f0:=k2.frozen 0;have f1:=k2.frozen 1;have K2:=hid k2;have KB:=hid kb;clear k0 k1 k2 kb)))
 have hB:=(K2.o.setCell 0 (.int .i64 0)).setCell 1 (.slice none 0 0)
 exact t147
end typing
end Go.Proofs.YtdnegbkhndekpaaGreat
