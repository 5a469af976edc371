/- Contracts and lemmas that claims of this seat share: TypingOn. Each says its own conditions. -/
import Derived.Test.YtogkgbnpodojjaaGreatCmWord
import Derived.Test.YtogkgbnpodojjaaGreatCmJ
import Derived.Test.YtogkgbnpodojjaaGreatCmAA
import Derived.Test.YtogkgbnpodojjaaGreatCmAB
set_option linter.unusedVariables false
namespace Go.Proofs.YtogkgbnpodojjaaGreat
open Go.Proofs.Tryz
theorem t49{P:Prop}(h:P:=by
 have:=(Block.new w3 147 zY).setCells (vs:=(zH c ta tc la lc fa fc)) (o:=0)
 exact t131):P:=h
theorem t44{P:Prop}(h:P:=by
 have:=aF F;have hps:=Cj (forms F) c.s.fm;unfold applied ER;split
 ·simp only [List.length_append,List.length_take,List.length_drop,List.length_cons,List.length_nil];omega
 ·split
  ·simp only [List.length_append,List.length_take,List.length_drop];omega
  ·split <;> simp <;> omega):P:=h
namespace typing
open Go.RowKit schema
open field (Gives ak aj)
open step (Lists ou)
set_option maxRecDepth 20000 in
set_option maxHeartbeats 3200000 in
theorem Kw (v:Int) (a:Option Addr) (cc:Nat) (F:List Fm) (c:Ch) (hc:c=aC (forms F) c.s) (ta:Option Addr) (tc:Nat) (la:Option Addr) (lc:Nat) (w:World) (h:FmL w a F) (hF:Small w F) (hl:Lists w c.s ta la) (hL:c.s.l.length<=40) (hf:Fit v (forms F) c.s) (h0:err c≠0):
  Calls prog 49 #[zS v a F.length cc,zP c.s ta tc la lc] w (lH (0,[],err c) w):=by
 have hbw:Below w.heap.size w ((((w.alloc (.cells (zS v a F.length cc) 24))).alloc (.cells (zP c.s ta tc la lc) 57)).alloc (.cells #[.int .i64 0,.slice none 0 0] 24)):=by
  exact t34
 have HX:Hid (∀w',Below (((((w.alloc (.cells (zS v a F.length cc) 24))).alloc (.cells (zP c.s ta tc la lc) 57)).alloc (.cells #[.int .i64 0,.slice none 0 0] 24))).heap.size ((((w.alloc (.cells (zS v a F.length cc) 24))).alloc (.cells (zP c.s ta tc la lc) 57)).alloc (.cells #[.int .i64 0,.slice none 0 0] 24)) w'->Block w' w.heap.size 24 (zS v a F.length cc)/\Block w' (w.heap.size+1) 57 (zP c.s ta tc la lc)/\Block w' (w.heap.size+1+1) 24 [.int .i64 0,.slice none 0 0]/\Below w.heap.size w w'):=hid (fun w' hb=>by
  refine ⟨(((Block.new w _ _).alloc _).alloc _).later hb,Block.later (w:=((((w.alloc (.cells (zS v a F.length cc) 24))).alloc (.cells (zP c.s ta tc la lc) 57)).alloc (.cells #[.int .i64 0,.slice none 0 0] 24))) ?_ hb,Block.later (w:=((((w.alloc (.cells (zS v a F.length cc) 24))).alloc (.cells (zP c.s ta tc la lc) 57)).alloc (.cells #[.int .i64 0,.slice none 0 0] 24))) ?_ hb,hbw.trans (hb.mono (by simp;omega))⟩
  ·exact t30
  ·have:=Block.new (((w.alloc (.cells (zS v a F.length cc) 24))).alloc (.cells (zP c.s ta tc la lc) 57)) 24 [.int .i64 0,.slice none 0 0];simpa using this)
 have hmx:F.length<=maxLen:=by have:=hF.1;unfold maxLen;omega
 have cR:=aX v a cc F ((((w.alloc (.cells (zS v a F.length cc) 24))).alloc (.cells (zP c.s ta tc la lc) 57)).alloc (.cells #[.int .i64 0,.slice none 0 0] 24)) (h.below hbw) hmx;unfold Gives at cR;have n1:w.heap.size≠w.heap.size+1+1:=by omega
 have n2:w.heap.size+1≠w.heap.size+1+1:=by omega
 have cF:=fun (w':World) (hb:Below (((((w.alloc (.cells (zS v a F.length cc) 24))).alloc (.cells (zP c.s ta tc la lc) 57)).alloc (.cells #[.int .i64 0,.slice none 0 0] 24))).heap.size ((((w.alloc (.cells (zS v a F.length cc) 24))).alloc (.cells (zP c.s ta tc la lc) 57)).alloc (.cells #[.int .i64 0,.slice none 0 0] 24)) w')=>kJ c.s ta tc la lc w' ((hl.below hbw).below hb)
 unfold Gives at cF;have hf':=(sU _ _ _).1 hf;rw [decide_eq_true hf'.1] at cR;rw [decide_eq_true hf'.2] at cF;have hcl:c.L.length<=40:=by have:=gY hF c.s;rwa [<-hc] at this
 obtain ⟨hb4,hb6⟩:=yE hf hc;have cB:=fun (w':World) (hb:Below w.heap.size w w')=>jI v a cc F c hc ta tc la lc w' (h.below hb) (hF.below hb)
 have cK:=fun (fa:Option Addr) (fc:Nat) (w':World) (hfa:field.Fds w' fa c.L)=>check_any c ta tc la lc fa fc w' hfa hcl hb4
 unfold Gives at cK;have HIS:Hid ((prog.info? 57).map (·.size)=some ((zP c.s ta tc la lc):List Value).length):=hid tK;have HIF:Hid (∀(fa:Option Addr) (fc:Nat),(prog.info? 147).map (·.size)=some ((zH c ta tc la lc fa fc):List Value).length):=hid (fun _ _=>dH);have HIG:Hid (∀(fa:Option Addr) (fc:Nat),(prog.info? 147).map (·.size)=some ((zH c ta tc la lc fa fc):Array Value).size):=hid (fun _ _=>dH);have HON:Hid (∀(fa:Option Addr) (fc:Nat),((zH c ta tc la lc fa fc):Array Value).all (·.oneCell')=true):=hid (fun fa fc=>all_oneCell_toArray (by repeat (first | exact nX | refine lD rfl ?_)));have HTH:Hid (∀(fa:Option Addr) (fc:Nat) (W:World),(W.alloc (.cells zY 147)).there W.heap.size 0 ((zH c ta tc la lc fa fc):Array Value).size):=hid (fun fa fc W=>(Block.new W 147 zY).there 0 25 si_);obtain ⟨E,hE⟩:∃E,Hid (err c=E):=⟨_,rfl⟩;rw [hE.o] at h0 cK ⊢;have dE:(((E:Nat):Int) != 0)=true:=by simpa using h0
 unfold lH;clear hb4 hb6 hcl h hF hl hL hmx hbw hc hf hf' h0;go_enter func49,ntmps49;go_wp2_with (first
  | (go_at_call 48;((with_reducible refine cR.mono ?_);rintro e w1 ⟨rfl,hb1⟩;obtain ⟨k0,k1,k2,kb⟩:=HX.o _ hb1;have z0:=k0.cell 0;have z1:=k0.cell 1;have y0:=k1.cell 0;have y1:=k1.cell 1;have y2:=k1.cell 2;have y3:=k1.cell 3;have y4:=k1.cell 4;have y5:=k1.cell 5;have y6:=k1.cell 6;have y7:=k1.cell 7;have y8:=k1.cell 8;have y9:=k1.cell 9;have y10:=k1.cell 10;have y11:=k1.cell 11;have y12:=k1.cell 12;have y13:=k1.cell 13;have y14:=k1.cell 14;have y15:=k1.cell 15;have x0:=k2.cell 0;have x1:=k2.cell 1;have f0:=k2.frozen 0;have f1:=k2.frozen 1;have K2:=hid k2;have KB:=hid kb;clear k0 k1 k2 kb))
  | (go_at_call 91;((with_reducible refine (cF _ hb1).mono ?_);rintro e w2 ⟨rfl,hb2⟩;have hb1:=hb1.trans (hb2.mono hb1.size);obtain ⟨k0,k1,k2,kb⟩:=HX.o _ hb1;have z0:=k0.cell 0;have z1:=k0.cell 1;have y0:=k1.cell 0;have y1:=k1.cell 1;have y2:=k1.cell 2;have y3:=k1.cell 3;have y4:=k1.cell 4;have y5:=k1.cell 5;have y6:=k1.cell 6;have y7:=k1.cell 7;have y8:=k1.cell 8;have y9:=k1.cell 9;have y10:=k1.cell 10;have y11:=k1.cell 11;have y12:=k1.cell 12;have y13:=k1.cell 13;have y14:=k1.cell 14;have y15:=k1.cell 15;have x0:=k2.cell 0;have x1:=k2.cell 1;have f0:=k2.frozen 0;have f1:=k2.frozen 1;have K2:=hid k2;have KB:=hid kb;clear k0 k1 k2 kb))
  | (go_at_call 92;((with_reducible refine (cB _ KB.o).mono ?_);rintro e w3 ⟨fa,fc,rfl,hfa3,hb3⟩))
  | (with_reducible refine ah rfl 147 (.tmp 6) (.tmp 20) rfl w3.heap.size 0 (zH c ta tc la lc fa fc) rfl rfl (HTH.o _ _ _) (HIG.o _ _) (HON.o _ _) ?_))
 intro w4 hw4;have k6:Block w4 w3.heap.size 147 (zH c ta tc la lc fa fc):=by
  exact t49
 have hb34:Below w3.heap.size w3 w4:=by rw [<-hw4.o];exact below_setCells (ak w3 _) (Nat.le_refl _) _ _
 have hb4':=hb1.trans ((hb3.trans (hb34.mono hb3.size)).mono hb1.size);have hfa4:=hfa3.below hb34;have HB4:=hid hb4';have HRG6:Hid (∀w',Below w4.heap.size w4 w'->w'.rangeAt w3.heap.size 0 (zH c ta tc la lc fa fc)):=hid (fun w' hb=>(k6.later hb).whole);have HR4:=hid (HRG6.o w4 (Below.refl _ _));have HFA:=hid hfa4;have cK4:=cK fa fc w4 hfa4;clear hb1 hb3 hb34 hb4' hfa3 hfa4 k6 hw4 z0 z1 y0 y1 y2 y3 y4 y5 y6 y7 y8 y9 y10 y11 y12 y13 y14 y15 x0 x1 f0 f1 K2 KB cK cB cF cR;go_wp2_with (first
  | (with_reducible refine wpList_load_mid rfl 147 (.tmp 6) rfl w3.heap.size 0 rfl (zH c ta tc la lc fa fc) _ HR4.o underlying147 rfl (HIF.o _ _) ?_)
  | (go_at_call 93;((with_reducible refine cK4.mono ?_);rintro e w5 ⟨rfl,hbK⟩;have hb5:=HB4.o.trans (hbK.mono HB4.o.size);obtain ⟨k0,k1,k2,kb⟩:=HX.o _ hb5;have z0:=k0.cell 0;have z1:=k0.cell 1;have x0:=k2.cell 0;have x1:=k2.cell 1;have f0:=k2.frozen 0;have f1:=k2.frozen 1;have K2:=hid k2;have KB:=hid kb;have HR5:=hid (HRG6.o _ hbK);have HB5:=hid hb5;have HFA5:=hid (HFA.o.below hbK);have HLT:=hid k2.lt;clear k0 k1 k2 kb hb5 hbK)))
 have hB:=(K2.o.setCell 0 (.int .i64 0)).setCell 1 (.slice none 0 0)
 exact t19
theorem yH {B n:Nat} {w:World} {x:Option Addr} {xc:Nat} {G:List Fm} (h:w.ownsRow B 49 2 (.slice x n xc) n (fmV G)) (he:∀p∈G,oq B w p):FmL w x G:=⟨(tu h).1,fun p hp=>(he p hp).ok⟩
set_option maxRecDepth 20000 in
set_option maxHeartbeats 3200000 in
theorem J3 (v:Int) (a:Option Addr) (cc:Nat) (F:List Fm) (c:Ch) (hc:c=aC (forms F) c.s) (ta:Option Addr) (tc:Nat) (la:Option Addr) (lc:Nat) (w:World) (h:FmL w a F) (hF:Small w F) (hl:Lists w c.s ta la) (hL:c.s.l.length<=40) (hf:Fit v (forms F) c.s) (h0:err c=0) (h1:¬Right v (applied (forms F) c)):
  Calls prog 49 #[zS v a F.length cc,zP c.s ta tc la lc] w (lH (0,[],7) w):=by
 have hbw:Below w.heap.size w ((((w.alloc (.cells (zS v a F.length cc) 24))).alloc (.cells (zP c.s ta tc la lc) 57)).alloc (.cells #[.int .i64 0,.slice none 0 0] 24)):=by
  exact t34
 have HX:Hid (∀w',Below (((((w.alloc (.cells (zS v a F.length cc) 24))).alloc (.cells (zP c.s ta tc la lc) 57)).alloc (.cells #[.int .i64 0,.slice none 0 0] 24))).heap.size ((((w.alloc (.cells (zS v a F.length cc) 24))).alloc (.cells (zP c.s ta tc la lc) 57)).alloc (.cells #[.int .i64 0,.slice none 0 0] 24)) w'->Block w' w.heap.size 24 (zS v a F.length cc)/\Block w' (w.heap.size+1) 57 (zP c.s ta tc la lc)/\Block w' (w.heap.size+1+1) 24 [.int .i64 0,.slice none 0 0]/\Below w.heap.size w w'):=hid (fun w' hb=>by
  refine ⟨(((Block.new w _ _).alloc _).alloc _).later hb,Block.later (w:=((((w.alloc (.cells (zS v a F.length cc) 24))).alloc (.cells (zP c.s ta tc la lc) 57)).alloc (.cells #[.int .i64 0,.slice none 0 0] 24))) ?_ hb,Block.later (w:=((((w.alloc (.cells (zS v a F.length cc) 24))).alloc (.cells (zP c.s ta tc la lc) 57)).alloc (.cells #[.int .i64 0,.slice none 0 0] 24))) ?_ hb,hbw.trans (hb.mono (by simp;omega))⟩
  ·exact t30
  ·have:=Block.new (((w.alloc (.cells (zS v a F.length cc) 24))).alloc (.cells (zP c.s ta tc la lc) 57)) 24 [.int .i64 0,.slice none 0 0];simpa using this)
 have hmx:F.length<=maxLen:=by have:=hF.1;unfold maxLen;omega
 have cR:=aX v a cc F ((((w.alloc (.cells (zS v a F.length cc) 24))).alloc (.cells (zP c.s ta tc la lc) 57)).alloc (.cells #[.int .i64 0,.slice none 0 0] 24)) (h.below hbw) hmx;unfold Gives at cR;have n1:w.heap.size≠w.heap.size+1+1:=by omega
 have n2:w.heap.size+1≠w.heap.size+1+1:=by omega
 have cF:=fun (w':World) (hb:Below (((((w.alloc (.cells (zS v a F.length cc) 24))).alloc (.cells (zP c.s ta tc la lc) 57)).alloc (.cells #[.int .i64 0,.slice none 0 0] 24))).heap.size ((((w.alloc (.cells (zS v a F.length cc) 24))).alloc (.cells (zP c.s ta tc la lc) 57)).alloc (.cells #[.int .i64 0,.slice none 0 0] 24)) w')=>kJ c.s ta tc la lc w' ((hl.below hbw).below hb)
 unfold Gives at cF;have hf':=(sU _ _ _).1 hf;rw [decide_eq_true hf'.1] at cR;rw [decide_eq_true hf'.2] at cF;have hcl:c.L.length<=40:=by have:=gY hF c.s;rwa [<-hc] at this
 obtain ⟨hb4,hb6⟩:=yE hf hc;have cB:=fun (w':World) (hb:Below w.heap.size w w')=>jI v a cc F c hc ta tc la lc w' (h.below hb) (hF.below hb)
 have cK:=fun (fa:Option Addr) (fc:Nat) (w':World) (hfa:field.Fds w' fa c.L)=>check_any c ta tc la lc fa fc w' hfa hcl hb4
 unfold Gives at cK;have HIS:Hid ((prog.info? 57).map (·.size)=some ((zP c.s ta tc la lc):List Value).length):=hid tK;have HIF:Hid (∀(fa:Option Addr) (fc:Nat),(prog.info? 147).map (·.size)=some ((zH c ta tc la lc fa fc):List Value).length):=hid (fun _ _=>dH);have HIG:Hid (∀(fa:Option Addr) (fc:Nat),(prog.info? 147).map (·.size)=some ((zH c ta tc la lc fa fc):Array Value).size):=hid (fun _ _=>dH);have HON:Hid (∀(fa:Option Addr) (fc:Nat),((zH c ta tc la lc fa fc):Array Value).all (·.oneCell')=true):=hid (fun fa fc=>all_oneCell_toArray (by repeat (first | exact nX | refine lD rfl ?_)));have HTH:Hid (∀(fa:Option Addr) (fc:Nat) (W:World),(W.alloc (.cells zY 147)).there W.heap.size 0 ((zH c ta tc la lc fa fc):Array Value).size):=hid (fun fa fc W=>(Block.new W 147 zY).there 0 25 si_);have cA:=fun (fa:Option Addr) (fc:Nat) (w':World) (hb:Below w.heap.size w w') (hfa:field.Fds w' fa c.L)=>kC v a cc F c hc ta tc la lc fa fc w' (h.1.below hb) (hF.below hb) hf h0 (hl.l.below hb) hL hfa hcl
 unfold gm at cA;rw [h0] at cK;have dE:(((0:Nat):Int) != 0)=false:=by decide
 have HH1:=hid h1;have HF40:=hid hF.1;have HLN:Hid (∀G:List Fm,forms G=applied (forms F) c->G.length<=maxLen):=hid (fun G hG=>by
  have h2:=congrArg List.length hG;rw [aF] at h2;have h3:(applied (forms F) c).length<=F.length+1:=by
   exact t44
  have:=hF.1;unfold maxLen;omega)
 unfold lH;clear hb4 hb6 hcl h hF hl hL hmx hbw hc hf hf' h0 h1;go_enter func49,ntmps49;go_wp2_with (first
  | (go_at_call 48;((with_reducible refine cR.mono ?_);rintro e w1 ⟨rfl,hb1⟩;obtain ⟨k0,k1,k2,kb⟩:=HX.o _ hb1;have z0:=k0.cell 0;have z1:=k0.cell 1;have y0:=k1.cell 0;have y1:=k1.cell 1;have y2:=k1.cell 2;have y3:=k1.cell 3;have y4:=k1.cell 4;have y5:=k1.cell 5;have y6:=k1.cell 6;have y7:=k1.cell 7;have y8:=k1.cell 8;have y9:=k1.cell 9;have y10:=k1.cell 10;have y11:=k1.cell 11;have y12:=k1.cell 12;have y13:=k1.cell 13;have y14:=k1.cell 14;have y15:=k1.cell 15;have x0:=k2.cell 0;have x1:=k2.cell 1;have f0:=k2.frozen 0;have f1:=k2.frozen 1;have K2:=hid k2;have KB:=hid kb;clear k0 k1 k2 kb))
  | (go_at_call 91;((with_reducible refine (cF _ hb1).mono ?_);rintro e w2 ⟨rfl,hb2⟩;have hb1:=hb1.trans (hb2.mono hb1.size);obtain ⟨k0,k1,k2,kb⟩:=HX.o _ hb1;have z0:=k0.cell 0;have z1:=k0.cell 1;have y0:=k1.cell 0;have y1:=k1.cell 1;have y2:=k1.cell 2;have y3:=k1.cell 3;have y4:=k1.cell 4;have y5:=k1.cell 5;have y6:=k1.cell 6;have y7:=k1.cell 7;have y8:=k1.cell 8;have y9:=k1.cell 9;have y10:=k1.cell 10;have y11:=k1.cell 11;have y12:=k1.cell 12;have y13:=k1.cell 13;have y14:=k1.cell 14;have y15:=k1.cell 15;have x0:=k2.cell 0;have x1:=k2.cell 1;have f0:=k2.frozen 0;have f1:=k2.frozen 1;have K2:=hid k2;have KB:=hid kb;clear k0 k1 k2 kb))
  | (go_at_call 92;((with_reducible refine (cB _ KB.o).mono ?_);rintro e w3 ⟨fa,fc,rfl,hfa3,hb3⟩))
  | (with_reducible refine ah rfl 147 (.tmp 6) (.tmp 20) rfl w3.heap.size 0 (zH c ta tc la lc fa fc) rfl rfl (HTH.o _ _ _) (HIG.o _ _) (HON.o _ _) ?_))
 intro w4 hw4;have k6:Block w4 w3.heap.size 147 (zH c ta tc la lc fa fc):=by
  exact t49
 have hb34:Below w3.heap.size w3 w4:=by rw [<-hw4.o];exact below_setCells (ak w3 _) (Nat.le_refl _) _ _
 have hb4':=hb1.trans ((hb3.trans (hb34.mono hb3.size)).mono hb1.size);have hfa4:=hfa3.below hb34;have HB4:=hid hb4';have HRG6:Hid (∀w',Below w4.heap.size w4 w'->w'.rangeAt w3.heap.size 0 (zH c ta tc la lc fa fc)):=hid (fun w' hb=>(k6.later hb).whole);have HR4:=hid (HRG6.o w4 (Below.refl _ _));have HFA:=hid hfa4;have cK4:=cK fa fc w4 hfa4;clear hb1 hb3 hb34 hb4' hfa3 hfa4 k6 hw4 z0 z1 y0 y1 y2 y3 y4 y5 y6 y7 y8 y9 y10 y11 y12 y13 y14 y15 x0 x1 f0 f1 K2 KB cK cB cF cR;go_wp2_with (first
  | (with_reducible refine wpList_load_mid rfl 147 (.tmp 6) rfl w3.heap.size 0 rfl (zH c ta tc la lc fa fc) _ HR4.o underlying147 rfl (HIF.o _ _) ?_)
  | (go_at_call 93;((with_reducible refine cK4.mono ?_);rintro e w5 ⟨rfl,hbK⟩;have hb5:=HB4.o.trans (hbK.mono HB4.o.size);obtain ⟨k0,k1,k2,kb⟩:=HX.o _ hb5;have z0:=k0.cell 0;have z1:=k0.cell 1;have x0:=k2.cell 0;have x1:=k2.cell 1;have f0:=k2.frozen 0;have f1:=k2.frozen 1;have K2:=hid k2;have KB:=hid kb;have HR5:=hid (HRG6.o _ hbK);have HB5:=hid hb5;have HFA5:=hid (HFA.o.below hbK);have HLT:=hid k2.lt;clear k0 k1 k2 kb hb5 hbK))
  | (with_reducible refine wpList_load_mid rfl 147 (.tmp 6) rfl w3.heap.size 0 rfl (zH c ta tc la lc fa fc) _ HR5.o underlying147 rfl (HIF.o _ _) ?_)
  | (go_at_call 94;((with_reducible refine (cA fa fc _ KB.o HFA5.o).mono ?_);rintro e w6 ⟨u,G,rfl,hou,heach,heq,hb6⟩;obtain ⟨x,xc,rfl,hxc⟩:=aA hou;have HL6:=hid (yH hou heach);have HOU:=hid hou;have HEA:=hid heach;have HEQ:=hid heq;have HB6:=hid hb6;clear hou heach heq hb6))
  | (go_at_call 48;(have cR2:=aX v x xc G (w6.alloc (.cells (zS v x G.length xc) 24)) (HL6.o.below (ak w6 _)) (HLN.o G HEQ.o));unfold Gives at cR2;rw [HEQ.o,decide_eq_false HH1.o] at cR2;((with_reducible refine cR2.mono ?_);rintro e w7 ⟨rfl,hb7⟩;have hb67:=(ak w6 (.cells (zS v x G.length xc) 24)).trans (hb7.mono (ak w6 (.cells (zS v x G.length xc) 24)).size);have hb57:=HB6.o.trans (hb67.mono HB6.o.size);have hb:=HB5.o.trans (hb57.mono HB5.o.size);obtain ⟨k0,k1,k2,kb⟩:=HX.o _ hb;have x0:=k2.cell 0;have x1:=k2.cell 1;have f0:=k2.frozen 0;have f1:=k2.frozen 1;have K2:=hid k2;have KB:=hid kb;have k8:=(Block.new w6 24 (zS v x G.length xc)).later hb7;have v0:=k8.cell 0;have v1:=k8.cell 1;have HOU7:=hid (ai HOU.o hb67);have HEA7:=hid (fun p hp=>ai (HEA.o p hp) hb67);clear hb67 hb57 hb hb7 k0 k1 k2 kb k8)))
 have hB:=(K2.o.setCell 0 (.int .i64 0)).setCell 1 (.slice none 0 0)
 exact t19
set_option maxRecDepth 20000 in
set_option maxHeartbeats 3200000 in
theorem Ky (v:Int) (a:Option Addr) (cc:Nat) (F:List Fm) (c:Ch) (hc:c=aC (forms F) c.s) (ta:Option Addr) (tc:Nat) (la:Option Addr) (lc:Nat) (w:World) (h:FmL w a F) (hF:Small w F) (hl:Lists w c.s ta la) (hL:c.s.l.length<=40) (hf:Fit v (forms F) c.s) (h0:err c=0) (h1:Right v (applied (forms F) c)):
  Calls prog 49 #[zS v a F.length cc,zP c.s ta tc la lc] w (lH (v,applied (forms F) c,0) w):=by
 have hbw:Below w.heap.size w ((((w.alloc (.cells (zS v a F.length cc) 24))).alloc (.cells (zP c.s ta tc la lc) 57)).alloc (.cells #[.int .i64 0,.slice none 0 0] 24)):=by
  exact t34
 have HX:Hid (∀w',Below (((((w.alloc (.cells (zS v a F.length cc) 24))).alloc (.cells (zP c.s ta tc la lc) 57)).alloc (.cells #[.int .i64 0,.slice none 0 0] 24))).heap.size ((((w.alloc (.cells (zS v a F.length cc) 24))).alloc (.cells (zP c.s ta tc la lc) 57)).alloc (.cells #[.int .i64 0,.slice none 0 0] 24)) w'->Block w' w.heap.size 24 (zS v a F.length cc)/\Block w' (w.heap.size+1) 57 (zP c.s ta tc la lc)/\Block w' (w.heap.size+1+1) 24 [.int .i64 0,.slice none 0 0]/\Below w.heap.size w w'):=hid (fun w' hb=>by
  refine ⟨(((Block.new w _ _).alloc _).alloc _).later hb,Block.later (w:=((((w.alloc (.cells (zS v a F.length cc) 24))).alloc (.cells (zP c.s ta tc la lc) 57)).alloc (.cells #[.int .i64 0,.slice none 0 0] 24))) ?_ hb,Block.later (w:=((((w.alloc (.cells (zS v a F.length cc) 24))).alloc (.cells (zP c.s ta tc la lc) 57)).alloc (.cells #[.int .i64 0,.slice none 0 0] 24))) ?_ hb,hbw.trans (hb.mono (by simp;omega))⟩
  ·exact t30
  ·have:=Block.new (((w.alloc (.cells (zS v a F.length cc) 24))).alloc (.cells (zP c.s ta tc la lc) 57)) 24 [.int .i64 0,.slice none 0 0];simpa using this)
 have hmx:F.length<=maxLen:=by have:=hF.1;unfold maxLen;omega
 have cR:=aX v a cc F ((((w.alloc (.cells (zS v a F.length cc) 24))).alloc (.cells (zP c.s ta tc la lc) 57)).alloc (.cells #[.int .i64 0,.slice none 0 0] 24)) (h.below hbw) hmx;unfold Gives at cR;have n1:w.heap.size≠w.heap.size+1+1:=by omega
 have n2:w.heap.size+1≠w.heap.size+1+1:=by omega
 have cF:=fun (w':World) (hb:Below (((((w.alloc (.cells (zS v a F.length cc) 24))).alloc (.cells (zP c.s ta tc la lc) 57)).alloc (.cells #[.int .i64 0,.slice none 0 0] 24))).heap.size ((((w.alloc (.cells (zS v a F.length cc) 24))).alloc (.cells (zP c.s ta tc la lc) 57)).alloc (.cells #[.int .i64 0,.slice none 0 0] 24)) w')=>kJ c.s ta tc la lc w' ((hl.below hbw).below hb)
 unfold Gives at cF;have hf':=(sU _ _ _).1 hf;rw [decide_eq_true hf'.1] at cR;rw [decide_eq_true hf'.2] at cF;have hcl:c.L.length<=40:=by have:=gY hF c.s;rwa [<-hc] at this
 obtain ⟨hb4,hb6⟩:=yE hf hc;have cB:=fun (w':World) (hb:Below w.heap.size w w')=>jI v a cc F c hc ta tc la lc w' (h.below hb) (hF.below hb)
 have cK:=fun (fa:Option Addr) (fc:Nat) (w':World) (hfa:field.Fds w' fa c.L)=>check_any c ta tc la lc fa fc w' hfa hcl hb4
 unfold Gives at cK;have HIS:Hid ((prog.info? 57).map (·.size)=some ((zP c.s ta tc la lc):List Value).length):=hid tK;have HIF:Hid (∀(fa:Option Addr) (fc:Nat),(prog.info? 147).map (·.size)=some ((zH c ta tc la lc fa fc):List Value).length):=hid (fun _ _=>dH);have HIG:Hid (∀(fa:Option Addr) (fc:Nat),(prog.info? 147).map (·.size)=some ((zH c ta tc la lc fa fc):Array Value).size):=hid (fun _ _=>dH);have HON:Hid (∀(fa:Option Addr) (fc:Nat),((zH c ta tc la lc fa fc):Array Value).all (·.oneCell')=true):=hid (fun fa fc=>all_oneCell_toArray (by repeat (first | exact nX | refine lD rfl ?_)));have HTH:Hid (∀(fa:Option Addr) (fc:Nat) (W:World),(W.alloc (.cells zY 147)).there W.heap.size 0 ((zH c ta tc la lc fa fc):Array Value).size):=hid (fun fa fc W=>(Block.new W 147 zY).there 0 25 si_);have cA:=fun (fa:Option Addr) (fc:Nat) (w':World) (hb:Below w.heap.size w w') (hfa:field.Fds w' fa c.L)=>kC v a cc F c hc ta tc la lc fa fc w' (h.1.below hb) (hF.below hb) hf h0 (hl.l.below hb) hL hfa hcl
 unfold gm at cA;rw [h0] at cK;have dE:(((0:Nat):Int) != 0)=false:=by decide
 have HH1:=hid h1;have HF40:=hid hF.1;have HLN:Hid (∀G:List Fm,forms G=applied (forms F) c->G.length<=maxLen):=hid (fun G hG=>by
  have h2:=congrArg List.length hG;rw [aF] at h2;have h3:(applied (forms F) c).length<=F.length+1:=by
   exact t44
  have:=hF.1;unfold maxLen;omega)
 unfold lH;clear hb4 hb6 hcl h hF hl hL hmx hbw hc hf hf' h0 h1;go_enter func49,ntmps49;go_wp2_with (first
  | (go_at_call 48;((with_reducible refine cR.mono ?_);rintro e w1 ⟨rfl,hb1⟩;obtain ⟨k0,k1,k2,kb⟩:=HX.o _ hb1;have z0:=k0.cell 0;have z1:=k0.cell 1;have y0:=k1.cell 0;have y1:=k1.cell 1;have y2:=k1.cell 2;have y3:=k1.cell 3;have y4:=k1.cell 4;have y5:=k1.cell 5;have y6:=k1.cell 6;have y7:=k1.cell 7;have y8:=k1.cell 8;have y9:=k1.cell 9;have y10:=k1.cell 10;have y11:=k1.cell 11;have y12:=k1.cell 12;have y13:=k1.cell 13;have y14:=k1.cell 14;have y15:=k1.cell 15;have x0:=k2.cell 0;have x1:=k2.cell 1;have f0:=k2.frozen 0;have f1:=k2.frozen 1;have K2:=hid k2;have KB:=hid kb;clear k0 k1 k2 kb))
  | (go_at_call 91;((with_reducible refine (cF _ hb1).mono ?_);rintro e w2 ⟨rfl,hb2⟩;have hb1:=hb1.trans (hb2.mono hb1.size);obtain ⟨k0,k1,k2,kb⟩:=HX.o _ hb1;have z0:=k0.cell 0;have z1:=k0.cell 1;have y0:=k1.cell 0;have y1:=k1.cell 1;have y2:=k1.cell 2;have y3:=k1.cell 3;have y4:=k1.cell 4;have y5:=k1.cell 5;have y6:=k1.cell 6;have y7:=k1.cell 7;have y8:=k1.cell 8;have y9:=k1.cell 9;have y10:=k1.cell 10;have y11:=k1.cell 11;have y12:=k1.cell 12;have y13:=k1.cell 13;have y14:=k1.cell 14;have y15:=k1.cell 15;have x0:=k2.cell 0;have x1:=k2.cell 1;have f0:=k2.frozen 0;have f1:=k2.frozen 1;have K2:=hid k2;have KB:=hid kb;clear k0 k1 k2 kb))
  | (go_at_call 92;((with_reducible refine (cB _ KB.o).mono ?_);rintro e w3 ⟨fa,fc,rfl,hfa3,hb3⟩))
  | (with_reducible refine ah rfl 147 (.tmp 6) (.tmp 20) rfl w3.heap.size 0 (zH c ta tc la lc fa fc) rfl rfl (HTH.o _ _ _) (HIG.o _ _) (HON.o _ _) ?_))
 intro w4 hw4;have k6:Block w4 w3.heap.size 147 (zH c ta tc la lc fa fc):=by
  exact t49
 have hb34:Below w3.heap.size w3 w4:=by rw [<-hw4.o];exact below_setCells (ak w3 _) (Nat.le_refl _) _ _
 have hb4':=hb1.trans ((hb3.trans (hb34.mono hb3.size)).mono hb1.size);have hfa4:=hfa3.below hb34;have HB4:=hid hb4';have HRG6:Hid (∀w',Below w4.heap.size w4 w'->w'.rangeAt w3.heap.size 0 (zH c ta tc la lc fa fc)):=hid (fun w' hb=>(k6.later hb).whole);have HR4:=hid (HRG6.o w4 (Below.refl _ _));have HFA:=hid hfa4;have cK4:=cK fa fc w4 hfa4;clear hb1 hb3 hb34 hb4' hfa3 hfa4 k6 hw4 z0 z1 y0 y1 y2 y3 y4 y5 y6 y7 y8 y9 y10 y11 y12 y13 y14 y15 x0 x1 f0 f1 K2 KB cK cB cF cR;go_wp2_with (first
  | (with_reducible refine wpList_load_mid rfl 147 (.tmp 6) rfl w3.heap.size 0 rfl (zH c ta tc la lc fa fc) _ HR4.o underlying147 rfl (HIF.o _ _) ?_)
  | (go_at_call 93;((with_reducible refine cK4.mono ?_);rintro e w5 ⟨rfl,hbK⟩;have hb5:=HB4.o.trans (hbK.mono HB4.o.size);obtain ⟨k0,k1,k2,kb⟩:=HX.o _ hb5;have z0:=k0.cell 0;have z1:=k0.cell 1;have x0:=k2.cell 0;have x1:=k2.cell 1;have f0:=k2.frozen 0;have f1:=k2.frozen 1;have K2:=hid k2;have KB:=hid kb;have HR5:=hid (HRG6.o _ hbK);have HB5:=hid hb5;have HFA5:=hid (HFA.o.below hbK);have HLT:=hid k2.lt;clear k0 k1 k2 kb hb5 hbK))
  | (with_reducible refine wpList_load_mid rfl 147 (.tmp 6) rfl w3.heap.size 0 rfl (zH c ta tc la lc fa fc) _ HR5.o underlying147 rfl (HIF.o _ _) ?_)
  | (go_at_call 94;((with_reducible refine (cA fa fc _ KB.o HFA5.o).mono ?_);rintro e w6 ⟨u,G,rfl,hou,heach,heq,hb6⟩;obtain ⟨x,xc,rfl,hxc⟩:=aA hou;have HL6:=hid (yH hou heach);have HOU:=hid hou;have HEA:=hid heach;have HEQ:=hid heq;have HB6:=hid hb6;clear hou heach heq hb6))
  | (go_at_call 48;(have cR2:=aX v x xc G (w6.alloc (.cells (zS v x G.length xc) 24)) (HL6.o.below (ak w6 _)) (HLN.o G HEQ.o));unfold Gives at cR2;rw [HEQ.o,decide_eq_true HH1.o] at cR2;((with_reducible refine cR2.mono ?_);rintro e w7 ⟨rfl,hb7⟩;have hb67:=(ak w6 (.cells (zS v x G.length xc) 24)).trans (hb7.mono (ak w6 (.cells (zS v x G.length xc) 24)).size);have hb57:=HB6.o.trans (hb67.mono HB6.o.size);have hb:=HB5.o.trans (hb57.mono HB5.o.size);obtain ⟨k0,k1,k2,kb⟩:=HX.o _ hb;have x0:=k2.cell 0;have x1:=k2.cell 1;have f0:=k2.frozen 0;have f1:=k2.frozen 1;have K2:=hid k2;have KB:=hid kb;have k8:=(Block.new w6 24 (zS v x G.length xc)).later hb7;have v0:=k8.cell 0;have v1:=k8.cell 1;have HOU7:=hid (ai HOU.o hb67);have HEA7:=hid (fun p hp=>ai (HEA.o p hp) hb67);clear hb67 hb57 hb hb7 k0 k1 k2 kb k8)))
 have hB:=(K2.o.setCell 0 (.int .i64 v)).setCell 1 (.slice x G.length xc);refine bodyPost_ret (ay (b:=w.heap.size+1+1) (o:=0) rfl rfl hB.whole underlying24 rfl (fV _ _)) rfl ?_;exact ⟨x,xc,G,rfl,yH (aT (aT HOU7.o HLT.o) HLT.o) (fun p hp=>aT (aT (HEA7.o p hp) HLT.o) HLT.o),HEQ.o,⟨fun y hy=>by have:=Dc HOU7.o y hy;have:=HLT.o;omega,fun p hp y hy=>by have:=Dc (HEA7.o p hp) y hy;have:=HLT.o;omega⟩,below_setCells (below_setCells KB.o om_ 0 [_]) om_ 1 [_]⟩
end typing
end Go.Proofs.YtogkgbnpodojjaaGreat
