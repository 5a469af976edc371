/- Contracts and lemmas that claims of this seat share: TurnApplied. Each says its own conditions. -/
import Derived.Test.YtogkgbnpodojjaaGreatCmWord
import Derived.Test.YtogkgbnpodojjaaGreatCmE
import Derived.Test.YtogkgbnpodojjaaGreatCmJ
import Derived.Test.YtogkgbnpodojjaaGreatCmC
import Derived.Test.YtogkgbnpodojjaaGreatCmAD
import Derived.Test.YtogkgbnpodojjaaGreatCmAG
import Derived.Test.YtogkgbnpodojjaaGreatCmAK
import Derived.Test.YtogkgbnpodojjaaGreatCmAH
set_option linter.unusedVariables false
namespace Go.Proofs.YtogkgbnpodojjaaGreat
open Go.Proofs.Tryz
theorem t18{P:Prop}(h:P:=by
 obtain ⟨hR9,ho9,hb9⟩:=HEND.o;rw [show _=wR from hwR.o] at hR9 ho9 hb9;go_wp2;refine bodyPost_ret (aI (b:=w.heap.size+1+1+1) (o:=0) rfl rfl hR9.whole underlying108 rfl aU.o) rfl ?_;exact ⟨x1,c1,rfl,ho9.low om_,hb9⟩):P:=h
theorem t15{P:Prop}(h:P:=by
 have HIS:Hid ((prog.info? 108).map (·.size)=some (#[.int .i64 j,.slice (some ⟨g,0,none⟩) r1.length c,.bool false,.bool false,.string ⟨#[]⟩]:Array Value).size):=hid aU.o;clear hz hth hend HA;clear hset hg4 hgl hx1;go_wp2_with (first | (with_reducible refine ah rfl 108 (.tmp 6) (.tmp 141) rfl (w.heap.size+1+1+1) 0 #[.int .i64 j,.slice (some ⟨g,0,none⟩) r1.length c,.bool false,.bool false,.string ⟨#[]⟩] rfl rfl HTH.o HIS.o (by simp [Value.oneCell']) ?_));intro wR hwR;obtain ⟨hR9,ho9,hb9⟩:=HEND.o;rw [show _=wR from hwR.o] at hR9 ho9 hb9;go_wp2;refine bodyPost_ret (aI (b:=w.heap.size+1+1+1) (o:=0) rfl rfl hR9.whole underlying108 rfl aU.o) rfl ?_;exact ⟨_,_,rfl,ho9.low om_,hb9⟩):P:=h
namespace turn
open Go Go.RowKit schema typing
open record (vaC vaV)
open field (Va Gives ak sZ qI)
open step (Sp Lists va0 fd0)
set_option maxRecDepth 20000 in
set_option maxHeartbeats 16000000 in
theorem DX (k:Nat) (y:Va) (i:Int) (fa:Option Addr) (fc:Nat) (L:List field.Fd) (s:Sp) (ta:Option Addr) (tc:Nat) (la:Option Addr) (lc:Nat) (j:Int) (b:Option Addr) (d:Nat) (V:List Va) (w:World) (hf:field.Fds w fa L) (hl:Lists w s ta la) (hv:field.Vas w b V) (C:Can s L V k y):
  Calls prog 101 #[zS i fa L.length fc,zP s ta tc la lc,zS j b V.length d] w (wJ j (fwd s k V) false (decide (s.op=2)) (if s.op=2 then strOf ((L.getD k fd0).bZ y) else ⟨#[]⟩) w):=by
 obtain ⟨W4,hW4,hbw,hsz,hBX⟩:=aS w [(49,zS i fa L.length fc),(57,zP s ta tc la lc),(66,zS j b V.length d),(108,[.int .i64 0,.slice none 0 0,.bool false,.bool false,.string ⟨#[]⟩])];simp only [boxes] at hW4;have cC:=gB j b d V W4 (hv.below hbw) (by have:=C.len;have:=C.l8;omega);have cA:=fun W (hb:Below W4.heap.size W4 W)=>oN i fa fc L s.fd W (hf.below (hbw.trans (hb.mono hbw.size))) (by have:=C.l8;unfold maxLen;omega)
 rw [<-hW4.o] at cC;have h10:(s.op == 10)=false:=by have:=C.op.2;have h0:¬s.op=10:=om_;simpa using h0
 have HC:=hid C;have HF:=hid hf;have HL:=hid hl;unfold DV at cC;unfold Gives at cA;obtain ⟨r1,hr1⟩:∃r,Hid (fwd s k V=r):=⟨_,hid rfl⟩;obtain ⟨r2,hr2⟩:∃r,Hid (decide (s.op=2)=r):=⟨_,hid rfl⟩;obtain ⟨r3,hr3⟩:∃r,Hid ((if s.op=2 then strOf ((L.getD k fd0).bZ y) else ⟨#[]⟩)=r):=⟨_,hid rfl⟩;rw [hr1.o,hr2.o,hr3.o];unfold wJ;clear hf hl hv C hbw;go_enter func101,ntmps101;go_wp2_with (first
  | (go_at_call 100;((with_reducible refine cC.mono ?_);rintro e w1 ⟨x,c,rfl,ho1,hb1⟩;rw [hW4.o] at ho1 hb1;have HO1:=hid ho1;have HB1:=hid hb1;clear ho1 hb1)))
 obtain ⟨W5,hW5⟩:∃q,Hid (w1.alloc (.cells #[.int .i64 j,.slice x V.length c,.bool false,.bool false,.string ⟨#[]⟩] 108)=q):=⟨_,hid rfl⟩;rw [hW5.o];have hb5:Below W4.heap.size W4 W5:=by rw [<-hW5.o];exact HB1.o.trans ((ak w1 _).mono HB1.o.size)
 have hD5:Block W5 w1.heap.size 108 [.int .i64 j,.slice x V.length c,.bool false,.bool false,.string ⟨#[]⟩]:=by rw [<-hW5.o];exact Block.new w1 _ _
 have hO5:Own W4.heap.size W5 (.slice x V.length c) V:=by rw [<-hW5.o];exact HO1.o.later (ak w1 _)
 have hbd:Below W5.heap.size W5 W5.drew:=aJ (Below.refl _ _);have hb5d:=hb5.trans (hbd.mono hb5.size);obtain ⟨⟨k0,k1,k2,k3,_⟩,hbw5⟩:=hBX.o W5.drew hb5d;have d1:=(hD5.later hbd).cell 1;have f0:=k0.cell 0;have f1:=k0.cell 1;have s2:=k1.cell 2;have cA5:=cA W5.drew hb5d;have HB5:=hid hb5d;have HD5:=hid (hD5.later hbd);have HO5:=hid (hO5.later hbd);clear hb5 hD5 hO5 hbd hb5d k0 k1 k2 k3 hbw5 cA HO1;go_region_held3 (fun w'=>w'.cell? ⟨w1.heap.size,1,none⟩=some (.slice x V.length c)/\w'.cell? ⟨w.heap.size,0,none⟩=some (.int .i64 i)/\w'.cell? ⟨w.heap.size,1,none⟩=some (.slice fa L.length fc)/\w'.cell? ⟨w.heap.size+1,2,none⟩=some (.int .i64 s.fd)) (first | assumption | go_keep) (first
  | (go_at_call 141;(with_reducible refine cA5.mono ?_);rintro e w6 ⟨rfl,hb6⟩;have HD6:=hid (HD5.o.later hb6);have d1:=HD6.o.cell 1;obtain ⟨⟨k0,k1,k2,k3,_⟩,hbw6⟩:=hBX.o w6 (HB5.o.trans (hb6.mono HB5.o.size));have f0:=k0.cell 0;have f1:=k0.cell 1;have s0:=k1.cell 0;have s2:=k1.cell 2))
 have hsz4:W4.heap.size=w.heap.size+4:=hsz.o;have HAP:Hid (Ap w1.heap.size i fa fc L s ta tc la lc j false ⟨#[]⟩ (.slice x V.length c) V w w6):=hid ⟨k0,k1,k3,⟨_,HD6.o⟩,(HO5.o.later hb6).low om_,hbw6,by have:=HB1.o.size;omega⟩;clear k0 k1 k2 k3 hbw6 HD6 HO5 HD5 HB5 cA5 d1 f0 f1 s2 hb6 hsz4;go_wp2_with (first
  | (with_reducible refine plan.halt 3 3 38 (.int .i64 1) rfl ?_))
 obtain ⟨D,hD⟩:∃q,Hid (w1.heap.size=q):=⟨_,hid rfl⟩;rw [hD.o] at HAP ⊢;have HN:Hid (V.length<=8):=hid (by have:=HC.o.len;have:=HC.o.l8;omega);clear hD hW5 HB1 hsz hBX hW4 s0 h10;have hcase:s.op=1\/s.op=2\/s.op=4\/s.op=5\/s.op=6\/s.op=7\/(s.op≠1/\s.op≠2/\s.op≠4/\s.op≠5/\s.op≠6/\s.op≠7):=by omega
 rcases hcase with e | e | e | e | e | e | e
 ·have hU:fwd s k V=_:=KW e;rw [hr1.o] at hU;have HU:=hid hU;clear hU;have d1:(s.op == 1)=true:=by simp [e]
  obtain rfl:false=r2:=by rw [<-hr2.o];simp [e]
  obtain rfl:(⟨#[]⟩:ByteArray)=r3:=by rw [<-hr3.o,if_neg om_]
  have hst:=HAP.o.step;have s3:=hst.cell 3;have s12:=hst.cell 12;have s13:=hst.cell 13;have hpl:=HC.o.c1 e;have hp:((s.pl.toNat:Nat):Int)=s.pl:=by omega
  have hN:=ak w6 (.cells (zV s.v) 54);have cI:=qi (i:=s.pl.toNat) (g:=w6.heap.size) (HAP.o.row.later hN) (by have:=HAP.o.res.lt;have:=hN.size;omega) s.v (by have:=HC.o.len;omega) (Block.new w6 54 (vaC s.v)) (fun q=>by have:=(HAP.o.row.at' q).2;omega) (by have:=HN.o;omega);rw [hp] at cI;unfold Turns at cI;clear hst hpl hp hN e;refine hid ?_;go_wp2_with (first
   | (go_at_call 160;((with_reducible refine cI.mono ?_);rintro e w8 ⟨v8,rfl,ho8,hg8⟩;rw [<-HU.o] at ho8;obtain ⟨x1,c1,rfl,_,_⟩:=ho8.slice;have HA:=hid ((HAP.o.later (ak w6 _)).turn hg8 ho8);obtain ⟨⟨z,hz⟩,hth,hend⟩:=HA.o.end';have e0:=hz.cell 0;have e1:=hz.cell 1;have e2:=hz.cell 2;have e3:=hz.cell 3;have e4:=hz.cell 4;have g1:=hz.frozen 1;have HEND:=hid (hend [.int .i64 j,.slice x1 r1.length c1,.bool false,.bool false,.string ⟨#[]⟩] rfl);have HTH:Hid ((w8.setCell ⟨D,1,none⟩ (.slice x1 r1.length c1)).there (w.heap.size+1+1+1) 0 (#[.int .i64 j,.slice x1 r1.length c1,.bool false,.bool false,.string ⟨#[]⟩]:Array Value).size):=hid hth;have HIS:Hid ((prog.info? 108).map (·.size)=some (#[.int .i64 j,.slice x1 r1.length c1,.bool false,.bool false,.string ⟨#[]⟩]:Array Value).size):=hid aU.o;clear hz hth hend HA))
   | (with_reducible refine ah rfl 108 (.tmp 6) (.tmp 141) rfl (w.heap.size+1+1+1) 0 #[.int .i64 j,.slice x1 r1.length c1,.bool false,.bool false,.string ⟨#[]⟩] rfl rfl HTH.o HIS.o (by simp [Value.oneCell']) ?_))
  intro wR hwR
  exact t18
 ·have hU:=KX HC.o e;rw [hr1.o] at hU;have HU:=hid hU;clear hU;have d1:(s.op == 1)=false:=by simp [e]
  have d2:(s.op == 2)=true:=by simp [e]
  obtain rfl:true=r2:=by rw [<-hr2.o];simp [e]
  obtain ⟨hk,hkl⟩:=HC.o.at' om_;have hkv:=HC.o.lt om_;have i1:(k:Int)<V.length:=by omega
  rw [hk] at ⊢;obtain ⟨g,cap,hu,c0,c1,z0,hg4,hgl,hset⟩:=HAP.o.set hkv y HC.o.y'.symm;obtain ⟨rfl, -,rfl⟩:=Value.slice.inj hu;have hbd:Below w6.heap.size w6 w6.drew:=aJ (Below.refl _ _);have HA6:=hid (HAP.o.later hbd);have f1:=HA6.o.form.cell 1;obtain ⟨fb,off,f,rfl,hfb,hfk,q0,q1,q2,q3,q4⟩:=eP HF.o HA6.o.below hkl;have HFW:=hid (HF.o.below HA6.o.below);have hfg:L.getD k fd0=f:=by rw [List.getD_eq_getElem?_getD,hfk];rfl
  obtain rfl:strOf (f.bZ y)=r3:=by rw [<-hr3.o,if_pos e,hfg]
  have cL:=sZ f y w6.drew;unfold qI at cL;have i2:(k:Int)<L.length:=by omega
  have b0:w6.drew.cell? ⟨g,k*2,none⟩=some (.int .i64 y.n):=c0;have b1:w6.drew.cell? ⟨g,k*2+1,none⟩=some (.string y.s):=c1;have HGL:=hid hgl;have HFB:=hid hfb;have HK:=hid hkv;clear e hset hfk hfg hk hr3 hu hg4 hgl hfb hbd;refine hid ?_;go_wp2;go_region_held3 (fun w'=>w'.cell? ⟨fb,off+k*5,none⟩=some (.int .i64 f.id)/\w'.cell? ⟨fb,off+k*5+1,none⟩=some (.int .i64 f.kind)/\w'.cell? ⟨fb,off+k*5+2,none⟩=some (.int .i64 f.lo)/\w'.cell? ⟨fb,off+k*5+3,none⟩=some (.int .i64 f.hi)/\w'.cell? ⟨fb,off+k*5+4,none⟩=some (.int .i64 f.most)/\w'.cell? ⟨w.heap.size,1,none⟩=some (.slice (some ⟨fb,off,none⟩) L.length fc)/\w'.cell? ⟨g,k*2,none⟩=some (.int .i64 y.n)/\w'.cell? ⟨g,k*2+1,none⟩=some (.string y.s)) (first | assumption | go_keep) (first
   | (go_at_call 127;(with_reducible refine cL.mono ?_);rintro e w7 ⟨v7,rfl,ho7,hb7⟩;obtain ⟨x2,c2,rfl,hx2⟩:=aA ho7;have HA7:=hid (HA6.o.later hb7);have f1:=HA7.o.form.cell 1;have q0:=(hb7.cell (p:=⟨fb,off+k*5,none⟩) HFB.o).trans q0;have q1:=(hb7.cell (p:=⟨fb,off+k*5+1,none⟩) HFB.o).trans q1;have q2:=(hb7.cell (p:=⟨fb,off+k*5+2,none⟩) HFB.o).trans q2;have q3:=(hb7.cell (p:=⟨fb,off+k*5+3,none⟩) HFB.o).trans q3;have q4:=(hb7.cell (p:=⟨fb,off+k*5+4,none⟩) HFB.o).trans q4;have b0:=(hb7.cell (p:=⟨g,k*2,none⟩) HGL.o).trans b0;have b1:=(hb7.cell (p:=⟨g,k*2+1,none⟩) HGL.o).trans b1))
  have HR7:Hid (Reads .u8 w7 x2 (f.bZ y).length (f.bZ y)):=hid (Reads.own (xs:=f.bZ y) ho7);obtain ⟨z7,hz7⟩:=HA7.o.done;have e3:=hz7.cell 3;have g3:=hz7.frozen 3;have e4:=hz7.cell 4;have g4:=hz7.frozen 4;have hc0:(convert 91 9 (.slice x2 (f.bZ y).length c2)).run prog w7.drew=.ok (.string (strOf (f.bZ y))) w7.drew:=(HR7.o.below (aJ (Below.refl _ _))).str (P:=prog) 91 5 underlying91 underlying5 c2 9 underlying9;have hDl:D<w6.drew.heap.size:=by obtain ⟨z6,hz6⟩:=HA6.o.done;exact hz6.lt
  have hc1:(convert 91 9 (.slice x2 (f.bZ y).length c2)).run prog ((w7.setCell ⟨D,3,none⟩ (.bool true)).drew)=.ok (.string (strOf (f.bZ y))) ((w7.setCell ⟨D,3,none⟩ (.bool true)).drew):=((Reads.own (xs:=f.bZ y) (ownsRow_setCell_below (a:=⟨D,3,none⟩) ho7 hDl (.bool true))).below (aJ (Below.refl _ _))).str (P:=prog) 91 5 underlying91 underlying5 c2 9 underlying9;clear hz7 hDl;go_wp2;go_region;obtain ⟨W8,hW8⟩:∃q,Hid (((w7.setCell ⟨D,3,none⟩ (.bool true)).setCell ⟨D,4,none⟩ (.string (strOf (f.bZ y)))).drew=q):=⟨_,hid rfl⟩;rw [hW8.o];have HA8:=(HA7.o.lose (lost':=strOf (f.bZ y))).named (aJ (Below.refl _ _)) hW8;have cD:=nP HA8.o.row HK.o (by have:=HN.o;omega);unfold KI at cD;clear hc0 hc1 e3 e4 g3 g4 q0 q1 q2 q3 q4 b0 b1 f1 HR7 hW8 HA7;have hk8:(k:Int)<=8:=by have:=HN.o;omega
  go_wp2_with (first
   | (go_at_call 161;((with_reducible refine cD.mono ?_);rintro e w8 ⟨v8,rfl,ho8,hg8,_⟩;rw [<-HU.o] at ho8;obtain ⟨x1,c1,rfl,_,_⟩:=ho8.slice;have HA:=hid (HA8.o.turn hg8 ho8);obtain ⟨⟨z,hz⟩,hth,hend⟩:=HA.o.end';have e0:=hz.cell 0;have e1:=hz.cell 1;have e2:=hz.cell 2;have e3:=hz.cell 3;have e4:=hz.cell 4;have g1:=hz.frozen 1;have HEND:=hid (hend [.int .i64 j,.slice x1 r1.length c1,.bool false,.bool true,.string (strOf (f.bZ y))] rfl);have HTH:Hid ((w8.setCell ⟨D,1,none⟩ (.slice x1 r1.length c1)).there (w.heap.size+1+1+1) 0 (#[.int .i64 j,.slice x1 r1.length c1,.bool false,.bool true,.string (strOf (f.bZ y))]:Array Value).size):=hid hth;have HIS:Hid ((prog.info? 108).map (·.size)=some (#[.int .i64 j,.slice x1 r1.length c1,.bool false,.bool true,.string (strOf (f.bZ y))]:Array Value).size):=hid aU.o;clear hz hth hend HA))
   | (with_reducible refine ah rfl 108 (.tmp 6) (.tmp 141) rfl (w.heap.size+1+1+1) 0 #[.int .i64 j,.slice x1 r1.length c1,.bool false,.bool true,.string (strOf (f.bZ y))] rfl rfl HTH.o HIS.o (by simp [Value.oneCell']) ?_))
  intro wR hwR
  exact t18
 ·have hU:=KY HC.o e;rw [hr1.o] at hU;have HU:=hid hU;clear hU;have d1:(s.op == 1)=false:=by simp [e]
  have d2:(s.op == 2)=false:=by simp [e]
  have d4:(s.op == 4)=true:=by simp [e]
  obtain rfl:false=r2:=by rw [<-hr2.o];simp [e]
  obtain rfl:(⟨#[]⟩:ByteArray)=r3:=by rw [<-hr3.o,if_neg om_]
  obtain ⟨hk,hkl⟩:=HC.o.at' om_;have hkv:=HC.o.lt om_;have i1:(k:Int)<V.length:=by omega
  rw [hk] at ⊢;obtain ⟨g,cap,hu,c0,c1,z0,hg4,hgl,hset⟩:=HAP.o.set hkv y HC.o.y'.symm;obtain ⟨rfl, -,rfl⟩:=Value.slice.inj hu;have hst:=HAP.o.step;have s5:=hst.cell 5;have s6:=hst.cell 6;obtain ⟨hy,hb1,hb2,hb3⟩:=HC.o.c4 e;have m1:=kN (a:=s.a) hb1.1 hb1.2;have w1':IntKind.i64.wrap (s.a*y.n)=s.a*y.n:=IntWalk.i64_in _ om_;have w2':IntKind.i64.wrap (s.a*y.n+s.b)=s.a*y.n+s.b:=IntWalk.i64_in _ om_;have HS2:Hid (V.set k ⟨s.a*y.n+s.b,y.s⟩=r1):=hid (by rw [HU.o,hy];rfl);have HKV:=hid hkv;clear e hst hset hk hkl hkv hu hy hb1 hb2 hb3 m1 hg4 hgl;refine hid ?_;go_wp2;refine tail.region 15 kr_ kr_ ?_;simp only [List.take_succ_cons,List.take_zero,List.drop_succ_cons,List.drop_zero];repeat (go_big_quiet_step (fail))
  refine wpQuiet_nil ?_;rintro _ ⟨nq,rfl⟩;obtain ⟨w7,hW7⟩:∃q,Hid (w6.drewN nq=q):=⟨_,hid rfl⟩;rw [hW7.o];have HA7:=HAP.o.named (below_drewN (Below.refl _ _) nq) hW7;obtain ⟨g2,cap2,hu2,c0,c1,z0,hg4,hgl,hset⟩:=HA7.o.set HKV.o _ rfl;obtain ⟨hg2, -, -⟩:=Value.slice.inj hu2;cases hg2
  clear hu2;have HA:=hid (hset (s.a*y.n+s.b));rw [<-HC.o.y',HS2.o] at HA;obtain ⟨x1,c1,hx1,_,_⟩:=HA.o.row.slice;obtain ⟨rfl,hrl,rfl⟩:=Value.slice.inj hx1;rw [hrl] at HA;obtain ⟨⟨z,hz⟩,hth,hend⟩:=HA.o.end';have hgd:g≠D:=by have:=own_ne HA7.o.row HA7.o.done.choose_spec vd;intro q;exact this (by rw [<-q];rfl)
  have hdg:=hgd.symm;clear hz z;obtain ⟨z,hz⟩:=HA7.o.done;have e0:=hz.cell 0;have e1:=hz.cell 1;have e2:=hz.cell 2;have e3:=hz.cell 3;have e4:=hz.cell 4;have g1:=hz.frozen 1;have HEND:=hid (hend [.int .i64 j,.slice (some ⟨g,0,none⟩) r1.length c,.bool false,.bool false,.string ⟨#[]⟩] rfl);have HTH:Hid (((w7.setCell ⟨g,k*2,none⟩ (.int .i64 (s.a*y.n+s.b))).setCell ⟨D,1,none⟩ (.slice (some ⟨g,0,none⟩) r1.length c)).there (w.heap.size+1+1+1) 0 (#[.int .i64 j,.slice (some ⟨g,0,none⟩) r1.length c,.bool false,.bool false,.string ⟨#[]⟩]:Array Value).size):=hid hth
  exact t15
 ·have hU:=KZ HC.o e;rw [hr1.o] at hU;have HU:=hid hU;clear hU;have d1:(s.op == 1)=false:=by simp [e]
  have d2:(s.op == 2)=false:=by simp [e]
  have d4:(s.op == 4)=false:=by simp [e]
  have d5:(s.op == 5)=true:=by simp [e]
  obtain rfl:false=r2:=by rw [<-hr2.o];simp [e]
  obtain rfl:(⟨#[]⟩:ByteArray)=r3:=by rw [<-hr3.o,if_neg om_]
  obtain ⟨hk,hkl⟩:=HC.o.at' om_;have hkv:=HC.o.lt om_;have i1:(k:Int)<V.length:=by omega
  rw [hk] at ⊢;obtain ⟨g,cap,hu,c0,c1,z0,hg4,hgl,hset⟩:=HAP.o.set hkv y HC.o.y'.symm;obtain ⟨rfl, -,rfl⟩:=Value.slice.inj hu;have hst:=HAP.o.step;have s14:=hst.cell 14;obtain ⟨hy,hb1,hb2⟩:=HC.o.c5 e;obtain ⟨m,hm⟩:∃m:Nat,y.n=(m:Int):=⟨y.n.toNat,by omega⟩;rw [hm] at c0;obtain ⟨tb,tO,p,rfl,htb,hp,q0⟩:=(HL.o.t.below HAP.o.below).at (i:=m) om_;have i2:(m:Int)<s.t.length:=by omega
  have HS2:Hid (V.set k ⟨p,y.s⟩=r1):=hid (by rw [HU.o,hy,hm];unfold vn;simp [List.getD_eq_getElem?_getD,hp]);have HKV:=hid hkv;clear e hst hset hk hkl hkv hu hy hb1 hb2 hm hp htb hg4 hgl;refine hid ?_;go_wp2;refine tail.region 13 kr_ kr_ ?_;simp only [List.take_succ_cons,List.take_zero,List.drop_succ_cons,List.drop_zero];repeat (go_big_quiet_step (fail))
  refine wpQuiet_nil ?_;rintro _ ⟨nq,rfl⟩;obtain ⟨w7,hW7⟩:∃q,Hid (w6.drewN nq=q):=⟨_,hid rfl⟩;rw [hW7.o];have HA7:=HAP.o.named (below_drewN (Below.refl _ _) nq) hW7;obtain ⟨g2,cap2,hu2,c0,c1,z0,hg4,hgl,hset⟩:=HA7.o.set HKV.o _ rfl;obtain ⟨hg2, -, -⟩:=Value.slice.inj hu2;cases hg2
  clear hu2;have HA:=hid (hset (p));rw [<-HC.o.y',HS2.o] at HA;obtain ⟨x1,c1,hx1,_,_⟩:=HA.o.row.slice;obtain ⟨rfl,hrl,rfl⟩:=Value.slice.inj hx1;rw [hrl] at HA;obtain ⟨⟨z,hz⟩,hth,hend⟩:=HA.o.end';have hgd:g≠D:=by have:=own_ne HA7.o.row HA7.o.done.choose_spec vd;intro q;exact this (by rw [<-q];rfl)
  have hdg:=hgd.symm;clear hz z;obtain ⟨z,hz⟩:=HA7.o.done;have e0:=hz.cell 0;have e1:=hz.cell 1;have e2:=hz.cell 2;have e3:=hz.cell 3;have e4:=hz.cell 4;have g1:=hz.frozen 1;have HEND:=hid (hend [.int .i64 j,.slice (some ⟨g,0,none⟩) r1.length c,.bool false,.bool false,.string ⟨#[]⟩] rfl);have HTH:Hid (((w7.setCell ⟨g,k*2,none⟩ (.int .i64 (p))).setCell ⟨D,1,none⟩ (.slice (some ⟨g,0,none⟩) r1.length c)).there (w.heap.size+1+1+1) 0 (#[.int .i64 j,.slice (some ⟨g,0,none⟩) r1.length c,.bool false,.bool false,.string ⟨#[]⟩]:Array Value).size):=hid hth
  exact t15
 ·have hU:=L6 HC.o e;rw [hr1.o] at hU;have HU:=hid hU;clear hU;have d1:(s.op == 1)=false:=by simp [e]
  have d2:(s.op == 2)=false:=by simp [e]
  have d4:(s.op == 4)=false:=by simp [e]
  have d5:(s.op == 5)=false:=by simp [e]
  have d6:(s.op == 6)=true:=by simp [e]
  obtain rfl:false=r2:=by rw [<-hr2.o];simp [e]
  obtain rfl:(⟨#[]⟩:ByteArray)=r3:=by rw [<-hr3.o,if_neg om_]
  obtain ⟨hk,hkl⟩:=HC.o.at' om_;have hkv:=HC.o.lt om_;have i1:(k:Int)<V.length:=by omega
  rw [hk] at ⊢;obtain ⟨g,cap,hu,c0,c1,z0,hg4,hgl,hset⟩:=HAP.o.set hkv y HC.o.y'.symm;obtain ⟨rfl, -,rfl⟩:=Value.slice.inj hu;have hst:=HAP.o.step;have s5:=hst.cell 5;obtain ⟨hy,hb1,hb2⟩:=HC.o.c6 e;have ha0:¬s.a=0:=by omega
  have t1:=Int.tdiv_nonneg (a:=y.n) (b:=s.a) hb1.1 om_;have t2:=Int.tdiv_le_self (a:=y.n) s.a hb1.1;have h64:IntKind.i64.wrap (y.n.tdiv s.a)=y.n.tdiv s.a:=IntWalk.i64_in _ om_;have h65:wrap64 (y.n.tdiv s.a)=y.n.tdiv s.a:=by unfold wrap64;omega
  clear t1 t2;have HKV:=hid hkv;have hbd:Below w6.heap.size w6 w6.drew:=aJ (Below.refl _ _);have HA6:=hid (HAP.o.later hbd);have HY:=hid hy;have HB1:=hid hb1;have HB2:=hid hb2;clear e hst hset hk hkl hkv hu hg4 hgl hbd hy hb1 hb2;refine hid ?_;go_wp2;go_region_held3 (fun w'=>w'.cell? ⟨g,k*2,none⟩=some (.int .i64 y.n)/\w'.cell? ⟨w.heap.size+1,5,none⟩=some (.int .i64 s.a)) (first | assumption | go_keep) (first | fail);obtain ⟨w8,hW8⟩:∃q,Hid ((w6.alloc (.cells #[.int .i64 (y.n.tmod s.a),.string ⟨#[]⟩] 54)).drew=q):=⟨_,hid rfl⟩;rw [hW8.o];have hbn:=aJ (ak w6 (.cells #[.int .i64 (y.n.tmod s.a),.string ⟨#[]⟩] 54));have HA8:=HAP.o.named hbn hW8;have HBX:Hid (Block w8 w6.heap.size 54 [.int .i64 (y.n.tmod s.a),.string ⟨#[]⟩]):=hid (by rw [<-hW8.o];exact (Block.new w6 _ _).drewN 1);have hg6:g≠w6.heap.size:=by have:=(HAP.o.row.at' (g:=g) rfl).2;omega
  have hg6':=hg6.symm;obtain ⟨g1,cap1,hu1,c0,c1,z0, -⟩:=HA8.o.set HKV.o y HC.o.y'.symm;obtain ⟨hg1, -, -⟩:=Value.slice.inj hu1;cases hg1
  have s5:=HA8.o.step.cell 5;clear hu1 hbn hW8;go_wp2;refine tail.region 10 kr_ kr_ ?_;simp only [List.take_succ_cons,List.take_zero,List.drop_succ_cons,List.drop_zero];repeat (go_big_quiet_step (fail))
  refine wpQuiet_nil ?_;rintro _ ⟨nq,rfl⟩;obtain ⟨w7,hW7⟩:∃q,Hid (w8.drewN nq=q):=⟨_,hid rfl⟩;rw [hW7.o];have HA7:=HA8.o.named (below_drewN (Below.refl _ _) nq) hW7;obtain ⟨g2,cap2,hu2,c0,c1,z0,hg4,hgl,hset⟩:=HA7.o.set HKV.o _ rfl;obtain ⟨hg2, -, -⟩:=Value.slice.inj hu2;cases hg2
  clear hu2;have HBX7:Hid (Block w7 w6.heap.size 54 [.int .i64 (y.n.tmod s.a),.string ⟨#[]⟩]):=hid (by rw [<-hW7.o];exact HBX.o.drewN nq);have b0:=HBX7.o.cell 0;have b1:=HBX7.o.cell 1;have HS:=hid (hset (y.n.tdiv s.a));rw [<-HC.o.y'] at HS;have hN:=ak (w7.setCell ⟨g,k*2,none⟩ (.int .i64 (y.n.tdiv s.a))) (.cells #[.int .i64 (y.n.tmod s.a),.string ⟨#[]⟩] 54);have HS2:Hid (iQ (V.set k ⟨y.n.tdiv s.a,y.s⟩) (k+1) (vn (y.n.tmod s.a))=r1):=hid (by rw [HU.o];congr 2;rw [HY.o];rfl);have hB7:Block ((w7.setCell ⟨g,k*2,none⟩ (.int .i64 (y.n.tdiv s.a))).alloc (.cells #[.int .i64 (y.n.tmod s.a),.string ⟨#[]⟩] 54)) w7.heap.size 54 (vaC (vn (y.n.tmod s.a))):=by have:=Block.new (w7.setCell ⟨g,k*2,none⟩ (.int .i64 (y.n.tdiv s.a))) 54 [.int .i64 (y.n.tmod s.a),.string ⟨#[]⟩];rw [World.size_setCell] at this;exact this
  have cI:=qi (i:=k+1) (g:=w7.heap.size) (HS.o.row.later hN) (by have:=HS.o.res.lt;have:=hN.size;omega) (vn (y.n.tmod s.a)) (by have:=HKV.o;simp;omega) hB7 (by intro q;have:=(HA7.o.row.at' q).2;omega) (by have:=HN.o;simp;omega);have hp:((k+1:Nat):Int)=(k:Int)+1:=by omega
  rw [hp,HS2.o] at cI;unfold Turns at cI;have hk8:(k:Int)<=8:=by have:=HKV.o;have:=HN.o;omega
  clear hset hg4 hgl hN hB7 hp HBX HBX7 hW7;go_wp2_with (first
   | (go_at_call 160;((with_reducible refine cI.mono ?_);rintro e w9 ⟨v9,rfl,ho9,hg9⟩;obtain ⟨x1,c1,rfl,_,_⟩:=ho9.slice;have HA:=hid ((HS.o.later (ak (w7.setCell ⟨g,k*2,none⟩ (.int .i64 (y.n.tdiv s.a))) (.cells #[.int .i64 (y.n.tmod s.a),.string ⟨#[]⟩] 54))).turn hg9 ho9);obtain ⟨⟨z,hz⟩,hth,hend⟩:=HA.o.end';have e0:=hz.cell 0;have e1:=hz.cell 1;have e2:=hz.cell 2;have e3:=hz.cell 3;have e4:=hz.cell 4;have g1:=hz.frozen 1;have HEND:=hid (hend [.int .i64 j,.slice x1 r1.length c1,.bool false,.bool false,.string ⟨#[]⟩] rfl);have HTH:Hid ((w9.setCell ⟨D,1,none⟩ (.slice x1 r1.length c1)).there (w.heap.size+1+1+1) 0 (#[.int .i64 j,.slice x1 r1.length c1,.bool false,.bool false,.string ⟨#[]⟩]:Array Value).size):=hid hth;have HIS:Hid ((prog.info? 108).map (·.size)=some (#[.int .i64 j,.slice x1 r1.length c1,.bool false,.bool false,.string ⟨#[]⟩]:Array Value).size):=hid aU.o;clear hz hth hend HA))
   | (with_reducible refine ah rfl 108 (.tmp 6) (.tmp 141) rfl (w.heap.size+1+1+1) 0 #[.int .i64 j,.slice x1 r1.length c1,.bool false,.bool false,.string ⟨#[]⟩] rfl rfl HTH.o HIS.o (by simp [Value.oneCell']) ?_))
  intro wR hwR
  exact t18
 ·have hU:=L8 HC.o e;rw [hr1.o] at hU;have HU:=hid hU;clear hU;have d1:(s.op == 1)=false:=by simp [e]
  have d2:(s.op == 2)=false:=by simp [e]
  have d4:(s.op == 4)=false:=by simp [e]
  have d5:(s.op == 5)=false:=by simp [e]
  have d6:(s.op == 6)=false:=by simp [e]
  have d7:(s.op == 7)=true:=by simp [e]
  obtain rfl:false=r2:=by rw [<-hr2.o];simp [e]
  obtain rfl:(⟨#[]⟩:ByteArray)=r3:=by rw [<-hr3.o,if_neg om_]
  obtain ⟨hk,hkl⟩:=HC.o.at' om_;have hkv:=HC.o.lt om_;have i1:(k:Int)<V.length:=by omega
  rw [hk] at ⊢;have hst:=HAP.o.step;have s3:=hst.cell 3;have hpl:=HC.o.c7 e;have hp:((s.pl.toNat:Nat):Int)=s.pl:=by omega
  have cM:=xI HAP.o.row (by have:=HAP.o.res.lt;omega) hkv (i:=s.pl.toNat) (by have:=HC.o.len;omega) (by have:=HN.o;omega);rw [hp,<-HC.o.y'] at cM;unfold Turns at cM;clear e hst hpl hp hk hkl hkv;refine hid ?_;go_wp2_with (first
   | (go_at_call 162;((with_reducible refine cM.mono ?_);rintro e w8 ⟨v8,rfl,ho8,hg8⟩;rw [<-HU.o] at ho8;obtain ⟨x1,c1,rfl,_,_⟩:=ho8.slice;have HA:=hid (HAP.o.turn hg8 ho8);obtain ⟨⟨z,hz⟩,hth,hend⟩:=HA.o.end';have e0:=hz.cell 0;have e1:=hz.cell 1;have e2:=hz.cell 2;have e3:=hz.cell 3;have e4:=hz.cell 4;have g1:=hz.frozen 1;have HEND:=hid (hend [.int .i64 j,.slice x1 r1.length c1,.bool false,.bool false,.string ⟨#[]⟩] rfl);have HTH:Hid ((w8.setCell ⟨D,1,none⟩ (.slice x1 r1.length c1)).there (w.heap.size+1+1+1) 0 (#[.int .i64 j,.slice x1 r1.length c1,.bool false,.bool false,.string ⟨#[]⟩]:Array Value).size):=hid hth;have HIS:Hid ((prog.info? 108).map (·.size)=some (#[.int .i64 j,.slice x1 r1.length c1,.bool false,.bool false,.string ⟨#[]⟩]:Array Value).size):=hid aU.o;clear hz hth hend HA))
   | (with_reducible refine ah rfl 108 (.tmp 6) (.tmp 141) rfl (w.heap.size+1+1+1) 0 #[.int .i64 j,.slice x1 r1.length c1,.bool false,.bool false,.string ⟨#[]⟩] rfl rfl HTH.o HIS.o (by simp [Value.oneCell']) ?_))
  intro wR hwR
  exact t18
 ·have hU:=KU HC.o (by have:=HC.o.op;omega);rw [hr1.o] at hU;have HU:=hid hU;clear hU;have d1:(s.op == 1)=false:=by simp [e]
  have d2:(s.op == 2)=false:=by simp [e]
  have d4:(s.op == 4)=false:=by simp [e]
  have d5:(s.op == 5)=false:=by simp [e]
  have d6:(s.op == 6)=false:=by simp [e]
  have d7:(s.op == 7)=false:=by simp [e]
  obtain rfl:false=r2:=by rw [<-hr2.o];simp [e]
  obtain rfl:(⟨#[]⟩:ByteArray)=r3:=by rw [<-hr3.o,if_neg om_]
  obtain rfl:r1=V:=HU.o;have HA:=HAP;obtain ⟨⟨z,hz⟩,hth,hend⟩:=HA.o.end';have e0:=hz.cell 0;have e1:=hz.cell 1;have e2:=hz.cell 2;have e3:=hz.cell 3;have e4:=hz.cell 4;have g1:=hz.frozen 1;have HEND:=hid (hend [.int .i64 j,.slice x r1.length c,.bool false,.bool false,.string ⟨#[]⟩] rfl);have HTH:Hid ((w6.setCell ⟨D,1,none⟩ (.slice x r1.length c)).there (w.heap.size+1+1+1) 0 (#[.int .i64 j,.slice x r1.length c,.bool false,.bool false,.string ⟨#[]⟩]:Array Value).size):=hid hth;have HIS:Hid ((prog.info? 108).map (·.size)=some (#[.int .i64 j,.slice x r1.length c,.bool false,.bool false,.string ⟨#[]⟩]:Array Value).size):=hid aU.o;clear hz hth hend HA;clear e;refine hid ?_;go_wp2_with (first | (with_reducible refine ah rfl 108 (.tmp 6) (.tmp 141) rfl (w.heap.size+1+1+1) 0 #[.int .i64 j,.slice x r1.length c,.bool false,.bool false,.string ⟨#[]⟩] rfl rfl HTH.o HIS.o (by simp [Value.oneCell']) ?_));intro wR hwR;obtain ⟨hR9,ho9,hb9⟩:=HEND.o;rw [show _=wR from hwR.o] at hR9 ho9 hb9;go_wp2;refine bodyPost_ret (aI (b:=w.heap.size+1+1+1) (o:=0) rfl rfl hR9.whole underlying108 rfl aU.o) rfl ?_;exact ⟨x,c,rfl,ho9.low om_,hb9⟩
end turn
end Go.Proofs.YtogkgbnpodojjaaGreat
