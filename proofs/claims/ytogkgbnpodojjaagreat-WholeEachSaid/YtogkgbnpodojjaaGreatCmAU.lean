/- Contracts and lemmas that claims of this seat share: WholeUndone, WholeBack. Each says its own conditions. -/
import Derived.Test.YtogkgbnpodojjaaGreatCmWord
import Derived.Test.YtogkgbnpodojjaaGreatCmAN
import Derived.Test.YtogkgbnpodojjaaGreatCmAO
import Derived.Test.YtogkgbnpodojjaaGreatCmAQ
import Derived.Test.YtogkgbnpodojjaaGreatCmAK
import Derived.Test.YtogkgbnpodojjaaGreatCmAS
import Derived.Test.YtogkgbnpodojjaaGreatCmAT
set_option linter.unusedVariables false
namespace Go.Proofs.YtogkgbnpodojjaaGreat
open Go.Proofs.Tryz
namespace whole
open Go Go.RowKit schema typing turn
open field (Va ak)
open step (Sp Lists)
open item (It Its)
theorem BB {S:List It} (h:∀p∈S,p.data.size<=64) (k:Nat):(item.data (item.find k S)).size<=64:=by
 unfold item.data;cases hf:item.find k S with
 | none=>exact Nat.zero_le _
 | some p=>exact h p (List.mem_of_find?_eq_some hf)
set_option maxRecDepth 20000 in
set_option maxHeartbeats 6400000 in
theorem jY (v:Int) (a:Option Addr) (cc:Nat) (F:List Fm) (s:Sp) (ta:Option Addr) (tc:Nat) (la:Option Addr) (lc:Nat) (n:Nat) (ea:Option Addr) (ec:Nat) (E:List En) (sa:Option Addr) (sc:Nat) (S:List It) (w:World) (h:FmL w a F) (hF:Small w F) (hl:Lists w s ta la) (hL:s.l.length<=40) (ht:s.t.length<=1000000)
  (hE:Lie 3 enC w ea E) (hER:∀x∈E,EnR w x) (hS:Its w sa S) (hn:E.length+S.length<=1000000) (hn9:n<=199) (hsz:∀p∈S,p.data.size<=64/\p.key<4294967296) (hso:Sorted S) (h0:(on v (forms F) s).2.2=0) (hEO:pG (on v (forms F) s).2.1 (E.map En.p)) (hnd:((E.map En.p).map (·.1)).Nodup) (hfm:∀p∈S,told p.key=(n:Int)->s.fm=aK p.key):
  Calls prog 43 #[zS v a F.length cc,zP s ta tc la lc,.int .i64 (n:Int),.slice ea E.length ec,.slice sa S.length sc] w (pF (undoneE v (forms F) s n S (E.map En.p)) (undone v (forms F) s n S (E.map En.p)) w):=by
 have hml:(E.length:Int)<=1000000:=by omega
 obtain ⟨W0,hW0,bW0,hs0,hB0⟩:=aS w [(24,zS v a F.length cc),(57,zP s ta tc la lc)];simp only [boxes] at hW0;have HARG:Hid (∀w',Below w.heap.size w w'->FmL w' a F/\Small w' F/\Lists w' s ta la/\Its w' sa S/\Lie 3 enC w' ea E/\∀x∈E,EnR w' x):=hid fun w' hb=>⟨h.below hb,hF.below hb,hl.below hb,hS.below hb,hE.below hb,fun x hx=>(hER x hx).below hb⟩
 have HIS:=A7 s ta tc la lc;have HBW:=hid bW0;have hRG:=(jw h0).2.2.1;have HSPN:Hid (∀x∈E,x.key<16777216/\x.key % 16777216 / 65536<=200/\x.V.length<=8):=hid fun x hx=>by
  obtain ⟨h1,h2⟩:=hEO _ (List.mem_map_of_mem hx);obtain ⟨_,h3,h4⟩:=qO hRG h2;unfold aK at h3;refine ⟨h1, ?_,h4⟩;have:(x.p.1:Nat)=x.key:=rfl;rw [this] at h3;omega
 have HBJ:Hid (∀x:En,(backI v (forms F) s n S x.p).2.2=0->(backI v (forms F) s n S x.p).1=aK x.key):=hid fun x q=>by
  have:=JI q;exact congrArg (·.1) this
 have hd64:=BB (fun p hp=>(hsz p hp).1);have cB:=fun (x:En) (hx:x∈E) (W:World) (hb:Below w.heap.size w W)=>pJ v a cc F s ta tc la lc (aK x.key) x.a x.c x.V (item.data (item.find (bJ n x.key) S)) (item.find (bJ n x.key) S).isSome W (HARG.o W hb).1 (HARG.o W hb).2.1 (HARG.o W hb).2.2.1 hL ((HARG.o W hb).2.2.2.2.2 x hx) (by have:=(HSPN.o x hx).2.2;omega) (by have:=hd64 (bJ n x.key);unfold maxLen;omega) ht
 have HCB:=hid cB;have cR:=fun (h10:s.op=10) (W:World) (hb:Below w.heap.size w W)=>uZ v a cc F s ta tc la lc n sa sc S W (HARG.o W hb).1 (HARG.o W hb).2.1 (HARG.o W hb).2.2.1 hL (HARG.o W hb).2.2.2.1 om_ hsz h0 h10 hfm
 have HCR:=hid cR;have HSO:=hid hso;have HND:Hid (undoneE v (forms F) s n S (E.map En.p)=0->s.op=10->((fU v (forms F) s n S (E.map En.p)++regained v (forms F) s n S).map (·.1)).Nodup):=hid fun q h10=>by
  have hlt:∀e∈E.map En.p,e.1<16777216:=fun e he=>(hEO e he).1
  have k:=(mG (F:=forms F) (v:=v) hso hnd q hfm hlt).1;unfold undone at k;rw [if_pos h10] at k;exact (((jy _).map _).nodup_iff).1 k
 have HN:=hid hn;have HN9:=hid hn9;clear h hF hl hL ht hE hER hS hsz hso h0 hEO hnd hfm bW0 hRG hd64 cB cR hn hn9;go_enter func43,ntmps43;go_wp2;rw [hW0.o];go_loopw [12,23] (fun u m wr=>∃(k:Nat) (X:List En),k<=E.length/\m=.int .i64 (k:Int)/\Hid (Gath 68 3 enC (EnO w.heap.size) W0 X u wr)/\Hid (X.map En.p=fU v (forms F) s n S ((E.take k).map En.p))/\Hid (∀e∈(E.take k).map En.p,(backI v (forms F) s n S e).2.2=0)) (fun _ m _=>E.length - (intOf m).toNat);case atStart=>exact ⟨0,[],Nat.zero_le _,rfl,hid (Gath.nil W0),hid rfl,hid (fun p hp=>by simp at hp)⟩
 case round=>
  obtain ⟨k,X,hk,rfl,HX,HXP,HOK⟩:=hrel;obtain ⟨ua,uc,rfl,huL,_⟩:=HX.o.form jD om_;have hbw:=HX.o.low;obtain ⟨⟨_,j1,_⟩,hb0⟩:=hB0.o _ hbw;have HBR:=hid hbw;by_cases hlt:k<E.length
  ·obtain ⟨b,off,x,rfl,hbl,hp,c0,c1,c2⟩:=FT (HARG.o _ hb0).2.2.2.2.1 (Below.refl _ _) hlt;have i1:(k:Int)<E.length:=by omega
   have hm:=List.mem_of_getElem? hp;obtain ⟨hx1,hx2,hx3⟩:=HSPN.o x hm;obtain ⟨W5,hW5,bW5,hs5,hB5⟩:=aS wr [(68,[.int .u32 (x.key:Nat),.int .i64 (aK x.key),.slice x.a x.V.length x.c])];simp only [boxes] at hW5;have cS:=jU n x.key W5 HN9.o om_ hx2;unfold Gives at cS;rw [<-hW5.o] at cS;have cFd:=fun (W:World) (hb:Below w.heap.size w W)=>G8 sa sc S (bJ n x.key) W (HARG.o W hb).2.2.2.1 (by have:=HN.o;omega) HSO.o
   unfold item.Finds at cFd;have cB:=HCB.o x hm;obtain ⟨T,hT⟩:∃T,backI v (forms F) s n S x.p=T:=⟨_,rfl⟩;have hTB:backR v (forms F) s (aK x.key) x.V (item.data (item.find (bJ n x.key) S)) (item.find (bJ n x.key) S).isSome=T:=hT;have hTJ:=HBJ.o x;simp only [hTB] at cB;simp only [hT] at hTJ;obtain ⟨T1,T2,T3⟩:=T;unfold ku at cB;simp only at cB hTJ;have hB5w:Below W0.heap.size W0 W5:=hbw.trans (bW5.mono hbw.size);have HX5:=hid (HX.o.later bW5);have HB5w:=hid hB5w;have HP:=hid hp;have HT:=hid hT;obtain ⟨xk,xa,xc,xV⟩:=x;simp only at *;generalize item.data (item.find (bJ n xk) S)=lost at *;generalize (item.find (bJ n xk) S).isSome=has at *;generalize bJ n xk=sk at *;obtain ⟨fk,hfk⟩:∃fk,aK xk=fk:=⟨_,rfl⟩;have HFK:=hid hfk;rw [hfk] at hB5 hTJ cB c1 cS hW5;clear hp hbw hb0 hT hTB hm hx1 hx2 hx3 hB5w hfk j1 huL;by_cases hEr:T3=0
   ·subst hEr;have HT1:Hid (T1=fk):=hid (hTJ rfl);clear hTJ;go_wp2_with (first
     | (with_reducible refine wpList_load_mid rfl 57 (.tmp 6) rfl (w.heap.size+1) 0 rfl (zP s ta tc la lc) _ HRG.o underlying57 rfl HIS.o ?_)
     | (go_at_call 56;((with_reducible refine cS.mono ?_);rintro e w6 ⟨rfl,hb6⟩;rw [hW5.o] at hb6;have hb36:=HB5w.o.trans (hb6.mono HB5w.o.size);obtain ⟨_,hb06⟩:=hB0.o _ hb36;have cF6:=cFd _ hb06;have HB56:=hid hb6;clear hb06 hb36 hb6))
     | (go_at_call 75;((with_reducible refine cF6.mono ?_);rintro e w7 ⟨rfl,hb7⟩;have hb57:=HB56.o.trans (hb7.mono HB56.o.size);have hb37:=HB5w.o.trans (hb57.mono HB5w.o.size);obtain ⟨⟨k0,k1,_⟩,hb07⟩:=hB0.o _ hb37;have x0:=k0.cell 0;have x1:=k0.cell 1;have HRG:=hid k1.whole;obtain ⟨⟨k5,_⟩,_⟩:=hB5.o _ hb57;have y0:=k5.cell 0;have y1:=k5.cell 1;have y2:=k5.cell 2;have cB7:=cB _ hb07;have HB57:=hid hb57;clear k0 k1 k5 hb07 hb37 hb57 hb7))
     | (go_at_call 76;((with_reducible refine cB7.mono ?_);rintro e w9 ⟨x9,c9,rfl,ho9,hb9⟩;have hb59:=HB57.o.trans (hb9.mono HB57.o.size);have hN9:=ak w9 (.cells (zS T1 x9 T2.length c9) 66);have xB:=hb59.trans (hN9.mono hb59.size);have hO9:Own W5.heap.size (w9.alloc (.cells (zS T1 x9 T2.length c9) 66)) (.slice x9 T2.length c9) T2:=ai (aW ho9 HB57.o.size) hN9;obtain ⟨⟨k5,_⟩,_⟩:=hB5.o _ xB;have y0:=k5.cell 0;have q0:=(Block.new w9 66 (zS T1 x9 T2.length c9)).cell 0;have q1:=(Block.new w9 66 (zS T1 x9 T2.length c9)).cell 1;have hN11:=ak (w9.alloc (.cells (zS T1 x9 T2.length c9) 66)) (.cells #[.int .u32 (xk:Nat),.int .i64 T1,.slice x9 T2.length c9] 68);have HX12:=hid ((HX5.o.later xB).later hN11);have hOX:=fun g hg=>(World.ownsRow.lt HX5.o.own g hg).2;have HM12:Hid (Lie 3 enC ((w9.alloc (.cells (zS T1 x9 T2.length c9) 66)).alloc (.cells #[.int .u32 (xk:Nat),.int .i64 T1,.slice x9 T2.length c9] 68)) (some ⟨w9.heap.size+1,0,none⟩) [⟨xk,x9,c9,T2⟩]):=hid (by have hz:=Block.new (w9.alloc (.cells (zS T1 x9 T2.length c9) 66)) 68 [.int .u32 (xk:Nat),.int .i64 T1,.slice x9 T2.length c9];rw [HT1.o,<-HFK.o] at hz ⊢;simpa using kP (C:=enC) (p:=⟨xk,x9,c9,T2⟩) hz);have HR12:Hid (∀z∈[(⟨xk,x9,c9,T2⟩:En)],Kept (fun W=>EnO w.heap.size W z) (.slice ua X.length uc) ((w9.alloc (.cells (zS T1 x9 T2.length c9) 66)).alloc (.cells #[.int .u32 (xk:Nat),.int .i64 T1,.slice x9 T2.length c9] 68))):=hid (fun z hz=>by rw [List.mem_singleton.1 hz];exact (qX hO9 (HBW.o.trans (HB5w.o.mono HBW.o.size)).size hOX).later hN11);have HN12:Hid (X.length+[(⟨xk,x9,c9,T2⟩:En)].length<=1000000):=hid (by have h1:=congrArg List.length HXP.o;simp only [fU,List.length_map,List.length_take] at h1;have:=HN.o;simp only [List.length_singleton];omega);clear hN9 hN11 hOX hO9 k5 hb59 xB hb9 ho9))
     | (at_builtin;refine fZ rfl _ _ rfl [⟨xk,x9,c9,T2⟩] rfl _ _ rfl HX12 HM12 HR12 HN12 ?_;intro v' w' hG _;skip))
    have htk:E.take (k+1)=E.take k++[⟨xk,xa,xc,xV⟩]:=item.aH HP.o;refine ⟨⟨k+1,X++[⟨xk,x9,c9,T2⟩],by omega,by go_num,hG,hid ?_,hid (fun z hz=> ?_)⟩,by simp [intOf];omega⟩
    ·rw [htk,List.map_append,List.map_append,HXP.o];unfold fU;rw [List.map_append,List.map_singleton,List.map_singleton,List.map_singleton,HT.o];rfl
    ·rw [htk,List.map_append] at hz;rcases List.mem_append.1 hz with hz | hz
     ·exact HOK.o z hz
     ·rw [List.map_singleton] at hz;rw [List.mem_singleton.1 hz,HT.o]
   ·have hE':(T3 != 0)=true:=by simpa using hEr
    have HEE:Hid (undoneE v (forms F) s n S (E.map En.p)=T3):=hid (by
     have:=xh (f:=fun e=>(backI v (forms F) s n S e).2.2) (l:=E.map En.p) (k:=k) (x:=⟨xk,xV⟩) (by rw [<-List.map_take];exact HOK.o) (by rw [List.getElem?_map,HP.o];rfl) (by show (backI v (forms F) s n S (En.p ⟨xk,xa,xc,xV⟩)).2.2≠0;rw [HT.o];exact hEr);unfold undoneE;rw [this,show (backI v (forms F) s n S (xk,xV))=(T1,T2,T3) from HT.o,if_pos hEr])
    have HE0:=hid hEr;clear hTJ hEr;go_wp2_with (first
     | (with_reducible refine wpList_load_mid rfl 57 (.tmp 6) rfl (w.heap.size+1) 0 rfl (zP s ta tc la lc) _ HRG.o underlying57 rfl HIS.o ?_)
     | (go_at_call 56;((with_reducible refine cS.mono ?_);rintro e w6 ⟨rfl,hb6⟩;rw [hW5.o] at hb6;have hb36:=HB5w.o.trans (hb6.mono HB5w.o.size);obtain ⟨_,hb06⟩:=hB0.o _ hb36;have cF6:=cFd _ hb06;have HB56:=hid hb6;clear hb06 hb36 hb6))
     | (go_at_call 75;((with_reducible refine cF6.mono ?_);rintro e w7 ⟨rfl,hb7⟩;have hb57:=HB56.o.trans (hb7.mono HB56.o.size);have hb37:=HB5w.o.trans (hb57.mono HB5w.o.size);obtain ⟨⟨k0,k1,_⟩,hb07⟩:=hB0.o _ hb37;have x0:=k0.cell 0;have x1:=k0.cell 1;have HRG:=hid k1.whole;obtain ⟨⟨k5,_⟩,_⟩:=hB5.o _ hb57;have y0:=k5.cell 0;have y1:=k5.cell 1;have y2:=k5.cell 2;have cB7:=cB _ hb07;have HB57:=hid hb57;clear k0 k1 k5 hb07 hb37 hb57 hb7))
     | (go_at_call 76;((with_reducible refine cB7.mono ?_);rintro e w9 ⟨x9,c9,rfl,ho9,hb9⟩;have hb59:=HB57.o.trans (hb9.mono HB57.o.size);have hN9:=ak w9 (.cells (zS T1 x9 T2.length c9) 66);have wL:=hid (hb59.trans (hN9.mono hb59.size));clear hN9 hb59 hb9 ho9)))
    go_ret2
    exact t92
  ·obtain rfl:k=E.length:=by omega
   have hok2:=HOK.o;have hxp2:=HXP.o;rw [List.take_of_length_le (Nat.le_refl _)] at hok2 hxp2;have hE1:=(fK (f:=fun e=>(backI v (forms F) s n S e).2.2)).2 hok2;have z0:=j1.cell 0;by_cases h10:s.op=10
   ·have d10:(s.op != 10)=false:=by simp [h10]
    have cR:=HCR.o h10;have hU:undoneE v (forms F) s n S (E.map En.p)=fP (fun p:It=>(bC v (forms F) s p.data).2.2) (bM n S):=by unfold undoneE;rw [if_neg (by simpa using hE1),if_pos h10]
    have hUn:undone v (forms F) s n S (E.map En.p)=srt (fU v (forms F) s n S (E.map En.p)++regained v (forms F) s n S):=by unfold undone;rw [if_pos h10]
    have HND2:=hid (fun q=>HND.o q h10);have HU:=hid hU;have HUN:=hid hUn;have HXP2:=hid hxp2;have hbl:X.length=E.length:=by have:=congrArg List.length hxp2;simpa [fU] using this
    have HBL:=hid hbl;have HUL:=hid huL;obtain ⟨RE,hRE⟩:∃RE,fP (fun p:It=>(bC v (forms F) s p.data).2.2) (bM n S)=RE:=⟨_,rfl⟩;rw [hRE] at cR HU;obtain ⟨⟨k0,k1,_⟩,hbx⟩:=hB0.o _ HBR.o;have x0:=k0.cell 0;have x1:=k0.cell 1;have HRG:=hid k1.whole;have cRw:=cR wr hbx;unfold pF at cRw;have HBX:=hid hbx;clear hok2 hxp2 hE1 hbw hb0 j1 h10 cR hU hUn hRE hbl k0 k1 hbx huL;by_cases hR0:RE=0
    ·subst hR0;have cRy:Calls prog 77 #[zS v a F.length cc,zP s ta tc la lc,.int .i64 (n:Int),.slice sa S.length sc] wr fun e w'=>∃(X2:List En) (ya:Option Addr) (yc:Nat),e=.returned (.tuple #[.slice ya X2.length yc,.int .i64 0])/\Lie 3 enC w' ya X2/\(∀z∈X2,EnO wr.heap.size w' z)/\X2.map En.p=regained v (forms F) s n S/\Below wr.heap.size wr w':=by
      refine cRw.mono ?_;rintro e w' ⟨X2,u2,rfl,hG,hX2,_⟩;obtain ⟨ya,yc,rfl,hL2,_⟩:=hG.form jD om_;exact ⟨X2,ya,yc,rfl,hL2,fun z hz=>(hG.each z hz).now,hX2 rfl,hG.low⟩
     have HRL:Hid ((regained v (forms F) s n S).length<=S.length):=hid (by unfold regained bM;rw [List.length_map];exact List.length_filter_le ..);clear cRw;go_wp2_with (first
      | (with_reducible refine wpList_load_mid rfl 57 (.tmp 6) rfl (w.heap.size+1) 0 rfl (zP s ta tc la lc) _ HRG.o underlying57 rfl HIS.o ?_)
      | (go_at_call 77;((with_reducible refine cRy.mono ?_);rintro e w4 ⟨X2,ya,yc,rfl,hL2,hR2,hP2,hb4⟩;have HX4:=hid (HX.o.later hb4);have HL2:=hid hL2;have HR2:Hid (∀z∈X2,Kept (fun W=>EnO w.heap.size W z) (.slice ua X.length uc) w4):=hid (fun z hz=>qX (w:=wr) (hR2 z hz) HBX.o.size (fun g hg=>(World.ownsRow.lt HX.o.own g hg).2));have HP2:=hid hP2;have hX2l:X2.length<=S.length:=(by have:=congrArg List.length hP2;rw [List.length_map] at this;have:=HRL.o;omega);have HN4:Hid (X.length+X2.length<=1000000):=hid (by have:=HBL.o;have:=HN.o;omega);clear hL2 hR2 hP2 hX2l hb4))
      | (at_builtin;refine fZ rfl _ _ rfl X2 rfl _ _ rfl HX4 HL2 HR2 HN4 ?_;intro v5 w5 hG5 _;have cSo:=EW hG5.o (by rw [List.length_append];exact HN4.o);unfold FB at cSo;skip)
      | (go_at_call 78;((with_reducible refine cSo.mono ?_);rintro e w6 ⟨rfl,M,hM1,hM2,hM3⟩;have HM1:=hid hM1;have HM2:=hid hM2;have HM3:=hid hM3;clear hM1 hM2 hM3 cSo)))
     go_ret2;have hpm:(M.map En.p).Perm (fU v (forms F) s n S (E.map En.p)++regained v (forms F) s n S):=by
      have:=HM1.o.map En.p;rwa [List.map_append,HXP2.o,HP2.o] at this
     refine pF.yes HU.o (HM3.o.of HBW.o) ?_;rw [HUN.o];exact KD hpm (by rw [List.pairwise_map];exact HM2.o) (HND2.o HU.o)
    ·have hE':(RE != 0)=true:=by simpa using hR0
     have HR0:=hid hR0;have cRn:Calls prog 77 #[zS v a F.length cc,zP s ta tc la lc,.int .i64 (n:Int),.slice sa S.length sc] wr fun e w'=>∃u2,e=.returned (.tuple #[u2,.int .i64 RE])/\Below wr.heap.size wr w':=by
      refine cRw.mono ?_;rintro e w' ⟨X2,u2,rfl,hG,_,_⟩;exact ⟨u2,rfl,hG.low⟩
     clear hR0 cRw;go_wp2_with (first
      | (with_reducible refine wpList_load_mid rfl 57 (.tmp 6) rfl (w.heap.size+1) 0 rfl (zP s ta tc la lc) _ HRG.o underlying57 rfl HIS.o ?_)
      | (go_at_call 77;((with_reducible refine cRn.mono ?_);rintro e w4 ⟨u2,rfl,hb4⟩;have HB4:=hid hb4;clear hb4)))
     go_ret2;exact pF.no HU.o HR0.o (HBX.o.trans (HB4.o.mono HBX.o.size))
   ·have d10:(s.op != 10)=true:=by simpa using h10
    have HU:Hid (undoneE v (forms F) s n S (E.map En.p)=0):=hid (by unfold undoneE;rw [if_neg (by simpa using hE1),if_neg h10]);have HUN:Hid (undone v (forms F) s n S (E.map En.p)=fU v (forms F) s n S (E.map En.p)):=hid (by unfold undone;rw [if_neg h10]);have HXP2:=hid hxp2;clear hok2 hxp2 hE1 hbw hb0 j1 h10 huL;go_wp2;go_ret2;exact pF.yes HU.o (HX.o.of HBW.o) (by rw [HUN.o];exact HXP2.o)
end whole
theorem t78{P:Prop}(h:P:=by
 intro ph W hf hp hb;refine (cRd ph W hp hb).mono ?_;rintro e w' ⟨X,u,rfl,hX,_,_⟩;rw [hf,hdf];exact ⟨u,rfl,hX.low⟩):P:=h
theorem t75{P:Prop}(h:P:=by
 obtain ⟨xa,xc,rfl,hLie,_⟩:=hX.form jD om_;rw [hdf];exact ⟨X,xa,xc,rfl,hLie,fun x hx=>(hX.each x hx).now,by rw [hXp hfit,hE0],hX.low⟩):P:=h
theorem t39{P:Prop}(h:P:=by
 refine cBg.mono ?_;rintro e w' ⟨P,u,rfl,hG,hP,_⟩;rw [hW0.o] at hG;have hP:=hP rfl;have hl:P.length=L.length+1:=by have:=congrArg List.length hP;rw [List.length_map,fM,hsl] at this;exact this
 obtain ⟨pa,pc,rfl,hLie,_⟩:=hG.form (tH v) om_;rw [hl];exact ⟨P,pa,pc,rfl,hLie,fun x hx=>(hG.each x hx).now,hP,hG.low⟩):P:=h
namespace whole
open Go Go.RowKit schema typing turn
open field (Va ak)
open step (Sp St StL sps Lists step_range kE)
open item (It Its bK sides itC)
theorem wW {v:Int} {S:List It} {F:List schema.Form} {L:List Sp} {E:List Ent}:∀m,m<=L.length->(downs v S m (after v F (L.take m)) (L.drop m) E).2≠0->downs v S 0 F L E=([],(downs v S m (after v F (L.take m)) (L.drop m) E).2)
 | 0,_,h=>by
  have hn:∀(n:Nat) (F:List schema.Form) (L:List Sp) (E:List Ent),(downs v S n F L E).2≠0->downs v S n F L E=([],(downs v S n F L E).2):=by
   intro n F L E h;cases L with
   | nil=>exact absurd rfl h
   | cons s r=>
    rw [gJ] at h ⊢;split
    ·rfl
    ·rename_i h1;rw [if_neg h1] at h;split
     ·rfl
     ·rename_i h2;rw [if_neg h2] at h;exact absurd rfl h
  exact hn _ _ _ _ h
 | m+1,hm,h=>by
  obtain ⟨s,hs⟩:∃s,L[m]?=some s:=⟨L[m],List.getElem?_eq_getElem hm⟩;have hd:L.drop m=s :: L.drop (m+1):=by
   rw [List.drop_eq_getElem_cons hm,(List.getElem?_eq_some_iff.1 hs).2]
  have ha:=jM v F L m s hs;rw [ha] at h;have e:(downs v S m (after v F (L.take m)) (L.drop m) E)=([],(downs v S (m+1) (on v (after v F (L.take m)) s).2.1 (L.drop (m+1)) E).2):=by
   rw [hd,gJ,if_pos h]
  have h2:=wW m (Nat.le_of_succ_le hm) (by rw [e];exact h);rw [h2,e,ha]
theorem CW {v:Int} {F:List schema.Form} {s:Sp} {n:Nat} {S:List It} {E:List Ent}:(undone v F s n S E).length<=E.length+S.length:=by
 have hr:(regained v F s n S).length<=S.length:=by unfold regained bM;rw [List.length_map];exact List.length_filter_le ..
 have hb:(fU v F s n S E).length=E.length:=by unfold fU;rw [List.length_map]
 unfold undone;split
 ·rw [(jy _).length_eq,List.length_append];omega
 ·omega
def tY (r:List It×Int) (w:World) (e:Ending) (w':World):Prop:=∃u,e=.returned (.tuple #[u,.int .i64 r.2])/\IRow w r.1 u w'
theorem tY.no {r:List It×Int} {E:Int} {w w':World} (h:r=([],E)) (hb:Below w.heap.size w w'):tY r w (.returned (.tuple #[.slice none 0 0,.int .i64 E])) w':=by
 subst h;exact ⟨_,rfl,⟨World.ownsRow_nil _ _ _ _,hb,fun p hp=>by cases hp⟩⟩
theorem tY.yes {r:List It×Int} {M:List It} {u:Value} {w w':World} (h:r=(M,0)) (hb:IRow w M u w'):tY r w (.returned (.tuple #[u,.int .i64 0])) w':=by
 subst h;exact ⟨_,rfl,hb⟩
structure ArgOk (w:World) (a:Option Addr) (F:List Fm) (la:Option Addr) (L:List St) (ia:Option Addr) (I:List It):Prop where
 fml:FmL w a F
 small:Small w F
 stl:StL w la L
 len:L.length<=60
 flds:∀p∈L,p.s.l.length<=40
 tabs:∀p∈L,p.s.t.length<=1000000
 its:Its w ia I
 few:I.length<=60
 keys:∀p∈I,p.key<4294967296
theorem ArgOk.below {w w':World} {a:Option Addr} {F:List Fm} {la:Option Addr} {L:List St} {ia:Option Addr} {I:List It} (h:ArgOk w a F la L ia I) (hb:Below w.heap.size w w'):ArgOk w' a F la L ia I:=
 ⟨h.fml.below hb,h.small.below hb,h.stl.below hb,h.len,h.flds,h.tabs,h.its.below hb,h.few,h.keys⟩
theorem zi {v:Int} {F:List schema.Form} {L:List Sp} {n:Nat} (h:cZ v F L n=0):Right v F/\Ok v F L/\n*L.length<=20000:=by
 unfold cZ at h;by_cases h1:Right v F
 ·rw [if_neg (by simpa using h1)] at h;by_cases h2:errs v F L=0
  ·rw [if_neg (by simpa using h2)] at h;refine ⟨h1,(D9 v F L).1 h2, ?_⟩;by_cases h3:n*L.length>20000
   ·rw [if_pos h3] at h;simp at h
   ·omega
  ·rw [if_pos h2] at h;exact absurd h om_
 ·rw [if_pos h1] at h;simp at h
set_option maxRecDepth 20000 in
set_option maxHeartbeats 6400000 in
theorem pJ (v:Int) (a:Option Addr) (cc:Nat) (F:List Fm) (la:Option Addr) (lc:Nat) (L:List St) (ia:Option Addr) (ic:Nat) (I:List It) (w:World) (hA:ArgOk w a F la L ia I):
  Calls prog 14 #[zS v a F.length cc,.slice la L.length lc,.slice ia I.length ic] w (tY (aV v (forms F) (sps L) I) w):=by
 have hml:(L.length:Int)<=60:=by have:=hA.len;omega
 have hsl:(sps L).length=L.length:=by unfold sps;simp
 obtain ⟨W0,hW0,bW0,hs0,hB0⟩:=aS w [(24,zS v a F.length cc),(25,[.slice la L.length lc])];simp only [boxes] at hW0;have HARG:Hid (∀w',Below w.heap.size w w'->ArgOk w' a F la L ia I):=hid fun w' hb=>hA.below hb
 have HBW:=hid bW0;have cBg:=jI v a cc F la lc L ia ic I W0 (HARG.o W0 bW0).fml (HARG.o W0 bW0).small (HARG.o W0 bW0).stl hA.len hA.flds (by have:=hA.few;omega);rw [<-hW0.o] at cBg;have HSL:=hid hsl;obtain ⟨BE,hBE⟩:∃BE,cZ v (forms F) (sps L) I.length=BE:=⟨_,rfl⟩;unfold yX at cBg;rw [hBE] at cBg;by_cases hb0:BE=0
 ·subst hb0;obtain ⟨hRt,hOk,hW⟩:=zi hBE;rw [hsl] at hW;have cB1:Calls prog 20 #[zS v a F.length cc,.slice la L.length lc,.slice ia I.length ic] (((w.alloc (.cells (zS v a F.length cc) 24)).alloc (.cells #[.slice la L.length lc] 25))) fun e w'=>∃(P:List Ph) (pa:Option Addr) (pc:Nat),e=.returned (.tuple #[.slice pa (L.length+1) pc,.int .i64 0])/\Lie 2 (phC v) w' pa P/\(∀x∈P,PhR w' x)/\P.map (fun x=>forms x.F)=path v (forms F) (sps L)/\Below W0.heap.size W0 w':=by
   exact t39
  have HOK:=hid hOk;have HRA:=hid (nD v (forms F) (sps L) hRt hOk);have HBE:=hid hBE;have hI60:=hA.few;have HKEY:=hid hA.keys;have HTAB:=hid hA.tabs;have HFLD:=hid hA.flds;have cSd:=fun (W:World) (hb:Below w.heap.size w W)=>item.ET ia ic I W (HARG.o W hb).its om_
  unfold item.Lists at cSd
  have cRd:=fun (ph:Ph) (W:World) (hp:PhR W ph) (hb:Below w.heap.size w W)=>AB v ph.a ph.c ph.F ia ic I W hp.1 hp.2 (HARG.o W hb).its om_ HKEY.o
  unfold qJ at cRd;obtain ⟨G,hG⟩:∃G,after v (forms F) (sps L)=G:=⟨_,rfl⟩;have HG:=hid hG;clear cBg hRt hOk hW hBE hA bW0 hsl;by_cases hfit:Fits v G I
  ·by_cases hrem:∀p∈sides I,Removed (sps L) p.key
   ·have hbv:aV v (forms F) (sps L) I=if (downs v (sides I) 0 (forms F) (sps L) ((bK I).map (ent G))).2≠0 then ([],(downs v (sides I) 0 (forms F) (sps L) ((bK I).map (ent G))).2) else ((downs v (sides I) 0 (forms F) (sps L) ((bK I).map (ent G))).1.map (laid (forms F)),0):=by
     unfold aV;rw [if_neg (by rw [HBE.o];simp),hG,if_neg (by simpa using ⟨hfit,hrem⟩)]
    have HBV:=hid hbv
    have HFIT:=hid hfit
    have HREM:=hid hrem
    have HSND:=hid (AV hrem)
    have hdf:decide (Fits v G I)=true:=decide_eq_true hfit
    have cSt:=fun (W:World) (g:Nat) (sa:Option Addr) (sc:Nat) (hb:Below w.heap.size w W) (hs:Its W sa (sides I)) (hg:Block W g 25 [.slice la L.length lc])=>pK g la lc L sa sc (sides I) W (HARG.o W hb).stl (by have:=(HARG.o W hb).len;omega) hs (by have:(sides I).length<=I.length:=List.length_filter_le ..;omega) (fun p hp=>⟨by have:=(List.mem_filter.1 hp).2;simpa using this,HKEY.o p (List.mem_filter.1 hp).1⟩) hg
    unfold FH at cSt
    have HSO:Hid (Sorted (sides I)):=hid (((item.iO I).1 hfit.2.1).2.filter _)
    have HSZ:Hid (∀p∈sides I,p.data.size<=64/\p.key<4294967296):=hid fun p hp=>⟨((item.iO I).1 hfit.2.1).1 p (List.mem_filter.1 hp).1,HKEY.o p (List.mem_filter.1 hp).1⟩
    have HSLN:Hid ((sides I).length<=60):=hid (Nat.le_trans (List.length_filter_le ..) hI60)
    have HMLN:Hid ((bK I).length<=60):=hid (Nat.le_trans (List.length_filter_le ..) hI60)
    obtain ⟨E0,hE0⟩:∃E0,(bK I).map (ent G)=E0:=⟨_,rfl⟩
    have HE0:Hid (pG G E0/\(E0.map (·.1)).Nodup/\E0.length<=60):=hid (by rw [<-hE0];exact ⟨FU hfit,Ed hfit,by rw [List.length_map];exact HMLN.o⟩)
    rw [hE0] at HBV
    have cRy:∀(ph:Ph) (W:World),forms ph.F=G->PhR W ph->Below w.heap.size w W->Calls prog 21 #[zS v ph.a ph.F.length ph.c,.slice ia I.length ic] W fun e w'=>∃(X:List En) (xa:Option Addr) (xc:Nat),e=.returned (.tuple #[.slice xa X.length xc,.bool true])/\Lie 3 enC w' xa X/\(∀x∈X,EnR w' x)/\X.map En.p=E0/\Below W.heap.size W w':=by
     intro ph W hf hp hb;refine (cRd ph W hp hb).mono ?_;rintro e w' ⟨X,u,rfl,hX,hXp,_⟩;rw [hf] at hXp ⊢
     exact t75
    have HCR:=hid cRy
    have HCS:=hid cSt
    generalize hS:sides I=S at *
    clear hfit hrem hdf hbv cRd cRy cSt hE0 hS
    clear hI60
    go_enter func14,ntmps14
    go_wp2_with (first
     | (go_at_call 20;((with_reducible refine cB1.mono ?_);rintro e w1 ⟨P,pa,pc,rfl,hPL,hPR,hPP,hb1⟩;have hbw1:=HBW.o.trans (hb1.mono HBW.o.size);have hPl:P.length=L.length+1:=(by have:=congrArg List.length hPP;rw [List.length_map,fM,HSL.o] at this;exact this);obtain ⟨gb,goff,ph,rfl,hgb,hph,g0,g1⟩:=rY hPL (Below.refl _ _) (k:=L.length) om_;obtain ⟨⟨_,k1,_⟩,_⟩:=hB0.o _ hb1;have z0:=k1.cell 0;have hphF:forms ph.F=G:=(by have:=nZ hPP (by rw [HSL.o];exact Nat.le_refl _) hph;rw [this,List.take_of_length_le (by rw [HSL.o];exact Nat.le_refl _)];exact HG.o);have cR1:=HCR.o ph w1 hphF (hPR ph (List.mem_of_getElem? hph)) hbw1;have i1:(L.length:Int)<(L.length:Int)+1:=om_;have HPL:=hid hPL;have HPR:=hid hPR;have HPP:=hid hPP;have HPl:=hid hPl;have HBW1:=hid hbw1;have HB1:=hid hb1;clear hPl hPL hPR hPP hgb hph hphF k1 hbw1 hb1))
     | (go_at_call 21;((with_reducible refine cR1.mono ?_);rintro e w2 ⟨X,xa,xc,rfl,hXL,hXR,hXP,hb2⟩;have hbw2:=HBW1.o.trans (hb2.mono HBW1.o.size);have cS2:=cSd w2 hbw2;have HBW2:=hid hbw2;have HB12:=hid hb2;have HB2:=hid (HB1.o.trans (hb2.mono HB1.o.size));have HXL:=hid hXL;have HXR:=hid hXR;have HXP:=hid hXP;clear hbw2 hb2 hXL hXR hXP))
     | (go_at_call 39;((with_reducible refine cS2.mono ?_);rintro e w3 ⟨sa,sc,rfl,ho3,hb3⟩;have hbw3:=HBW2.o.trans (hb3.mono HBW2.o.size);have hb03:=HB2.o.trans (hb3.mono HB2.o.size);obtain ⟨⟨_,k1,_⟩,_⟩:=hB0.o _ hb03;have cS3:=HCS.o w3 (w.heap.size+1) sa sc hbw3 (item.nY ho3).1 k1;have HBW3:=hid hbw3;have HB03:=hid hb03;have HB3:=hid hb3;have HS3:=hid (item.nY ho3).1;clear k1 ho3 hb3 hbw3 hb03))
     | (go_at_call 42;((with_reducible refine cS3.mono ?_);rintro e w4 ⟨bb,rfl,hbb,hb4⟩;obtain rfl:bb=false:=hbb.2 HREM.o;have hbw4:=HBW3.o.trans (hb4.mono HBW3.o.size);have hb04:=HB03.o.trans (hb4.mono HB03.o.size);have hb14:=HB12.o.trans ((HB3.o.trans (hb4.mono HB3.o.size)).mono HB12.o.size);have hb24:=HB3.o.trans (hb4.mono HB3.o.size);obtain ⟨⟨_,k1,_⟩,_⟩:=hB0.o _ hb04;have z0:=k1.cell 0;have HBW4:=hid hbw4;have HB04:=hid hb04;have HP4:Hid (Lie 2 (phC v) w4 (some ⟨gb,goff,none⟩) P/\∀x∈P,PhR w4 x):=hid ⟨HPL.o.below hb14,fun x hx=>(HPR.o x hx).below hb14⟩;have HX4:Hid (Lie 3 enC w4 xa X/\∀x∈X,EnR w4 x):=hid ⟨HXL.o.below hb24,fun x hx=>(HXR.o x hx).below hb24⟩;have HS4:=hid (HS3.o.below hb4);clear k1 hbb hb4 hbw4 hb04 hb14 hb24)))
    clear cS2 cS3 cR1 g0 g1 z0
    have HX0:Hid (downs v S L.length G [] E0=(X.map En.p,0)/\pG G (X.map En.p)/\((X.map En.p).map (·.1)).Nodup/\X.length<=60):=hid (by
     have hl:=congrArg List.length HXP.o;rw [List.length_map] at hl;rw [HXP.o];exact ⟨rfl,HE0.o.1,HE0.o.2.1,by have:=HE0.o.2.2;omega⟩)
    go_loopw [10,14] (fun xu m' wr=>∃(m:Nat) (X:List En) (xa:Option Addr) (xc:Nat),m<=L.length/\m'=.int .i64 ((m:Int) - 1)/\xu=.slice xa X.length xc/\Hid (Below w4.heap.size w4 wr)/\Hid (Lie 3 enC wr xa X/\∀x∈X,EnR wr x)/\Hid (downs v S m (after v (forms F) ((sps L).take m)) ((sps L).drop m) E0=(X.map En.p,0)/\pG (after v (forms F) ((sps L).take m)) (X.map En.p)/\((X.map En.p).map (·.1)).Nodup)/\Hid (X.length<=60+(L.length - m)*60)) (fun _ m' _=>(intOf m'+1).toNat)
    case atStart=>
     refine ⟨L.length,X,xa,xc,Nat.le_refl _,by go_num,rfl,hid (Below.refl _ _),HX4,hid ?_,hid (by have:=HX0.o.2.2.2;omega)⟩;rw [List.take_of_length_le (by rw [HSL.o];exact Nat.le_refl _),List.drop_of_length_le (by rw [HSL.o];exact Nat.le_refl _),HG.o];exact ⟨HX0.o.1,HX0.o.2.1,HX0.o.2.2.1⟩
    case round=>
     clear HX0 HXP HXL HXR HX4;obtain ⟨m1,X,xa,xc,hm1,rfl,rfl,HBR,HXW,HXD,HXN⟩:=hrel;have hb4r:=HBR.o;have hb0r:=HB04.o.trans (hb4r.mono HB04.o.size);have hbwr:=HBW4.o.trans (hb4r.mono HBW4.o.size);by_cases hlt:0<m1
     ·obtain ⟨m,rfl⟩:∃m,m1=m+1:=⟨m1 - 1,by omega⟩;have em:(((m+1:Nat):Int) - 1)=(m:Int):=by omega
      rw [em];have im:(m:Int)≥0:=by omega
      have dm:decide ((m:Int)≥0)=true:=decide_eq_true im;obtain ⟨lb,loff,p,rfl,hlb,hp,hls,hrg⟩:=step_range (HARG.o _ hbwr).stl (Below.refl _ _) (k:=m) om_;obtain ⟨gb',goff',ph2,hga,hgb,hph,g0,g1⟩:=rY HP4.o.1 hb4r (k:=m) (by have:=HPl.o;omega);obtain ⟨rfl,rfl⟩:gb=gb'/\goff=goff':=by cases hga;exact ⟨rfl,rfl⟩
      have hps:(sps L)[m]?=some p.s:=by unfold sps;rw [List.getElem?_map,hp];rfl
      have hpf:=nZ HPP.o (by rw [HSL.o];omega) hph;have hon:=GL v (forms F) (sps L) m p.s HOK.o hps;have has:=jM v (forms F) (sps L) m p.s hps;have hph2:=(HP4.o.2 ph2 (List.mem_of_getElem? hph)).below hb4r;have hdr:(sps L).drop m=p.s :: (sps L).drop (m+1):=by
       rw [List.drop_eq_getElem_cons (List.getElem?_eq_some_iff.1 hps).1,(List.getElem?_eq_some_iff.1 hps).2]
      have HDR:=hid hdr;have HAS:=hid has;have HFM:Hid (∀q∈S,told q.key=(m:Int)->p.s.fm=aK q.key):=hid fun q hq hk=>HSND.o q hq m p.s (by rw [hk];omega) hps
      obtain ⟨⟨_,k1,_⟩,_⟩:=hB0.o _ hb0r;have HC:Hid (∀w',Below wr.heap.size wr w'->Below w.heap.size w w'/\w'.rangeAt gb (goff+m*2) (zS v ph2.a ph2.F.length ph2.c)/\w'.cell? ⟨w.heap.size+1,0,none⟩=some (.slice (some ⟨lb,loff,none⟩) L.length lc)/\w'.rangeAt lb (loff+m*16) p.C/\PhR w' ph2/\Lists w' p.s p.ta p.la/\(Lie 3 enC w' xa X/\∀x∈X,EnR w' x)/\Its w' sa S):=hid fun w' hb=>by
       refine ⟨hbwr.trans (hb.mono hbwr.size),fun j u hj=> ?_,(k1.later hb).cell 0,AA hrg hb hlb,hph2.below hb,hls.below hb,⟨HXW.o.1.below hb,fun x hx=>(HXW.o.2 x hx).below hb⟩,(HS4.o.below hb4r).below hb⟩;match j,hj with
       | 0,hj=>cases hj;exact (hb.cell (p:=⟨gb,goff+m*2,none⟩) hgb).trans g0
       | 1,hj=>cases hj;exact (hb.cell (p:=⟨gb,goff+m*2+1,none⟩) hgb).trans g1
      have hpm:=List.mem_of_getElem? hp;have hd1:=HXD.o;rw [has] at hd1;rw [<-hpf] at hon hd1;have hn60:X.length+S.length<=1000000:=by
       have h1:=HXN.o;have h2:=HSLN.o;have h3:(L.length - (m+1))*60<=60*60:=Nat.mul_le_mul_right 60 om_;omega
      have cU:=fun (w':World) (hb:Below wr.heap.size wr w')=>jY v ph2.a ph2.c ph2.F p.s p.ta p.tc p.la p.lc m xa xc X sa sc S w' (HC.o _ hb).2.2.2.2.1.1 (HC.o _ hb).2.2.2.2.1.2 (HC.o _ hb).2.2.2.2.2.1 (HFLD.o p hpm) (HTAB.o p hpm) (HC.o _ hb).2.2.2.2.2.2.1.1 (HC.o _ hb).2.2.2.2.2.2.1.2 (HC.o _ hb).2.2.2.2.2.2.2 hn60 om_ HSZ.o HSO.o hon hd1.2.1 hd1.2.2 HFM.o
      have HPF:=hid hpf;have HON:=hid hon;have HD1:=hid hd1;have HM1:Hid (m<L.length+1):=hid om_;have HM2:Hid (m<L.length):=hid om_;have HPMF:=hid hpm;obtain ⟨UE,hUE⟩:∃UE,undoneE v (forms ph2.F) p.s m S (X.map En.p)=UE:=⟨_,rfl⟩;unfold pF at cU;simp only [hUE] at cU;have HUE:=hid hUE;have HBWR:=hid hbwr;have HB4R:=hid hb4r;clear hrg hlb hls hp hgb hph g0 g1 hps hpf hon has hph2 hdr k1 hpm hd1 hn60 hUE hb4r hb0r hbwr hlt em;go_wp2;refine plan.bU (S:=fun w'=>Below wr.heap.size wr w') ?_;have hS:Below wr.heap.size wr wr.drew:=below_drewN (Below.refl _ _) 1;generalize wr.drew=wd at *;refine plan.af 0 _ (.slice (some ⟨gb,goff,none⟩) (L.length+1) pc) rfl (fun w' hS'=>kr_) hS ?_;refine plan.af 1 _ (.int .i64 (m:Int)) rfl (fun w' hS'=>kr_) hS ?_;refine plan.af 2 _ (.pointer (some ⟨gb,goff+m*2,none⟩)) rfl (fun w' hS'=>kG (b:=gb) (off:=goff) (len:=L.length+1) (cap:=pc) (i:=m) rfl HM1.o) hS ?_;refine plan.af 3 _ (zS v ph2.a ph2.F.length ph2.c) rfl (fun w' hS'=>ax (b:=gb) (off:=goff+m*2) rfl (HC.o _ hS').2.1 underlying24 rfl jR.o) hS ?_;refine plan.af 4 _ (.slice (some ⟨lb,loff,none⟩) L.length lc) rfl (fun w' hS'=>aG rfl (HC.o _ hS').2.2.1 isAgg25) hS ?_;refine plan.af 5 _ (.int .i64 (m:Int)) rfl (fun w' hS'=>kr_) hS ?_;refine plan.af 6 _ (.pointer (some ⟨lb,loff+m*16,none⟩)) rfl (fun w' hS'=>kE (b:=lb) (off:=loff) (len:=L.length) (cap:=lc) (i:=m) rfl HM2.o) hS ?_;refine plan.af 7 _ (zP p.s p.ta p.tc p.la p.lc) rfl (fun w' hS'=>ax (b:=lb) (off:=loff+m*16) rfl (HC.o _ hS').2.2.2.1 underlying57 rfl qg.o) hS ?_;refine plan.af 8 _ (.int .i64 (m:Int)) rfl (fun w' hS'=>kr_) hS ?_;refine plan.af 9 _ (.slice xa X.length xc) rfl (fun w' hS'=>kr_) hS ?_;refine plan.af 10 _ (.slice sa S.length sc) rfl (fun w' hS'=>kr_) hS ?_;refine plan.dY 11 _ 43 #[zS v ph2.a ph2.F.length ph2.c,zP p.s p.ta p.tc p.la p.lc,.int .i64 (m:Int),.slice xa X.length xc,.slice sa S.length sc] rfl ((cU wd hS).mono ?_);rintro e w5 ⟨Y,yu,rfl,hY,hYp,_⟩;obtain ⟨ya,yc,rfl,hYL,_⟩:=hY.form jD om_;have hb5:Below wr.heap.size wr w5:=hS.trans (hY.low.mono hS.size);refine ⟨_,rfl,hb5, ?_⟩;refine plan.af 12 _ (.tuple #[.slice ya Y.length yc,.int .i64 UE]) rfl (fun w' hS'=>kr_) hb5 ?_;refine plan.af 13 _ (.slice ya Y.length yc) rfl (fun w' hS'=>kr_) hb5 ?_;refine plan.af 14 _ (.int .i64 UE) rfl (fun w' hS'=>kr_) hb5 ?_;refine plan.af 15 _ (.slice ya Y.length yc) rfl (fun w' hS'=>kr_) hb5 ?_;refine plan.af 16 _ (.int .i64 UE) rfl (fun w' hS'=>kr_) hb5 ?_;refine plan.gI ?_;have HB5:=hid hb5;have HYL:=hid hYL;have HYR:Hid (∀x∈Y,EnR w5 x):=hid fun x hx=>(hY.each x hx).now.now
      have HYP:=hid hYp;clear cU HC hb5 hS hY hYL hYp;by_cases hU0:UE=0
      ·subst hU0;walk_nrm;go_wp2;refine ⟨⟨m,Y,ya,yc,by omega,rfl,rfl,hid (HB4R.o.trans (HB5.o.mono HB4R.o.size)),hid ⟨HYL.o,HYR.o⟩,hid ?_,hid ?_⟩,by simp [intOf]⟩
       ·have hu:=HYP.o rfl;have h1:=HD1.o.1;have hk:=Ff (S:=S) HON.o (fun e he=>(HD1.o.2.1 e he).1) HFM.o HUE.o;have hnd:=(mG (F:=forms ph2.F) HSO.o HD1.o.2.2 HUE.o HFM.o (fun e he=>(HD1.o.2.1 e he).1)).1;rw [<-hu] at hk hnd;rw [<-HPF.o];refine ⟨?_,hk,hnd⟩;rw [HDR.o,gJ,h1,if_neg (show ¬((0:Int)≠0) by simp),if_neg (by rw [HUE.o];simp),hu]
       ·have hu:=HYP.o rfl;have hl:=congrArg List.length hu;rw [List.length_map] at hl;have h1:=CW (v:=v) (F:=forms ph2.F) (s:=p.s) (n:=m) (S:=S) (E:=X.map En.p);rw [List.length_map] at h1;have h2:=HXN.o;have h3:=HSLN.o;have h4:=HM2.o;have h5:L.length - m=(L.length - (m+1))+1:=by omega
        rw [h5,Nat.succ_mul];omega
      ·have HU0:=hid hU0;have hne:(UE != 0)=true:=by simpa using hU0
       have HBE2:Hid (aV v (forms F) (sps L) I=([],UE)):=hid (by
        have e1:(downs v S m (after v (forms F) ((sps L).take m)) ((sps L).drop m) E0)=([],UE):=by
         rw [<-HPF.o,HDR.o,gJ,HD1.o.1,if_neg (show ¬((0:Int)≠0) by simp),HUE.o,if_pos hU0]
        have e2:=wW (v:=v) (S:=S) (F:=forms F) (L:=sps L) (E:=E0) m (by rw [HSL.o];have:=HM2.o;omega) (by rw [e1];exact hU0);rw [e1] at e2;rw [HBV.o,e2,if_pos hU0])
       clear hU0;walk_nrm;go_wp2;go_ret2;exact tY.no HBE2.o (HBWR.o.trans (HB5.o.mono HBWR.o.size))
     ·obtain rfl:m1=0:=by omega
      have im:¬(((0:Nat):Int) - 1≥0):=by omega
      have dm:decide (((0:Nat):Int) - 1≥0)=false:=decide_eq_false im;have hd1:=HXD.o;rw [List.take_zero,List.drop_zero] at hd1;have hd1':downs v S 0 (forms F) (sps L) E0=(X.map En.p,0)/\pG (forms F) (X.map En.p)/\((X.map En.p).map (·.1)).Nodup:=hd1;have HBF:Hid (aV v (forms F) (sps L) I=((X.map En.p).map (laid (forms F)),0)):=hid (by rw [HBV.o,hd1'.1,if_neg si_]);have HENT:=hid hd1'.2.1;have HXW2:=hid HXW.o;have hxl:X.length<=3660:=by
       have h1:=HXN.o;have h3:(L.length - 0)*60<=60*60:=Nat.mul_le_mul_right 60 om_;omega
      have hxi:(X.length:Int)<=3660:=by omega
      have HXL2:=hid hxl;have HBWR:=hid hbwr;have HB0R:=hid hb0r;clear hd1 hd1' hxl hb4r hb0r hbwr hlt;go_wp2;generalize wr=wz at *;go_loopw [15,75] (fun u n wq=>∃(k:Nat),k<=X.length/\n=.int .i64 (k:Int)/\Hid (IRow wz (((X.map En.p).map (laid (forms F))).take k) u wq)) (fun _ n _=>X.length - (intOf n).toNat);case atStart=>exact ⟨0,Nat.zero_le _,rfl,hid (Gath.nil wz)⟩
      case round=>
       obtain ⟨k,hk,rfl,HR⟩:=hrel;obtain ⟨M,hM⟩:∃M,((X.map En.p).map (laid (forms F))).take k=M:=⟨_,rfl⟩;rw [hM] at HR;have HM:=hid hM;obtain ⟨ua,uc,hu,_⟩:=HR.o.form iV om_;have hbq:=HR.o.low;have hb0q:=HB0R.o.trans (hbq.mono HB0R.o.size);have hbwq:=HBWR.o.trans (hbq.mono HBWR.o.size);by_cases hlk:k<X.length
       ·obtain ⟨b,off,x,rfl,hbl,hp,c0,c1,c2⟩:=FT HXW2.o.1 hbq hlk;have i1:(k:Int)<X.length:=by omega
        have hm:=List.mem_of_getElem? hp;obtain ⟨W5,hW5,bW5,hs5,hB5⟩:=aS wr [(68,[.int .u32 (x.key:Nat),.int .i64 (aK x.key),.slice x.a x.V.length x.c])];simp only [boxes] at hW5;have hb05:=hb0q.trans (bW5.mono hb0q.size);have hbw5:=hbwq.trans (bW5.mono hbwq.size);obtain ⟨⟨k0,_⟩,_⟩:=hB0.o _ hb05;have x0:=k0.cell 0;have x1:=k0.cell 1;obtain ⟨⟨k5,_⟩,_⟩:=hB5.o _ (Below.refl _ _);have y0:=k5.cell 0;have y1:=k5.cell 1;have y2:=k5.cell 2;have cL:=Af v a cc F x W5 (HARG.o _ hbw5).fml (HARG.o _ hbw5).small ((HXW2.o.2 x hm).below (hbq.trans (bW5.mono hbq.size))) (HENT.o _ (List.mem_map_of_mem hm)).2;unfold Gives at cL;have hgl:((X.map En.p).map (laid (forms F)))[k]?=some (laid (forms F) x.p):=by rw [List.getElem?_map,List.getElem?_map,hp];rfl
        have hlk2:laid (forms F) x.p=⟨x.key,(laid (forms F) x.p).data⟩:=rfl;obtain ⟨z,hz⟩:∃z,(laid (forms F) x.p).data=z:=⟨_,rfl⟩;rw [hz] at cL hlk2;rw [hlk2] at hgl;have HGL:=hid hgl;have HR5:=hid (HR.o.later bW5);have HN9:Hid (M.length+[(⟨x.key,z⟩:It)].length<=1000000):=hid (by rw [<-HM.o,List.length_take];have:=HXL2.o;simp only [List.length_singleton];omega);subst hu;obtain ⟨fk,hfk⟩:∃fk,aK x.key=fk:=⟨_,rfl⟩;rw [hfk] at hW5 cL c1 y1;rw [<-hW5.o] at cL x0 x1 y0 y1 y2;clear hp hm hbq hb0q hbwq hb05 hbw5 k0 k5 hgl hlk2 hz hfk hM;go_wp2_with (first
         | (go_at_call 44;((with_reducible refine cL.mono ?_);rintro e w6 ⟨rfl,hb6⟩;rw [hW5.o] at hb6;have hN6:=ak w6 (.cells #[.int .u32 (x.key:Nat),.string z] 43);have HR6:=hid ((HR5.o.later hb6).later hN6);have HM6:Hid (Its (w6.alloc (.cells #[.int .u32 (x.key:Nat),.string z] 43)) (some ⟨w6.heap.size,0,none⟩) [⟨x.key,z⟩]):=hid (jG (kP (C:=itC) (p:=⟨x.key,z⟩) (Block.new w6 43 [.int .u32 (x.key:Nat),.string z])));clear hN6 hb6))
         | (at_builtin;refine iK rfl _ _ rfl [⟨x.key,z⟩] rfl _ _ rfl HR6 HM6 HN9 ?_;intro v' w' hG _;skip))
        exact ⟨⟨k+1,by omega,by go_num,hid (by rw [item.aH HGL.o,HM.o];exact hG.o)⟩,by simp [intOf];omega⟩
       ·obtain rfl:k=X.length:=by omega
        have hF:=HR.o;rw [<-hM,List.take_of_length_le si_] at hF;have HF:=hid hF;subst hu;clear hbq hb0q hbwq hF hM;go_wp2;go_ret2;exact tY.yes HBF.o (HF.o.of HBWR.o)
   ·have HBV:Hid (aV v (forms F) (sps L) I=([],12)):=hid (by
     unfold aV;rw [if_neg (by rw [HBE.o];simp),hG,if_pos (by simpa using fun _:Fits v G I=>by simpa using hrem)])
    have hdf:decide (Fits v G I)=true:=decide_eq_true hfit
    have cSt:=fun (W:World) (g:Nat) (sa:Option Addr) (sc:Nat) (hb:Below w.heap.size w W) (hs:Its W sa (sides I)) (hg:Block W g 25 [.slice la L.length lc])=>pK g la lc L sa sc (sides I) W (HARG.o W hb).stl (by have:=(HARG.o W hb).len;omega) hs (by have:(sides I).length<=I.length:=List.length_filter_le ..;omega) (fun p hp=>⟨by have:=(List.mem_filter.1 hp).2;simpa using this,HKEY.o p (List.mem_filter.1 hp).1⟩) hg
    unfold FH at cSt
    have cRy:∀(ph:Ph) (W:World),forms ph.F=G->PhR W ph->Below w.heap.size w W->Calls prog 21 #[zS v ph.a ph.F.length ph.c,.slice ia I.length ic] W fun e w'=>∃u,e=.returned (.tuple #[u,.bool true])/\Below W.heap.size W w':=by
     exact t78
    have cSy:∀(W:World) (g:Nat) (sa:Option Addr) (sc:Nat) (hb:Below w.heap.size w W) (hs:Its W sa (sides I)) (hg:Block W g 25 [.slice la L.length lc]),Calls prog 42 #[.slice sa (sides I).length sc,.func (.func 40) #[] #[.pointer (some ⟨g,0,none⟩)]] W fun e w'=>e=.returned (.bool true)/\Below W.heap.size W w':=by
     intro W g sa sc hb hs hg;refine (cSt W g sa sc hb hs hg).mono ?_;rintro e w' ⟨b,rfl,hb1,hb2⟩;cases b with
     | true=>exact ⟨rfl,hb2⟩
     | false=>exact absurd (hb1.1 rfl) hrem
    have HCR:=hid cRy
    have HCS:=hid cSy
    generalize sides I=S at *
    clear hfit hrem hdf cRd cRy cSt cSy hI60
    go_enter func14,ntmps14
    go_wp2_with (first
     | (go_at_call 20;((with_reducible refine cB1.mono ?_);rintro e w1 ⟨P,pa,pc,rfl,hPL,hPR,hPP,hb1⟩;have hbw1:=HBW.o.trans (hb1.mono HBW.o.size);have hPl:P.length=L.length+1:=(by have:=congrArg List.length hPP;rw [List.length_map,fM,HSL.o] at this;exact this);obtain ⟨gb,goff,ph,rfl,hgb,hph,g0,g1⟩:=rY hPL (Below.refl _ _) (k:=L.length) om_;obtain ⟨⟨_,k1,_⟩,_⟩:=hB0.o _ hb1;have z0:=k1.cell 0;have hphF:forms ph.F=G:=(by have:=nZ hPP (by rw [HSL.o];exact Nat.le_refl _) hph;rw [this,List.take_of_length_le (by rw [HSL.o];exact Nat.le_refl _)];exact HG.o);have cR1:=HCR.o ph w1 hphF (hPR ph (List.mem_of_getElem? hph)) hbw1;have i1:(L.length:Int)<(L.length:Int)+1:=om_;have HPL:=hid hPL;have HPR:=hid hPR;have HPP:=hid hPP;have HPl:=hid hPl;have HBW1:=hid hbw1;have HB1:=hid hb1;clear hPl hPL hPR hPP hgb hph hphF k1 hbw1 hb1))
     | (go_at_call 21;((with_reducible refine cR1.mono ?_);rintro e w2 ⟨xu,rfl,hb2⟩;have hbw2:=HBW1.o.trans (hb2.mono HBW1.o.size);have cS2:=cSd w2 hbw2;have HBW2:=hid hbw2;have HB2:=hid (HB1.o.trans (hb2.mono HB1.o.size));clear hbw2 hb2))
     | (go_at_call 39;((with_reducible refine cS2.mono ?_);rintro e w3 ⟨sa,sc,rfl,ho3,hb3⟩;have hbw3:=HBW2.o.trans (hb3.mono HBW2.o.size);have hb03:=HB2.o.trans (hb3.mono HB2.o.size);obtain ⟨⟨_,k1,_⟩,_⟩:=hB0.o _ hb03;have cS3:=HCS.o w3 (w.heap.size+1) sa sc hbw3 (item.nY ho3).1 k1;have HBW3:=hid hbw3;have HB03:=hid hb03;have HB3:=hid hb3;have HS3:=hid (item.nY ho3).1;clear k1 ho3 hb3 hbw3 hb03))
     | (go_at_call 42;((with_reducible refine cS3.mono ?_);rintro e w4 ⟨rfl,hb4⟩;have HBW4:=hid (HBW3.o.trans (hb4.mono HBW3.o.size));clear hb4)))
    go_ret2
    exact tY.no HBV.o HBW4.o
  ·have HBV:Hid (aV v (forms F) (sps L) I=([],12)):=hid (by
    unfold aV;rw [if_neg (by rw [HBE.o];simp),hG,if_pos (fun q=>hfit q.1)])
   have hdf:decide (Fits v G I)=false:=decide_eq_false hfit
   have cRy:∀(ph:Ph) (W:World),forms ph.F=G->PhR W ph->Below w.heap.size w W->Calls prog 21 #[zS v ph.a ph.F.length ph.c,.slice ia I.length ic] W fun e w'=>∃u,e=.returned (.tuple #[u,.bool false])/\Below W.heap.size W w':=by
    exact t78
   have HCR:=hid cRy
   generalize sides I=S at *
   clear hfit hdf cRd cRy hI60
   go_enter func14,ntmps14
   go_wp2_with (first
    | (go_at_call 20;((with_reducible refine cB1.mono ?_);rintro e w1 ⟨P,pa,pc,rfl,hPL,hPR,hPP,hb1⟩;have hbw1:=HBW.o.trans (hb1.mono HBW.o.size);have hPl:P.length=L.length+1:=(by have:=congrArg List.length hPP;rw [List.length_map,fM,HSL.o] at this;exact this);obtain ⟨gb,goff,ph,rfl,hgb,hph,g0,g1⟩:=rY hPL (Below.refl _ _) (k:=L.length) om_;obtain ⟨⟨_,k1,_⟩,_⟩:=hB0.o _ hb1;have z0:=k1.cell 0;have hphF:forms ph.F=G:=(by have:=nZ hPP (by rw [HSL.o];exact Nat.le_refl _) hph;rw [this,List.take_of_length_le (by rw [HSL.o];exact Nat.le_refl _)];exact HG.o);have cR1:=HCR.o ph w1 hphF (hPR ph (List.mem_of_getElem? hph)) hbw1;have i1:(L.length:Int)<(L.length:Int)+1:=om_;have HPL:=hid hPL;have HPR:=hid hPR;have HPP:=hid hPP;have HPl:=hid hPl;have HBW1:=hid hbw1;have HB1:=hid hb1;clear hPl hPL hPR hPP hgb hph hphF k1 hbw1 hb1))
    | (go_at_call 21;((with_reducible refine cR1.mono ?_);rintro e w2 ⟨xu,rfl,hb2⟩;have hbw2:=HBW1.o.trans (hb2.mono HBW1.o.size);have cS2:=cSd w2 hbw2;have HBW2:=hid hbw2;have HB2:=hid (HB1.o.trans (hb2.mono HB1.o.size));clear hbw2 hb2))
    | (go_at_call 39;((with_reducible refine cS2.mono ?_);rintro e w3 ⟨sa,sc,rfl,ho3,hb3⟩;have HBW3:=hid (HBW2.o.trans (hb3.mono HBW2.o.size));clear ho3 hb3)))
   go_ret2
   exact tY.no HBV.o HBW3.o
 ·have cB1:=cBg.mono (R':=fun e w'=>∃u,e=.returned (.tuple #[u,.int .i64 BE])/\Below W0.heap.size W0 w') (fun e w' ⟨P,u,he,hG,_,_⟩=>⟨u,he,by rw [hW0.o] at hG;exact hG.low⟩);have HBV:Hid (aV v (forms F) (sps L) I=([],BE)):=hid (by unfold aV;rw [hBE,if_pos hb0]);have hne:(BE != 0)=true:=by simpa using hb0
  clear cBg hb0 hBE hA bW0 hsl;go_enter func14,ntmps14;go_wp2_with (go_at_call 20;((with_reducible refine cB1.mono ?_);rintro e w1 ⟨u,rfl,hb1⟩;have HB1:=hid (HBW.o.trans (hb1.mono HBW.o.size));clear hb1));go_ret2;exact tY.no HBV.o HB1.o
end whole
end Go.Proofs.YtogkgbnpodojjaaGreat
