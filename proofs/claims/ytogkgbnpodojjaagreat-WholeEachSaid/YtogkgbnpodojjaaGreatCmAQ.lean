/- Contracts and lemmas that claims of this seat share: WholeRegain, WholeKeys. Each says its own conditions. -/
import Derived.Test.YtogkgbnpodojjaaGreatCmWord
import Derived.Test.YtogkgbnpodojjaaGreatCmJ
import Derived.Test.YtogkgbnpodojjaaGreatCmAE
import Derived.Test.YtogkgbnpodojjaaGreatCmAI
import Derived.Test.YtogkgbnpodojjaaGreatCmAP
import Derived.Test.YtogkgbnpodojjaaGreatCmAK
set_option linter.unusedVariables false
namespace Go.Proofs.YtogkgbnpodojjaaGreat
open Go.Proofs.Tryz
theorem t92{P:Prop}(h:P:=by
 have hb:=HB5w.o.trans (wL.o.mono HB5w.o.size);exact pF.no HEE.o HE0.o (HBW.o.trans (hb.mono HBW.o.size))):P:=h
namespace whole
open Go Go.RowKit schema typing turn
open field (Va ak)
open step (Sp Lists)
open item (It Its)
def pF (E:Int) (Q:List Ent) (w:World) (e:Ending) (w':World):Prop:=
 ∃(X:List En) (u:Value),e=.returned (.tuple #[u,.int .i64 E])/\Gath 68 3 enC (EnO w.heap.size) w X u w'/\(E=0->X.map En.p=Q)/\(E≠0->X=[])
theorem pF.no {E:Int} {Q:List Ent} {w w':World} {E':Int} (hE:E=E') (h0:E'≠0) (hb:Below w.heap.size w w'):pF E Q w (.returned (.tuple #[.slice none 0 0,.int .i64 E'])) w':=by
 subst hE;exact ⟨[],_,rfl,⟨World.ownsRow_nil _ _ _ _,hb,fun p hp=>by cases hp⟩,fun q=>absurd q h0,fun _=>rfl⟩
theorem pF.yes {E:Int} {Q:List Ent} {w w':World} {X:List En} {u:Value} (hE:E=0) (hX:Gath 68 3 enC (EnO w.heap.size) w X u w') (hp:X.map En.p=Q):pF E Q w (.returned (.tuple #[u,.int .i64 0])) w':=by
 subst hE;exact ⟨X,u,rfl,hX,fun _=>hp,fun q=>absurd rfl q⟩
theorem A7 (s:Sp) (ta:Option Addr) (tc:Nat) (la:Option Addr) (lc:Nat):Hid ((prog.info? 57).map (·.size)=some ((zP s ta tc la lc):List Value).length):=hid qg.o
theorem pq {n:Nat} {S:List It} {k:Nat} {p:It} (hp:S[k]?=some p) (h:told p.key=n):bM n (S.take (k+1))=bM n (S.take k)++[p]:=item.lQ hp (by simpa using h)
theorem EI {n:Nat} {S:List It} {k:Nat} {p:It} (hp:S[k]?=some p) (h:told p.key≠n):bM n (S.take (k+1))=bM n (S.take k):=item.nR hp (by simpa using h)
theorem Aq {n:Nat} {S:List It} {k:Nat}:(bM n S).take (bM n (S.take k)).length=bM n (S.take k):=by
 have h:bM n S=bM n (S.take k)++bM n (S.drop k):=by unfold bM;rw [<-List.filter_append,List.take_append_drop]
 rw [h,List.take_left' rfl]
theorem EH {n:Nat} {S:List It} {k:Nat} {p:It} (hp:S[k]?=some p) (h:told p.key=n):(bM n S)[(bM n (S.take k)).length]?=some p:=by
 conv=>lhs;rw [<-List.take_append_drop (k+1) S]
 have h1:=pq hp h;have h2:bM n (S.take (k+1)++S.drop (k+1))=bM n (S.take (k+1))++bM n (S.drop (k+1)):=by unfold bM;rw [List.filter_append]
 rw [h2,h1];simp
set_option maxRecDepth 20000 in
set_option maxHeartbeats 3200000 in
theorem uZ (v:Int) (a:Option Addr) (cc:Nat) (F:List Fm) (s:Sp) (ta:Option Addr) (tc:Nat) (la:Option Addr) (lc:Nat) (n:Nat) (sa:Option Addr) (sc:Nat) (S:List It) (w:World) (h:FmL w a F) (hF:Small w F) (hl:Lists w s ta la) (hL:s.l.length<=40) (hS:Its w sa S) (hn:S.length<=1000000)
  (hsz:∀p∈S,p.data.size<=64/\p.key<4294967296) (h0:(on v (forms F) s).2.2=0) (h10:s.op=10) (hfm:∀p∈S,told p.key=(n:Int)->s.fm=aK p.key):
  Calls prog 77 #[zS v a F.length cc,zP s ta tc la lc,.int .i64 (n:Int),.slice sa S.length sc] w (pF (fP (fun p:It=>(bC v (forms F) s p.data).2.2) (bM n S)) (regained v (forms F) s n S) w):=by
 have hml:(S.length:Int)<=1000000:=by omega
 have hsp:0<=s.fm/\s.fm<=200:=by
  obtain ⟨L,hnm,_⟩:=lg h0 h10;have:=(jw h0).1.1.2.2.1 _ (bH hnm).1;exact this.1
 obtain ⟨W0,hW0,bW0,hs0,hB0⟩:=aS w [(24,zS v a F.length cc),(57,zP s ta tc la lc)];simp only [boxes] at hW0;have HARG:Hid (∀w',Below w.heap.size w w'->FmL w' a F/\Small w' F/\Lists w' s ta la/\Its w' sa S):=hid fun w' hb=>⟨h.below hb,hF.below hb,hl.below hb,hS.below hb⟩
 have HIS:=A7 s ta tc la lc;have HSZ:=hid hsz;have HFM:=hid hfm;have HBW:=hid bW0;have HR0:=hid (fun p:It=>ve (lost:=p.data) h0 h10);have cG:=fun (p:It) (hp:p.data.size<=64) (W:World) (hb:Below w.heap.size w W)=>sF v a cc F s ta tc la lc p.data W (HARG.o W hb).1 (HARG.o W hb).2.1 (HARG.o W hb).2.2.1 hL (by unfold maxLen;omega) h0 h10
 have HCG:=hid cG;clear h hF hl hS hsz hfm bW0 cG h0 h10;go_enter func77,ntmps77;go_wp2;rw [hW0.o];go_loopw [10,22] (fun u m wr=>∃(k:Nat) (X:List En),k<=S.length/\m=.int .i64 (k:Int)/\Hid (Gath 68 3 enC (EnO w.heap.size) W0 X u wr)/\Hid (X.map En.p=(bM n (S.take k)).map fun p=>(p.key % 16777216,(bC v (forms F) s p.data).2.1))/\Hid (∀p∈bM n (S.take k),(bC v (forms F) s p.data).2.2=0)) (fun _ m _=>S.length - (intOf m).toNat);case atStart=>exact ⟨0,[],Nat.zero_le _,rfl,hid (Gath.nil W0),hid rfl,hid (fun p hp=>by simp [bM] at hp)⟩
 case round=>
  obtain ⟨k,X,hk,rfl,HX,HXP,HOK⟩:=hrel;obtain ⟨ua,uc,rfl,_⟩:=HX.o.form jD om_;have hbw:=HX.o.low;obtain ⟨_,hb0⟩:=hB0.o _ hbw;have HBR:=hid hbw;by_cases hlt:k<S.length
  ·obtain ⟨b,off,p,rfl,hbl,hp,c0,c1⟩:=item.qj (HARG.o _ hb0).2.2.2 (Below.refl _ _) hlt;have i1:(k:Int)<S.length:=by omega
   obtain ⟨hps,hpk⟩:=HSZ.o p (List.mem_of_getElem? hp);obtain ⟨W5,hW5,bW5,hs5,hB5⟩:=aS wr [(43,[.int .u32 (p.key:Nat),.string p.data])];simp only [boxes] at hW5;obtain ⟨fk,hfk⟩:∃fk:Nat,p.key % 16777216 / 65536=fk:=⟨_,rfl⟩;obtain ⟨ik,hik⟩:∃ik:Nat,p.key % 65536=ik:=⟨_,rfl⟩;obtain ⟨tk,htk⟩:∃tk:Int,told p.key=tk:=⟨_,rfl⟩;have cT:=item.qE p.key W5 hpk;unfold item.uf at cT;rw [hfk,hik,show (((p.key / 16777216:Nat):Int) - 1)=tk from htk] at cT;rw [<-hW5.o] at cT;have hB5w:Below W0.heap.size W0 W5:=hbw.trans (bW5.mono hbw.size);have HX5:=hid (HX.o.later bW5);have HB5w:=hid hB5w;have HP:=hid hp;by_cases hnk:tk=(n:Int)
   ·have hne:(tk != (n:Int))=false:=by simp [hnk]
    have hff:s.fm=(fk:Int):=by have:=HFM.o p (List.mem_of_getElem? hp) (by rw [htk];exact hnk);rw [this,<-hfk];rfl
    have hfm2:fk*65536+ik=p.key % 16777216:=by omega
    have cM:=fun W=>item.Aj fk ik W om_ om_
    unfold item.Gives item.key at cM;rw [hfm2] at cM;obtain ⟨T,hT⟩:∃T,bC v (forms F) s p.data=T:=⟨_,rfl⟩;have cG:=HCG.o p hps;have hTO:=HR0.o p;simp only [hT] at cG hTO;obtain ⟨T1,T2,T3⟩:=T;unfold ku at cG;simp only at cG hTO;have HTK:Hid (told p.key=(n:Int)):=hid (htk.trans hnk);have HT:=hid hT;have hfo:aK (p.key % 16777216)=s.fm:=by rw [hff,<-hfk];unfold aK;rw [Nat.mod_mod]
    have HFO:=hid hfo;have HM:Hid (p.key % 16777216<4294967296):=hid om_;generalize hmk:p.key % 16777216=mk at *;have HMK:=hid hmk;clear hp hbw hb0 hnk htk hik hfk hff hfm2 hB5w hT hfo hps hpk hmk;by_cases hE:T3=0
    ·subst hE;have HT1:Hid (T1=s.fm):=hid (congrArg (·.1) (hTO rfl).1);clear hTO;go_wp2_with (first
      | (with_reducible refine wpList_load_mid rfl 57 (.tmp 5) rfl (w.heap.size+1) 0 rfl (zP s ta tc la lc) _ HRG.o underlying57 rfl HIS.o ?_)
      | (go_at_call 52;((with_reducible refine cT.mono ?_);rintro e w6 ⟨rfl,hb6⟩;rw [hW5.o] at hb6;have hb36:=HB5w.o.trans (hb6.mono HB5w.o.size);obtain ⟨⟨k0,k1,_⟩,hb06⟩:=hB0.o _ hb36;have x0:=k0.cell 0;have x1:=k0.cell 1;have HRG:=hid k1.whole;obtain ⟨⟨k5,_⟩,_⟩:=hB5.o _ hb6;have y0:=k5.cell 0;have y1:=k5.cell 1;have cG6:=cG _ hb06;have HB56:=hid hb6;clear k0 k1 k5 hb06 hb36 hb6))
      | (go_at_call 123;((with_reducible refine cG6.mono ?_);rintro e w9 ⟨x9,c9,rfl,ho9,hb9⟩;have hb59:=HB56.o.trans (hb9.mono HB56.o.size);have hN9:=ak w9 (.cells (zS T1 x9 T2.length c9) 66);have xB:=hb59.trans (hN9.mono hb59.size);have HO9:Hid (Own W5.heap.size (w9.alloc (.cells (zS T1 x9 T2.length c9) 66)) (.slice x9 T2.length c9) T2):=hid (ai (aW ho9 HB56.o.size) hN9);have HKR:Hid (Block (w9.alloc (.cells (zS T1 x9 T2.length c9) 66)) w9.heap.size 66 (zS T1 x9 T2.length c9)):=hid (Block.new w9 _ _);have wL:=hid xB;clear hb59 xB hN9 hb9 ho9))
      | (go_at_call 124;((with_reducible refine (cM _).mono ?_);rintro e w11 ⟨rfl,hb11⟩;have JC:=wL.o.trans (hb11.mono wL.o.size);have hk11:=HKR.o.later hb11;have q0:=hk11.cell 0;have q1:=hk11.cell 1;have hN11:=ak w11 (.cells #[.int .u32 (mk:Nat),.int .i64 T1,.slice x9 T2.length c9] 68);have HX12:=hid ((HX5.o.later JC).later hN11);have hOX:=fun g hg=>(World.ownsRow.lt HX5.o.own g hg).2;have HM12:Hid (Lie 3 enC (w11.alloc (.cells #[.int .u32 (mk:Nat),.int .i64 T1,.slice x9 T2.length c9] 68)) (some ⟨w11.heap.size,0,none⟩) [⟨mk,x9,c9,T2⟩]):=hid (by have hz:=Block.new w11 68 [.int .u32 (mk:Nat),.int .i64 T1,.slice x9 T2.length c9];rw [HT1.o,<-HFO.o] at hz ⊢;exact kP (C:=enC) (p:=⟨mk,x9,c9,T2⟩) hz);have HR12:Hid (∀z∈[(⟨mk,x9,c9,T2⟩:En)],Kept (fun W=>EnO w.heap.size W z) (.slice ua X.length uc) (w11.alloc (.cells #[.int .u32 (mk:Nat),.int .i64 T1,.slice x9 T2.length c9] 68))):=hid (fun z hz=>by rw [List.mem_singleton.1 hz];exact (qX (ai HO9.o hb11) (HBW.o.trans (HB5w.o.mono HBW.o.size)).size hOX).later hN11);have HN12:Hid (X.length+[(⟨mk,x9,c9,T2⟩:En)].length<=1000000):=hid (by have h1:=congrArg List.length HXP.o;simp only [List.length_map] at h1;have h2:(bM n (S.take k)).length<=(S.take k).length:=List.length_filter_le ..;rw [List.length_take] at h2;simp only [List.length_singleton];omega);clear hN11 hOX hk11 JC hb11))
      | (at_builtin;refine fZ rfl _ _ rfl [⟨mk,x9,c9,T2⟩] rfl _ _ rfl HX12 HM12 HR12 HN12 ?_;intro v' w' hG _;skip))
     refine ⟨⟨k+1,X++[⟨mk,x9,c9,T2⟩],by omega,by go_num,hG,hid ?_,hid (fun z hz=> ?_)⟩,by simp [intOf];omega⟩
     ·rw [pq HP.o HTK.o,List.map_append,List.map_append,HXP.o,List.map_singleton,List.map_singleton,HMK.o,HT.o];rfl
     ·rw [pq HP.o HTK.o] at hz;rcases List.mem_append.1 hz with hz | hz
      ·exact HOK.o z hz
      ·rw [List.mem_singleton.1 hz,HT.o]
    ·have hE':(T3 != 0)=true:=by simpa using hE
     have HEE:Hid (fP (fun p:It=>(bC v (forms F) s p.data).2.2) (bM n S)=T3):=hid (by
      have:=xh (f:=fun p:It=>(bC v (forms F) s p.data).2.2) (l:=bM n S) (k:=(bM n (S.take k)).length) (x:=p) (by rw [Aq];exact HOK.o) (EH HP.o HTK.o) (by simp only [HT.o];exact hE);rw [this,HT.o])
     have HE0:=hid hE;clear hTO hE;go_wp2_with (first
      | (with_reducible refine wpList_load_mid rfl 57 (.tmp 5) rfl (w.heap.size+1) 0 rfl (zP s ta tc la lc) _ HRG.o underlying57 rfl HIS.o ?_)
      | (go_at_call 52;((with_reducible refine cT.mono ?_);rintro e w6 ⟨rfl,hb6⟩;rw [hW5.o] at hb6;have hb36:=HB5w.o.trans (hb6.mono HB5w.o.size);obtain ⟨⟨k0,k1,_⟩,hb06⟩:=hB0.o _ hb36;have x0:=k0.cell 0;have x1:=k0.cell 1;have HRG:=hid k1.whole;obtain ⟨⟨k5,_⟩,_⟩:=hB5.o _ hb6;have y0:=k5.cell 0;have y1:=k5.cell 1;have cG6:=cG _ hb06;have HB56:=hid hb6;clear k0 k1 k5 hb06 hb36 hb6))
      | (go_at_call 123;((with_reducible refine cG6.mono ?_);rintro e w9 ⟨x9,c9,rfl,ho9,hb9⟩;have hb59:=HB56.o.trans (hb9.mono HB56.o.size);have hN9:=ak w9 (.cells (zS T1 x9 T2.length c9) 66);have wL:=hid (hb59.trans (hN9.mono hb59.size));clear hb59 hN9 hb9 ho9)))
     go_ret2
     exact t92
   ·have hne:(tk != (n:Int))=true:=by simpa using hnk
    have HNO:=hid (EI hp (by rw [htk];exact hnk));clear hp hbw hb0 hnk htk hik hfk hB5w hps hpk;go_wp2_with (first
      | (go_at_call 52;((with_reducible refine cT.mono ?_);rintro e w6 ⟨rfl,hb6⟩;rw [hW5.o] at hb6;have HB56:=hid hb6;clear hb6)))
    exact ⟨⟨k+1,X,by omega,by go_num,hid (HX5.o.later HB56.o),hid (by rw [HNO.o];exact HXP.o),hid (by rw [HNO.o];exact HOK.o)⟩,by simp [intOf];omega⟩
  ·obtain rfl:k=S.length:=by omega
   have hok2:=HOK.o;have hxp2:=HXP.o;rw [List.take_of_length_le (Nat.le_refl _)] at hok2 hxp2;have HE:=hid ((fK (f:=fun p:It=>(bC v (forms F) s p.data).2.2)).2 hok2);have HXP2:=hid hxp2;clear hok2 hxp2 hbw hb0;go_wp2;go_ret2;exact pF.yes HE.o (HX.o.of HBW.o) HXP2.o
end whole
theorem t64{P:Prop}(h:P:=by
 go_enter func41,ntmps41;go_wp2_with (go_at_call 52;((with_reducible refine cT.mono ?_);rintro e w1 ⟨rfl,hb1⟩;obtain ⟨y0,y1⟩:=HZ.o _ hb1));go_ret;exact .no HE hb1):P:=h
theorem t62{P:Prop}(h:P:=by
 go_enter func41,ntmps41;go_wp2_with (go_at_call 52;((with_reducible refine cT.mono ?_);rintro e w1 ⟨rfl,hb1⟩;obtain ⟨y0,y1⟩:=HZ.o _ hb1));go_ret;exact .yes HE hb1):P:=h
namespace whole
open Go Go.RowKit
open item (It Its uf)
open step (St StL sps mr)
theorem jU (n k:Nat) (w:World) (hn:n<=199) (hk:k<4294967296) (hf:k % 16777216 / 65536<=200):
  Calls prog 56 #[.int .i64 (n:Int),.int .u32 (k:Int)] w (Gives (.int .u32 (bJ n k:Nat)) w):=by
 have cT:=item.qE k w hk;have cS:=fun w'=>item.Hr n (k % 16777216 / 65536) (k % 65536) w' hn hf om_
 have e:(n+1)*16777216+(k % 16777216 / 65536*65536+k % 65536)=bJ n k:=by unfold bJ;omega
 rw [e] at cS;unfold item.Gives item.key at cS;unfold item.uf at cT;unfold Gives;generalize bJ n k=z at *;generalize ((k % 16777216 / 65536:Nat):Int)=f at *;generalize ((k % 65536:Nat):Int)=i at *;generalize (((k / 16777216:Nat):Int) - 1)=m at *;clear hn hk hf e;go_enter func56,ntmps56;go_wp2_with (first
  | (go_at_call 52;((with_reducible refine cT.mono ?_);rintro e w1 ⟨rfl,hb1⟩))
  | (go_at_call 102;((with_reducible refine (cS _).mono ?_);rintro e w2 ⟨rfl,hb2⟩;have HB:=hid (hb1.trans (hb2.mono hb1.size)))))
 go_ret;exact ⟨rfl,HB.o⟩
def wQ (L:List step.Sp) (k:Nat) (w:World) (e:Ending) (w':World):Prop:=∃b:Bool,e=.returned (.bool b)/\(b=true↔Removed L k)/\Below w.heap.size w w'
theorem wQ.yes {L:List step.Sp} {k:Nat} {w w':World} (h:Hid (Removed L k)) (hb:Below w.heap.size w w'):wQ L k w (.returned (.bool true)) w':=⟨true,rfl,⟨fun _=>h.o,fun _=>rfl⟩,hb⟩
theorem wQ.no {L:List step.Sp} {k:Nat} {w w':World} (h:Hid (¬Removed L k)) (hb:Below w.heap.size w w'):wQ L k w (.returned (.bool false)) w':=⟨false,rfl,⟨fun q=>(by cases q),fun q=>absurd q h.o⟩,hb⟩
theorem AL (a:Option Addr) (c:Nat) (L:List St) (k:Nat) (w:World) (h:StL w a L) (hL:L.length<=200) (hk:k<4294967296) (h24:16777216<=k):
  Calls prog 41 #[.slice a L.length c,.int .u32 (k:Int)] w (wQ (sps L) k w):=by
 have cT:=item.qE k w hk;obtain ⟨n,hn⟩:∃n:Nat,k / 16777216=n+1:=⟨k / 16777216 - 1,by omega⟩;have en:(((k / 16777216:Nat):Int) - 1)=(n:Int):=by omega
 have et:told k=(n:Int):=by unfold told;exact en
 unfold item.uf at cT;rw [en] at cT;have hr:Removed (sps L) k↔∃p,L[n]?=some p/\p.s.fm=((k % 16777216 / 65536:Nat):Int)/\(p.s.op=2\/p.s.op=10):=by
  unfold Removed;rw [et];simp only [Int.toNat_natCast];constructor
  ·rintro ⟨_,s,hs,h1,h2⟩;unfold sps at hs;rw [List.getElem?_map,Option.map_eq_some_iff] at hs;obtain ⟨p,hp,rfl⟩:=hs;exact ⟨p,hp,h1,h2⟩
  ·rintro ⟨p,hp,h1,h2⟩;exact ⟨by omega,p.s,by unfold sps;rw [List.getElem?_map,hp];rfl,h1,h2⟩
 have HR:=hid hr;have hml:(L.length:Int)<=200:=by omega
 have HL:=hid h;obtain ⟨fm,hfm⟩:∃fm:Int,((k % 16777216 / 65536:Nat):Int)=fm:=⟨_,rfl⟩;rw [hfm] at cT HR;generalize ((k % 65536:Nat):Int)=id at cT;clear hr et en hn hk h24 h hfm;by_cases h1:n<L.length
 ·have i1:¬((n:Int)≥(L.length:Int)):=by omega
  have i2:(n:Int)<(L.length:Int):=by omega
  have d1:decide ((n:Int)≥(L.length:Int))=false:=decide_eq_false i1;obtain ⟨b,off,p,rfl,hbl,hp,hls,z0,z1,_⟩:=mr HL.o (Below.refl _ _) h1;have HP:=hid hp;have HZ:Hid (∀w',Below w.heap.size w w'->w'.cell? ⟨b,off+n*16,none⟩=some (.int .i64 p.s.op)/\w'.cell? ⟨b,off+n*16+1,none⟩=some (.int .i64 p.s.fm)):=hid fun w' hb=>⟨(hb.cell (p:=⟨b,off+n*16,none⟩) hbl).trans z0,(hb.cell (p:=⟨b,off+n*16+1,none⟩) hbl).trans z1⟩
  clear hls z0 z1 hp h1;by_cases hf:p.s.fm=fm
  ·have d2:(p.s.fm != fm)=false:=by simp [hf]
   by_cases h2:p.s.op=2
   ·have d3:(p.s.op == 2)=true:=by simp [h2]
    have HE:Hid (Removed (sps L) k):=hid (HR.o.2 ⟨p,HP.o,hf,.inl h2⟩);clear hf h2
    exact t62
   ·have d3:(p.s.op == 2)=false:=by simp [h2]
    by_cases h3:p.s.op=10
    ·have d4:(p.s.op == 10)=true:=by simp [h3]
     have HE:Hid (Removed (sps L) k):=hid (HR.o.2 ⟨p,HP.o,hf,.inr h3⟩);clear hf h2 h3
     exact t62
    ·have d4:(p.s.op == 10)=false:=by simp [h3]
     have HE:Hid (¬Removed (sps L) k):=hid (fun q=>by
      obtain ⟨p',hp',_,hq⟩:=HR.o.1 q;rw [HP.o] at hp';cases hp'
      exact h3 (hq.resolve_left h2))
     clear hf h2 h3
     exact t64
  ·have d2:(p.s.fm != fm)=true:=by simpa using hf
   have HE:Hid (¬Removed (sps L) k):=hid (fun q=>by
    obtain ⟨p',hp',hq,_⟩:=HR.o.1 q;rw [HP.o] at hp';cases hp'
    exact absurd hq hf)
   clear hf
   exact t64
 ·have i1:((n:Int)≥(L.length:Int)):=by omega
  have d1:decide ((n:Int)≥(L.length:Int))=true:=decide_eq_true i1;have HE:Hid (¬Removed (sps L) k):=hid (fun q=>by
   obtain ⟨p',hp',_⟩:=HR.o.1 q;exact absurd (List.getElem?_eq_some_iff.1 hp').1 h1)
  clear h1;go_enter func41,ntmps41;go_wp2_with (go_at_call 52;((with_reducible refine cT.mono ?_);rintro e w1 ⟨rfl,hb1⟩));go_ret;exact .no HE hb1
theorem EZ (g:Nat) (a:Option Addr) (c:Nat) (L:List St) (p:It) (w:World) (h:StL w a L) (hL:L.length<=200) (hk:p.key<4294967296) (h24:16777216<=p.key) (hg:Block w g 25 [.slice a L.length c]):
  Calls prog 40 #[.agg #[.int .u32 (p.key:Nat),.string p.data],.pointer (some ⟨g,0,none⟩)] w fun e w'=>∃b:Bool,e=.returned (.bool (!b))/\(b=true↔Removed (sps L) p.key)/\Below w.heap.size w w':=by
 have HN:=item.ak w (.cells #[.int .u32 (p.key:Nat),.string p.data] 43);have cR:=AL a c L p.key _ (h.below HN) hL hk h24;have z0:=(hg.later HN).cell 0;have HB:=hid HN;unfold wQ at cR;clear h hL hk h24 hg;go_enter func40,ntmps40;go_wp2_with (go_at_call 41;((with_reducible refine cR.mono ?_);rintro e w1 ⟨b,rfl,hb,hb1⟩));go_ret;exact ⟨b,rfl,hb,HB.o.trans (hb1.mono HB.o.size)⟩
end whole
end Go.Proofs.YtogkgbnpodojjaaGreat
