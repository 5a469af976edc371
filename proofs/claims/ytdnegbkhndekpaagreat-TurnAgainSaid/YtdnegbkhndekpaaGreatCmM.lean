/- Contracts and lemmas that claims of this seat share: SchemaRefFine, FormOwn, InsertM, DeleteM. Each says its own conditions. -/
import Derived.Test.YtdnegbkhndekpaaGreatCmWord
import Derived.Conc.WalkWords
import Derived.Test.YtdnegbkhndekpaaGreatCmG
import Derived.Test.YtdnegbkhndekpaaGreatCmA
set_option linter.unusedVariables false
namespace Go.Proofs.YtdnegbkhndekpaaGreat
open Go.Proofs.Tryz
theorem t171{P:Prop}(h:P:=by
 refine plan.Rest.first 18 _ (.bool true) rfl (fun w' hb'=>kr_) ?_
 exact t60):P:=h
theorem t85{P:Prop}(h:P:=by
 refine plan.Rest.done ?_;walk_nrm;go_wp2;exact ⟨⟨k+1,by omega,by go_num,HOK2,hid (HB.o.trans (hb.mono HB.o.size))⟩,by simp [intOf];omega⟩):P:=h
theorem t79{P:Prop}(h:P:=by
 go_enter func37,ntmps37;go_wp2;go_ret;exact ⟨rfl,HW.o⟩):P:=h
theorem t60{P:Prop}(h:P:=by
 refine plan.Rest.done ?_;walk_nrm;go_wp2;go_ret;exact ⟨rfl,hbo.trans (hb.mono hbo.size)⟩):P:=h
namespace schema
open Go.RowKit
open field (Gives aC aj aP)
set_option maxRecDepth 20000 in
set_option maxHeartbeats 1600000 in
theorem mM (i:Int) (a:Option Addr) (cap:Nat) (L:List field.Fd) (w:World) (h:field.Fds w a L) (hL:L.length<=maxLen):
  Calls prog 37 #[zS i a L.length cap] w (Gives (.bool (decide (Fine (i,L)))) w):=by
 have hml:(L.length:Int)<=9223372036854775807:=by unfold maxLen at hL;omega
 have HX:=hid (xC i a L cap w);have hw:=aC w (.cells (zS i a L.length cap) 57);have HF:=hid (h.below hw);have HW:=hid hw;have HB0:=hid (Block.new w 57 (zS i a L.length cap));obtain ⟨r,hr⟩:∃r:Bool,Hid (decide (Fine (i,L))=r):=⟨_,rfl⟩;rw [hr.o];unfold Gives;clear h hw;by_cases h1:i<0
 ·obtain rfl:false=r:=by rw [<-hr.o];exact (decide_eq_false (fun e=>by have:=e.1.1;simp at this;omega)).symm
  have hd1:decide (i<0)=true:=decide_eq_true h1;clear h1
  exact t79
 have hd1:decide (i<0)=false:=decide_eq_false h1;by_cases h2:i>200
 ·obtain rfl:false=r:=by rw [<-hr.o];exact (decide_eq_false (fun e=>by have:=e.1.2;simp at this;omega)).symm
  have hd2:decide (i>200)=true:=decide_eq_true h2;clear h1 h2
  exact t79
 have hd2:decide (i>200)=false:=decide_eq_false h2;by_cases h3:L.length<1
 ·obtain rfl:false=r:=by rw [<-hr.o];exact (decide_eq_false (fun e=>by have:=e.2.1.1;simp only at this;omega)).symm
  have hd3:decide ((L.length:Int)<1)=true:=decide_eq_true om_;clear h1 h2 h3
  exact t79
 have hd3:decide ((L.length:Int)<1)=false:=decide_eq_false om_;by_cases h4:L.length>8
 ·obtain rfl:false=r:=by rw [<-hr.o];exact (decide_eq_false (fun e=>by have:=e.2.1.2;simp only at this;omega)).symm
  have hd4:decide ((L.length:Int)>8)=true:=decide_eq_true om_;clear h1 h2 h3 h4
  exact t79
 have hd4:decide ((L.length:Int)>8)=false:=decide_eq_false om_;have HFI:Hid (Fine (i,L)↔jv L/\size L<=64):=hid ⟨fun e=>⟨e.2.2.1,e.2.2.2⟩,fun e=>⟨by simp;omega,by simp;omega,e.1,e.2⟩⟩;have h8:L.length<=8:=by omega
 clear h1 h2 h3 h4;go_enter func37,ntmps37;go_wp2;clear hd1 hd2 hd3 hd4;generalize (w.alloc (.cells (zS i a L.length cap) 57))=W0 at *;go_loopw [3] (fun n wr=>∃k:Nat,k<=L.length/\n=.int .i64 (k:Int)/\Hid (jv (L.take k))/\Hid (Below W0.heap.size W0 wr)) (fun n _=>L.length - (intOf n).toNat);case atStart=>exact ⟨0,Nat.zero_le _,rfl,hid jv.nil,hid (Below.refl _ _)⟩
 case round=>
  obtain ⟨k,hk,rfl,HOK,HB⟩:=hrel;obtain ⟨z0,z1,hbo⟩:=HX.o _ HB.o;by_cases hlt:k<L.length
  ·obtain ⟨b,off,p,rfl,hbl,hp,c0,c1,c2,c3,c4⟩:=di HF.o HB.o hlt;have i1:(k:Int)<L.length:=by omega
   have HNO:=hid (AB hp);have HSUC:=hid (rJ hp);have HAT:=hid (JU (wH hp));have hR:=nX c0 c1 c2 c3 c4;have HZ:=hid (fun w' (hb':Below wr.heap.size wr w')=>(⟨by obtain ⟨_,y1,_⟩:=HX.o w' (HB.o.trans (hb'.mono HB.o.size));exact y1,(HB0.o.later (HB.o.trans (hb'.mono HB.o.size))).whole,ja hR hb' hbl⟩:w'.cell? ⟨w.heap.size,1,none⟩=some (.slice (some ⟨b,off,none⟩) L.length cap)/\w'.rangeAt w.heap.size 0 (zS i (some ⟨b,off,none⟩) L.length cap)/\w'.rangeAt b (off+k*5) (zF p)));have ca:=fun w' (hb':Below wr.heap.size wr w')=>lD i (some ⟨b,off,none⟩) cap L p.id w' (HF.o.below (HB.o.trans (hb'.mono HB.o.size))) hL
   have cr:=fun w'=>aP p w'
   clear hp hR;generalize ai (ids L) p.id=J at *;by_cases hri:p.Right
   ·rw [decide_eq_true hri] at cr;by_cases hj:J=(k:Int)
    ·have HNQ:Hid ((J != (k:Int))=false):=hid (by rw [hj];simp);have HOK2:Hid (jv (L.take (k+1))):=hid (HSUC.o.2 ⟨HOK.o,hri,by rw [Ae];exact HAT.o.1 hj⟩);clear hri hj c0 c1 c2 c3 c4;go_wp2;have hb:Below wr.heap.size wr wr.drew:=aI (Below.refl _ _)
     ·refine plan.region kr_ ?_;refine plan.Rest.first 0 _ (.pointer (some ⟨w.heap.size,1,none⟩)) rfl (fun w' hb'=>kr_) ?_;refine plan.Rest.first 1 _ (.slice (some ⟨b,off,none⟩) L.length cap) rfl (fun w' hb'=>ay (ad:=⟨w.heap.size,1,none⟩) rfl (HZ.o _ (hb.trans (hb'.mono hb.size))).1 isAgg30) ?_;refine plan.Rest.first 2 _ (.int .i64 (k:Int)) rfl (fun w' hb'=>kr_) ?_;refine plan.Rest.first 3 _ (.pointer (some ⟨b,off+k*5,none⟩)) rfl (fun w' hb'=>(fB (b:=b) (off:=off) (len:=L.length) (cap:=cap) (i:=k) rfl hlt)) ?_;refine plan.Rest.first 4 _ (zF p) rfl (fun w' hb'=>ak (b:=b) (off:=off+k*5) rfl (HZ.o _ (hb.trans (hb'.mono hb.size))).2.2 underlying26 rfl aX.o) ?_;refine plan.Rest.call 5 _ 67 #[zF p] rfl ((cr wr.drew).mono ?_);rintro e W1 ⟨rfl,hn⟩;have hb:=hb.trans (hn.mono hb.size);refine ⟨_,rfl,hn, ?_⟩;refine plan.Rest.first 6 _ (.bool false) rfl (fun w' hb'=>kr_) ?_;refine plan.Rest.first 7 _ (.bool false) rfl (fun w' hb'=>kr_) ?_;refine plan.Rest.first 8 _ (zS i (some ⟨b,off,none⟩) L.length cap) rfl (fun w' hb'=>ak (b:=w.heap.size) (off:=0) rfl (HZ.o _ (hb.trans (hb'.mono hb.size))).2.1 underlying57 rfl lg.o) ?_;refine plan.Rest.first 9 _ (.pointer (some ⟨w.heap.size,1,none⟩)) rfl (fun w' hb'=>kr_) ?_;refine plan.Rest.first 10 _ (.slice (some ⟨b,off,none⟩) L.length cap) rfl (fun w' hb'=>ay (ad:=⟨w.heap.size,1,none⟩) rfl (HZ.o _ (hb.trans (hb'.mono hb.size))).1 isAgg30) ?_;refine plan.Rest.first 11 _ (.int .i64 (k:Int)) rfl (fun w' hb'=>kr_) ?_;refine plan.Rest.first 12 _ (.pointer (some ⟨b,off+k*5,none⟩)) rfl (fun w' hb'=>(fB (b:=b) (off:=off) (len:=L.length) (cap:=cap) (i:=k) rfl hlt)) ?_;refine plan.Rest.first 13 _ (.pointer (some ⟨b,off+k*5,none⟩)) rfl (fun w' hb'=>kr_) ?_;refine plan.Rest.first 14 _ (.int .i64 p.id) rfl (fun w' hb'=>ah (ad:=⟨b,off+k*5,none⟩) rfl kr_ ((HZ.o _ (hb.trans (hb'.mono hb.size))).2.2 0 _ rfl) isAgg3) ?_;refine plan.Rest.first 16 _ (.int .i64 (k:Int)) rfl (fun w' hb'=>kr_) ?_;refine plan.Rest.call 15 _ 23 #[zS i (some ⟨b,off,none⟩) L.length cap,.int .i64 p.id] rfl ((ca W1 hb).mono ?_);rintro e W2 ⟨rfl,hn⟩;have hb:=hb.trans (hn.mono hb.size);refine ⟨_,rfl,hn, ?_⟩;refine plan.Rest.first 17 _ (.bool false) rfl (fun w' hb'=>(eU (n:=J) (m:=(k:Int)) rfl HNQ)) ?_;refine plan.Rest.first 18 _ (.bool false) rfl (fun w' hb'=>kr_) ?_
      exact t85
    ·have HNQ:Hid ((J != (k:Int))=true):=hid (by simp [hj]);obtain rfl:false=r:=by rw [<-hr.o];exact (decide_eq_false (fun e=>HNO.o (fun e2=>hj (HAT.o.2 (by rw [<-Ae];exact e2.2))) (HFI.o.1 e).1)).symm
     clear hri hj c0 c1 c2 c3 c4;go_wp2;have hb:Below wr.heap.size wr wr.drew:=aI (Below.refl _ _)
     ·refine plan.region kr_ ?_;refine plan.Rest.first 0 _ (.pointer (some ⟨w.heap.size,1,none⟩)) rfl (fun w' hb'=>kr_) ?_;refine plan.Rest.first 1 _ (.slice (some ⟨b,off,none⟩) L.length cap) rfl (fun w' hb'=>ay (ad:=⟨w.heap.size,1,none⟩) rfl (HZ.o _ (hb.trans (hb'.mono hb.size))).1 isAgg30) ?_;refine plan.Rest.first 2 _ (.int .i64 (k:Int)) rfl (fun w' hb'=>kr_) ?_;refine plan.Rest.first 3 _ (.pointer (some ⟨b,off+k*5,none⟩)) rfl (fun w' hb'=>(fB (b:=b) (off:=off) (len:=L.length) (cap:=cap) (i:=k) rfl hlt)) ?_;refine plan.Rest.first 4 _ (zF p) rfl (fun w' hb'=>ak (b:=b) (off:=off+k*5) rfl (HZ.o _ (hb.trans (hb'.mono hb.size))).2.2 underlying26 rfl aX.o) ?_;refine plan.Rest.call 5 _ 67 #[zF p] rfl ((cr wr.drew).mono ?_);rintro e W1 ⟨rfl,hn⟩;have hb:=hb.trans (hn.mono hb.size);refine ⟨_,rfl,hn, ?_⟩;refine plan.Rest.first 6 _ (.bool false) rfl (fun w' hb'=>kr_) ?_;refine plan.Rest.first 7 _ (.bool false) rfl (fun w' hb'=>kr_) ?_;refine plan.Rest.first 8 _ (zS i (some ⟨b,off,none⟩) L.length cap) rfl (fun w' hb'=>ak (b:=w.heap.size) (off:=0) rfl (HZ.o _ (hb.trans (hb'.mono hb.size))).2.1 underlying57 rfl lg.o) ?_;refine plan.Rest.first 9 _ (.pointer (some ⟨w.heap.size,1,none⟩)) rfl (fun w' hb'=>kr_) ?_;refine plan.Rest.first 10 _ (.slice (some ⟨b,off,none⟩) L.length cap) rfl (fun w' hb'=>ay (ad:=⟨w.heap.size,1,none⟩) rfl (HZ.o _ (hb.trans (hb'.mono hb.size))).1 isAgg30) ?_;refine plan.Rest.first 11 _ (.int .i64 (k:Int)) rfl (fun w' hb'=>kr_) ?_;refine plan.Rest.first 12 _ (.pointer (some ⟨b,off+k*5,none⟩)) rfl (fun w' hb'=>(fB (b:=b) (off:=off) (len:=L.length) (cap:=cap) (i:=k) rfl hlt)) ?_;refine plan.Rest.first 13 _ (.pointer (some ⟨b,off+k*5,none⟩)) rfl (fun w' hb'=>kr_) ?_;refine plan.Rest.first 14 _ (.int .i64 p.id) rfl (fun w' hb'=>ah (ad:=⟨b,off+k*5,none⟩) rfl kr_ ((HZ.o _ (hb.trans (hb'.mono hb.size))).2.2 0 _ rfl) isAgg3) ?_;refine plan.Rest.first 16 _ (.int .i64 (k:Int)) rfl (fun w' hb'=>kr_) ?_;refine plan.Rest.call 15 _ 23 #[zS i (some ⟨b,off,none⟩) L.length cap,.int .i64 p.id] rfl ((ca W1 hb).mono ?_);rintro e W2 ⟨rfl,hn⟩;have hb:=hb.trans (hn.mono hb.size);refine ⟨_,rfl,hn, ?_⟩;refine plan.Rest.first 17 _ (.bool true) rfl (fun w' hb'=>(eU (n:=J) (m:=(k:Int)) rfl HNQ)) ?_
      exact t171
   ·rw [decide_eq_false hri] at cr;obtain rfl:false=r:=by rw [<-hr.o];exact (decide_eq_false (fun e=>HNO.o (fun e2=>hri e2.1) (HFI.o.1 e).1)).symm
    clear hri c0 c1 c2 c3 c4;go_wp2;have hb:Below wr.heap.size wr wr.drew:=aI (Below.refl _ _)
    ·refine plan.region kr_ ?_;refine plan.Rest.first 0 _ (.pointer (some ⟨w.heap.size,1,none⟩)) rfl (fun w' hb'=>kr_) ?_;refine plan.Rest.first 1 _ (.slice (some ⟨b,off,none⟩) L.length cap) rfl (fun w' hb'=>ay (ad:=⟨w.heap.size,1,none⟩) rfl (HZ.o _ (hb.trans (hb'.mono hb.size))).1 isAgg30) ?_;refine plan.Rest.first 2 _ (.int .i64 (k:Int)) rfl (fun w' hb'=>kr_) ?_;refine plan.Rest.first 3 _ (.pointer (some ⟨b,off+k*5,none⟩)) rfl (fun w' hb'=>(fB (b:=b) (off:=off) (len:=L.length) (cap:=cap) (i:=k) rfl hlt)) ?_;refine plan.Rest.first 4 _ (zF p) rfl (fun w' hb'=>ak (b:=b) (off:=off+k*5) rfl (HZ.o _ (hb.trans (hb'.mono hb.size))).2.2 underlying26 rfl aX.o) ?_;refine plan.Rest.call 5 _ 67 #[zF p] rfl ((cr wr.drew).mono ?_);rintro e W1 ⟨rfl,hn⟩;have hb:=hb.trans (hn.mono hb.size);refine ⟨_,rfl,hn, ?_⟩;refine plan.Rest.first 6 _ (.bool true) rfl (fun w' hb'=>kr_) ?_;refine plan.Rest.first 7 _ (.bool true) rfl (fun w' hb'=>kr_) ?_;refine plan.Rest.skip 8 _ rfl ?_;refine plan.Rest.skip 9 _ rfl ?_;refine plan.Rest.skip 10 _ rfl ?_;refine plan.Rest.skip 11 _ rfl ?_;refine plan.Rest.skip 12 _ rfl ?_;refine plan.Rest.skip 13 _ rfl ?_;refine plan.Rest.skip 14 _ rfl ?_;refine plan.Rest.skip 15 _ rfl ?_;refine plan.Rest.skip 16 _ rfl ?_;refine plan.Rest.skip 17 _ rfl ?_
     exact t171
  ·obtain rfl:k=L.length:=by omega
   have HOK2:Hid (jv L):=hid (by have:=HOK.o;rw [List.take_of_length_le (Nat.le_refl _)] at this;exact this);have cl:=BP i a cap L wr (HF.o.below HB.o) om_;obtain rfl:decide ((size L:Int)<=64)=r:=by rw [<-hr.o];exact decide_eq_decide.2 ⟨fun e=>HFI.o.2 ⟨HOK2.o,by omega⟩,fun e=>by have:=(HFI.o.1 e).2;omega⟩
   go_wp2_with (go_at_call 70;((with_reducible refine cl.mono ?_);rintro e w2 ⟨rfl,hb2⟩));go_ret;exact ⟨rfl,hbo.trans (hb2.mono hbo.size)⟩
end schema
namespace schema
open Go.RowKit
open field (Gives aC aj)
open typing (aZ)
theorem Ia (v:Int) (a:Option Addr) (c:Nat) (F:List Fm) (x:Int) (k:Nat) (p:Fm) (w:World) (h:FmL w a F) (hF:F.length<=maxLen) (hp:F[k]?=some p) (hx:p.id=x) (hn:x∉(ng F).take k) (hL:p.fL.length<=1000000):
  Calls prog 28 #[zS v a F.length c,.int .i64 x] w fun e w'=>∃y cap,e=.returned (.tuple #[zS x y p.fL.length cap,.bool true])/\w'.ownsRow w.heap.size 26 5 (.slice y p.fL.length cap) p.fL.length (fdV p.fL)/\Below w.heap.size w w':=by
 have HX:=hid (W3.all v a F c x w);have h0:=W3.all v a F c x w _ (Below.refl _ _);have hsz:(W3 v a F c x w).heap.size=w.heap.size+3:=by simp [W3]
 have h3:=h.below (W3.forms v a F c x w);have cI:=qR a c F x (w.heap.size+1) (W3 v a F c x w) h3 hF h0.2.2.1 om_;rw [kE hn (by rw [<-hx];exact sO hp)] at cI;have hk:k<F.length:=(List.getElem?_eq_some_iff.1 hp).1;obtain ⟨b,off,rfl,hbl0⟩:∃b off,a=some ⟨b,off,none⟩/\b<w.heap.size:=by obtain ⟨b,off,q0,h1,h2,_⟩:=dQ h (Below.refl _ _) hk;exact ⟨b,off,h1,h2⟩
 obtain ⟨b',off',q,hab,hbl,hq,c0,c1,hfd,hfl⟩:=dQ h3 (Below.refl _ _) hk;obtain ⟨rfl,rfl⟩:b=b'/\off=off':=by cases hab;exact ⟨rfl,rfl⟩
 clear hab;have hn1:b≠w.heap.size+1+1:=by omega
 have hn2:w.heap.size+1+1≠b:=by omega
 have hn3:w.heap.size≠w.heap.size+1+1:=by omega
 have hn4:w.heap.size+1+1≠w.heap.size:=by omega
 obtain rfl:p=q:=by rw [hp] at hq;exact Option.some.inj hq
 have HFD:=hid hfd;have cC:=fun w' (hb:Below (W3 v (some ⟨b,off,none⟩) F c x w).heap.size (W3 v (some ⟨b,off,none⟩) F c x w) w')=>og p.f p.fCap p.fL w' (hfd.below hb) hL
 have HC1:=hid (fun w' (hb:Below (W3 v (some ⟨b,off,none⟩) F c x w).heap.size (W3 v (some ⟨b,off,none⟩) F c x w) w')=>(hb.cell (p:=⟨b,off+k*2+1,none⟩) hbl).trans c1);have i1:(k:Int)<F.length:=by omega
 clear h hx hn h0 hsz hp h3 hq c0 c1 hfd hfl hbl hL hF hbl0;obtain ⟨i,f,fc,L⟩:=p;simp only at cC HC1 HFD ⊢;unfold W3 at HX cI cC HC1;go_enter func28,ntmps28;go_wp2_with (go_at_call 57;((with_reducible refine cI.mono ?_);rintro e w2 ⟨rfl,hb2⟩;obtain ⟨z0,z1,z2,hblk,hbo⟩:=HX.o _ hb2;have r0:=hblk.cell 0;have r1:=hblk.cell 1;have f0:=hblk.frozen 0;have f1:=hblk.frozen 1));have hb2d:=aI hb2;have y0:=HC1.o _ hb2d;obtain ⟨z0,z1,z2,hblk,hbo⟩:=HX.o w2.drew hb2d;go_region_held3 (fun w'=>w'.cell? ⟨w.heap.size,1,none⟩=some (.slice (some ⟨b,off,none⟩) F.length c)/\w'.cell? ⟨w.heap.size+1,0,none⟩=some (.int .i64 x)/\w'.cell? ⟨b,off+k*2+1,none⟩=some (.slice f L.length fc)) (first | assumption | go_keep | (rw [World.cell?_setCell_other _ _ _ _ si_,World.cell?_setCell_other _ _ _ _ si_];assumption)) (first
  | (go_at_call 59;(with_reducible refine (cC _ hb2d).mono ?_);rintro e w3 ⟨yv,rfl,ho3,hb3⟩;obtain ⟨y,yc,rfl,_⟩:=aB ho3;have hb23:=hb2d.trans (hb3.mono hb2d.size);have y0:=HC1.o _ hb23;obtain ⟨z0,z1,z2,hblk3,hbo3⟩:=HX.o w3 hb23;have r0:=hblk3.cell 0;have r1:=hblk3.cell 1;have f0:=hblk3.frozen 0;have f1:=hblk3.frozen 1))
 go_wp2;have hB:=(hblk3.setCell 0 (.int .i64 x)).setCell 1 (.slice y L.length yc);have hlow:w.heap.size+3<=w2.drew.heap.size:=by have:=hb2d.size;simpa [W3] using this
 have hF3:=dV (aZ (o:=1) (v:=.slice y L.length yc) (aZ (o:=0) (v:=.int .i64 x) (dV ho3 hlow) (show w.heap.size+2<w.heap.size+3 by omega)) (show w.heap.size+2<w.heap.size+3 by omega)) (show w.heap.size<=w.heap.size+3 by omega);refine bodyPost_ret (au (b:=w.heap.size+2) (o:=0) rfl rfl hB.whole underlying57 rfl (vN _ _)) rfl ?_;exact ⟨y,yc,rfl,hF3,below_setCells (below_setCells hbo3 om_ 0 [.int .i64 x]) om_ 1 [.slice y L.length yc]⟩
end schema
theorem t48{P:Prop}(h:P:=by
 go_enter func87,ntmps87;go_wp2_with (at_builtin;refine aN rfl _ _ 22 rfl base 57 i0 _ 2 32 underlying22 hi0 hz0 hz1 hz2 (by simp [Value.cells]) om_ _ i xs rfl HO.o (some ⟨g,goff,none⟩) 1 vc news rfl (by rw [HL.o]) (.inr ⟨_,rfl,HC.o⟩) H1.o HN2.o HN3.o HB.o ?_);intro v' w1 ho hg;have HO2:=hid ho;have HG2:=hid hg;rw [HOB.o] at HG2;clear ho hg;go_wp2;go_ret;exact ⟨_,rfl,HO2.o,HG2.o⟩):P:=h
namespace schema
open Go.RowKit rows
def BB (base:Nat) (ob:Option Nat) (n:Nat) (ys:List Value) (w:World) (e:Ending) (w':World):Prop:=∃v',e=.returned v'/\w'.ownsRow base 57 2 v' n ys/\w.grownBy w' ob
set_option maxRecDepth 20000 in
theorem mr (base n i g goff vc:Nat) (gC:List Value) (gt:TypeId) (v:Value) (xs news:List Value) (w:World) (hown:w.ownsRow base 57 2 v n xs) (hbase:base<=w.heap.size) (hi:i<=n)
  (hl:news.length=2) (hG:Block w g gt gC) (hgo:goff+2<=gC.length) (hgv:v.ownBlock≠some g) (hnews:∀j u,news[j]?=some u->gC[goff+j]?=some u) (h1:∀u∈news,u.oneCell'=true) (hx1:∀u∈xs,u.oneCell'=true) (hn:n<=1000):
  Calls prog 87 #[v,.int .i64 i,.slice (some ⟨g,goff,none⟩) 1 vc] w (BB base v.ownBlock (n+1) (xs.take (i*2)++(news++xs.drop (i*2))) w):=by
 obtain ⟨i0,hi0,hz0,hz1,hz2⟩:=jw;have hxl:=hown.1;have hcell:∀j u,news[j]?=some u->w.cell? ((⟨g,goff,none⟩:Addr).add j)=some u:=fun j u hj=>by rw [Addr.add_lit,hG.cell];exact hnews j u hj
 have b1:(i:Int)<=n:=by omega
 have b2:(n:Int)<=1000:=by omega
 by_cases hin:i=n
 ·subst hin;have e1:xs.take (i*2)=xs:=List.take_of_length_le om_;have e2:xs.drop (i*2)=[]:=List.drop_of_length_le om_;rw [e1,e2,List.append_nil];obtain ⟨bp,cp,rfl,hcp⟩:=aB hown;have HO:=hid hown;have HC:=hid hcell;have HN2:Hid (i+1<=maxLen):=by show _<=_;unfold maxLen;omega
  have HN3:Hid ((i+1)*32<=140737488355328):=by show _<=_;omega
  have HL:=hid hl;have H1:=hid h1;have HB:=hid hbase;obtain ⟨OB,hOB⟩:∃OB,(Value.slice bp i cp).ownBlock=OB:=⟨_,rfl⟩;have HOB:=hid hOB;rw [hOB];clear hOB hown hcell hxl hG hgo hnews h1 hx1 e1 e2 hl hbase hgv;by_cases hci:i=cp
  ·subst hci
   exact t48
  ·exact t48
 ·rcases hown.2 with ⟨rfl,h0⟩ | ⟨b,cap,cur,rfl,hbb,hB,hnc,hcm,hcs,htake⟩
  ·omega
  ·obtain ⟨C,rfl⟩:∃C:List Value,cur=C.toArray:=⟨cur.toList,by simp⟩;simp only [List.size_toArray] at hcs;have htk:C.take (n*2)=xs:=by simpa using htake
   have hbg:g≠b:=by intro h;subst h;exact hgv rfl
   have hX1:C.take (i*2)=xs.take (i*2):=by rw [<-htk,List.take_take,Nat.min_eq_left (Nat.mul_le_mul_right _ hi)]
   have hX2l:(xs.drop (i*2)).length=(n - i)*2:=by rw [List.length_drop,hxl,Nat.sub_mul]
   have hX2c:∀j u,(xs.drop (i*2))[j]?=some u->C[i*2+j]?=some u:=fun j u hj=>by
    rw [List.getElem?_drop,<-htk,List.getElem?_take] at hj;split at hj
    ·exact hj
    ·cases hj
   have hX21:∀u∈xs.drop (i*2),u.oneCell'=true:=fun u hu=>hx1 u (List.mem_of_mem_drop hu)
   obtain ⟨X2,hX2⟩:∃X2,xs.drop (i*2)=X2:=⟨_,rfl⟩;rw [hX2] at hX2l hX2c hX21 ⊢;rw [<-hX1];have hlt:i<n:=by omega
   have c1:(i:Int)<n:=by omega
   have c2:¬((i:Int)=(n:Int)):=by omega
   have c3:¬(cap=i):=by omega
   have hcm':cap<=9223372036854775807:=by unfold maxLen at hcm;omega
   have w1:IntKind.i64.wrap ((i:Int)+1)=(i:Int)+1:=by rw [IntKind.wrap_i64];omega
   have w2:IntKind.i64.wrap ((n:Int)+1)=(n:Int)+1:=by rw [IntKind.wrap_i64];omega
   have t1:((i:Int)+1).toNat=i+1:=by omega
   have t2:((n:Int)+1).toNat=n+1:=by omega
   have p1:(0:Int)<=(i:Int)+1:=by omega
   have p2:(i:Int)+1<=(n:Int)+1:=by omega
   have hBB:Block w b 57 C:=hB;have hOB:(Value.slice (some ⟨b,0,none⟩) n cap).ownBlock=some b:=rfl;rw [hOB];clear hOB;by_cases hroom:n+1<=cap
   ·have c4:¬((cap:Int)<(n:Int)+1):=by omega
    have c5:¬(cap=i+1):=by omega
    have c6:(n:Int)+1<=(cap:Int):=by omega
    have hov:∀lb cb,(callFunc 121 #[.slice (some ⟨g,goff,none⟩) 1 vc,.slice (some ⟨b,(i+1)*2,none⟩) lb cb]).run prog w=.ok (.value (.bool false)) w:=fun lb cb=>by
     rw [run_callFunc_extern func121 kr_ kr_ kr_ (e:=Extern.SlicesOverlaps.overlaps #[22,22] #[4]) kr_,
      kK w 22 4 57 underlying22 i0 hi0 ⟨g,goff,none⟩ ⟨b,(i+1)*2,none⟩ 1 vc lb cb hbg gt 57 gC C hG hBB (by intro h;subst h;simp at hcs;omega)]
     rfl
    have HB:=hid hBB;have HG:=hid hG;have HCS:=hid hcs;have HL:=hid hl;have HX2l:=hid hX2l;have HX2c:=hid hX2c;have HX21:=hid hX21;have H1:=hid h1;have HNW:=hid hnews;have HGO:=hid hgo;have HCM:=hid hcm;have HBB:=hid hbb;clear hown hcell hxl hG hgo hnews h1 hx1 hl hbase hgv htake htk hX1 hX2 hX2l hX2c hX21 hB hBB hcs hcm hbb;go_enter func87,ntmps87;go_wp2_with (simp only [hov]);refine tail.region 8 kr_ kr_ ?_;simp only [List.take_succ_cons,List.take_zero,List.drop_succ_cons,List.drop_zero];repeat (go_big_quiet_step (fail))
    refine wpQuiet_nil ?_;rintro _ ⟨nq,rfl⟩;refine bC rfl _ _ 22 22 rfl 57 i0 2 underlying22 hi0 hz1 _ _ _ _ _ _ rfl rfl b ((i+1)*2) C 57 (HB.o.drewN nq) (n - i) (by simp only [Nat.min_def];split <;> omega) X2 HX2l.o (fun _=>⟨rfl,⟨b,i*2,none⟩,rfl,fun j u hj=>by rw [Addr.add_lit,(HB.o.drewN nq).cell];exact HX2c.o j u hj⟩) (by rw [HX2l.o,HCS.o,<-Nat.add_mul];exact Nat.mul_le_mul_right _ om_) HX21.o ?_;intro w3 h3;have hG3:Block w3 g gt gC:=HG.o.but h3.o.2.1 HG.o.lt hbg;have HG3:=hid hG3;have hs3:=h3.o.2.2;clear hG3;go_wp2_with (refine bC rfl _ _ 22 22 rfl 57 i0 2 underlying22 hi0 hz1 _ _ _ _ _ _ rfl rfl b (i*2) (splice C ((i+1)*2) X2) 57 h3.o.1 1 (by simp only [Nat.min_def];split <;> omega) news (by rw [HL.o]) (fun _=>⟨rfl,⟨g,goff,none⟩,rfl,fun j u hj=>by rw [Addr.add_lit,HG3.o.cell];exact HNW.o j u hj⟩) (by rw [length_splice _ _ _ (by rw [HX2l.o,HCS.o,<-Nat.add_mul];exact Nat.mul_le_mul_right _ om_),HL.o,HCS.o];exact (by omega:i*2+2<=cap*2)) H1.o ?_);intro w4 h4;go_wp2;go_ret;have hl2:=two C (i*2) news X2 (by rw [HL.o,HX2l.o,HCS.o];omega);rw [HL.o,HX2l.o,show i*2+2=(i+1)*2 by omega,show (i+1)*2+(n - i)*2=(n+1)*2 by omega,List.append_assoc] at hl2;refine ⟨_,rfl,iE h4.o.1 HBB.o hroom HCM.o ?_ hl2, ?_⟩
    ·rw [length_splice,length_splice,HCS.o]
     ·rw [HX2l.o,HCS.o];omega
     ·rw [length_splice,HL.o,HCS.o]
      ·omega
      ·rw [HX2l.o,HCS.o];omega
    ·have e3:=h3.o.2.1;have e4:=h4.o.2.1;exact dF (v:=.slice (some ⟨b,0,none⟩) n cap) (But.trans (But.drewN e3 0) e4) rfl
   ·obtain rfl:n=cap:=by omega
    have c4:(n:Int)<(n:Int)+1:=by omega
    have k1:IntKind.i64.wrap ((n:Int)+1 - (i:Int))=(n:Int)+1 - (i:Int):=by rw [IntKind.wrap_i64];omega
    have HB:=hid hBB;have HG:=hid hG;have HCS:=hid hcs;have HL:=hid hl;have HX2l:=hid hX2l;have HX2c:=hid hX2c;have HX21:=hid hX21;have H1:=hid h1;have HNW:=hid hnews;have HGO:=hid hgo;have HCM:=hid hcm;have HBB:=hid hbb;have HBW:=hid hbase;have hsz0:0<2:=by omega
    have HN3:Hid ((i+(n+1 - i))*32<=140737488355328):=by show _<=_;omega
    have HN2:Hid (i+(n+1 - i)<=maxLen):=by show _<=_;unfold maxLen;omega
    have HF0:Hid (i*2<=C.length):=by show _<=_;rw [hcs];omega
    clear hown hcell hxl hG hgo hnews h1 hx1 hl hbase hgv htake htk hX1 hX2 hX2l hX2c hX21 hB hBB hcs hcm hbb;go_enter func87,ntmps87;go_wp2_with (at_builtin;refine gy rfl _ _ 22 3 rfl 57 i0 _ 2 32 underlying22 underlying3 hi0 hz0 hz1 hz2 (by simp [Value.cells]) hsz0 b i n rfl (n+1 - i) _ rfl om_ om_ C HB.o HF0.o om_ om_ HN3.o HN2.o ?_);intro G R w3 h3;have hs3:w.heap.size<w3.heap.size:=h3.o.2.2.2.2.2;have g1:¬(G=i):=by have:=h3.o.2.2.1;omega
    have g2:¬(G=i+1):=by have:=h3.o.2.2.1;omega
    have g3:i+(n+1 - i)=n+1:=by omega
    have HG1:=hid h3.o.2.2.1;have HG2:=hid h3.o.2.2.2.1;have HRl:=hid h3.o.2.1;have HLT:=hid HB.o.lt;have HLG:=hid HG.o.lt;have HB3:Hid (Block w3 b 57 C):=hid (HB.o.later h3.o.2.2.2.2.1);have HG3:Hid (Block w3 g gt gC):=hid (HG.o.later h3.o.2.2.2.2.1);have HCL:Hid ((C.take (i*2)++R).length=G*2):=by
     show _=_
     rw [List.length_append,List.length_take,Nat.min_eq_left HF0.o,HRl.o,<-Nat.add_mul];congr 1;have:=HG1.o;omega
    rw [g3];go_wp2_with (refine bC rfl _ _ 22 22 rfl 57 i0 2 underlying22 hi0 hz1 _ _ _ _ _ _ rfl rfl w.heap.size (i*2) (C.take (i*2)++R) 57 h3.o.1 1 (by simp only [Nat.min_def];split <;> omega) news (by rw [HL.o]) (fun _=>⟨rfl,⟨g,goff,none⟩,rfl,fun j u hj=>by rw [Addr.add_lit,HG3.o.cell];exact HNW.o j u hj⟩) (by rw [HCL.o,HL.o];have:=HG1.o;omega) H1.o ?_);intro w4 h4;have HB4:Hid (Block w4 b 57 C):=hid (HB3.o.but h4.o.2.1 HB3.o.lt (by have:=HLT.o;omega));have hs4:=h4.o.2.2;have HL4:Hid ((splice (C.take (i*2)++R) (i*2) news).length=G*2):=hid (by rw [length_splice _ _ _ (by rw [HCL.o,HL.o];have:=HG1.o;omega),HCL.o]);go_wp2;refine tail.region 8 kr_ kr_ ?_;simp only [List.take_succ_cons,List.take_zero,List.drop_succ_cons,List.drop_zero];repeat (go_big_quiet_step (fail))
    refine wpQuiet_nil ?_;rintro _ ⟨nq,rfl⟩;refine bC rfl _ _ 22 22 rfl 57 i0 2 underlying22 hi0 hz1 _ _ _ _ _ _ rfl rfl w.heap.size ((i+1)*2) (splice (C.take (i*2)++R) (i*2) news) 57 (h4.o.1.drewN nq) (n - i) (by simp only [Nat.min_def];split <;> omega) X2 HX2l.o (fun _=>⟨rfl,⟨b,i*2,none⟩,rfl,fun j u hj=>by rw [Addr.add_lit,(HB4.o.drewN nq).cell];exact HX2c.o j u hj⟩) (by rw [HL4.o,HX2l.o];have:=HG1.o;omega) HX21.o ?_;intro w5 h5;go_wp2;go_ret;have hl2:=two' (C.take (i*2)++R) (i*2) news X2 (by rw [HL.o,HX2l.o,HCL.o];have:=HG1.o;omega);rw [HL.o,HX2l.o,show i*2+2=(i+1)*2 by omega,show (i+1)*2+(n - i)*2=(n+1)*2 by omega,List.append_assoc,List.take_left' (by rw [List.length_take,Nat.min_eq_left HF0.o])] at hl2;refine ⟨_,rfl,iE h5.o.1 HBW.o (by have:=HG1.o;omega) HG2.o ?_ hl2, ?_⟩
    ·rw [length_splice,HL4.o];rw [HX2l.o,HL4.o];have:=HG1.o;omega
    ·exact eX (h3.o.2.2.2.2.1.trans ((But.trans (But.drewN h4.o.2.1 0) (by have:=h5.o.2.1;exact this.mono (by simp [hs4]))).below om_ (Nat.le_refl _)))
end schema
namespace schema
open Go.RowKit rows
def LessM (base:Nat) (ob:Option Nat) (n:Nat) (ys:List Value) (w:World) (e:Ending) (w':World):Prop:=∃v',e=.returned v'/\w'.ownsRow base 57 2 v' n ys/\w.grownBy w' ob/\v'.ownBlock=ob
set_option maxRecDepth 20000 in
theorem Bv (base N i:Nat) (v:Value) (xs:List Value) (w:World) (hown:w.ownsRow base 57 2 v (N+1) xs) (hi:i<=N) (hx1:∀u∈xs,u.oneCell'=true) (hn:N<=1000):
  Calls prog 88 #[v,.int .i64 i,.int .i64 ((i:Int)+1)] w (LessM base v.ownBlock N (xs.take (i*2)++xs.drop ((i+1)*2)) w):=by
 obtain ⟨i0,hi0,hz0,hz1,hz2⟩:=jw;have hxl:=hown.1;rcases hown.2 with ⟨_,h0⟩ | ⟨b,cap,cur,rfl,hbb,hB,hnc,hcm,hcs,htake⟩
 ·omega
 ·obtain ⟨C,rfl⟩:∃C:List Value,cur=C.toArray:=⟨cur.toList,by simp⟩;simp only [List.size_toArray] at hcs;have htk:C.take ((N+1)*2)=xs:=by simpa using htake
  have hX1:C.take (i*2)=xs.take (i*2):=by rw [<-htk,List.take_take,Nat.min_eq_left (Nat.mul_le_mul_right _ om_)]
  have hX2l:(xs.drop ((i+1)*2)).length=(N - i)*2:=by rw [List.length_drop,hxl,<-Nat.sub_mul];congr 1;omega
  have hX2c:∀j u,(xs.drop ((i+1)*2))[j]?=some u->C[(i+1)*2+j]?=some u:=fun j u hj=>by
   rw [List.getElem?_drop,<-htk,List.getElem?_take] at hj;split at hj
   ·exact hj
   ·cases hj
  have hX21:∀u∈xs.drop ((i+1)*2),u.oneCell'=true:=fun u hu=>hx1 u (List.mem_of_mem_drop hu)
  obtain ⟨X2,hX2⟩:∃X2,xs.drop ((i+1)*2)=X2:=⟨_,rfl⟩;rw [hX2] at hX2l hX2c hX21 ⊢;rw [<-hX1];have hOB:(Value.slice (some ⟨b,0,none⟩) (N+1) cap).ownBlock=some b:=rfl;rw [hOB];clear hOB;have c1:(i:Int)<=N:=by omega
  have c2:¬((i:Int)=(i:Int)+1):=by omega
  have c3:¬(cap=N):=by omega
  have c4:¬(cap=i):=by omega
  have hcm':cap<=9223372036854775807:=by unfold maxLen at hcm;omega
  have b2:(N:Int)<=1000:=by omega
  have t1:((i:Int)+1).toNat=i+1:=by omega
  have t2:((N:Int)+1).toNat=N+1:=by omega
  have p1:(0:Int)<=(i:Int)+1:=by omega
  have hBB:Block w b 57 C:=hB;have hz1c:∀u∈(Value.cells (.agg #[.int .i64 0,.slice none 0 0])).toList,u.oneCell'=true:=by simp [Value.cells];try decide
  have h0z:0<2:=by omega
  have g3:i+(N - i)=N:=by omega
  have HB:=hid hBB;have HCS:=hid hcs;have HX2l:=hid hX2l;have HX2c:=hid hX2c;have HX21:=hid hX21;have HCM:=hid hcm;have HBB:=hid hbb;have HNC:Hid ((N+1)*2<=cap*2):=Nat.mul_le_mul_right _ hnc;clear hown hxl hx1 htake htk hX1 hX2 hX2l hX2c hX21 hB hBB hcs hcm hbb;by_cases c5:cap=i+1
  ·obtain rfl:i=N:=by omega
   subst c5;go_enter func88,ntmps88;go_wp2;refine tail.region 6 kr_ kr_ ?_;simp only [List.take_succ_cons,List.take_zero,List.drop_succ_cons,List.drop_zero];repeat (go_big_quiet_step (fail))
   refine wpQuiet_nil ?_;rintro _ ⟨nq,rfl⟩;refine eP rfl _ _ 22 rfl 57 i0 2 underlying22 hi0 hz1 b _ _ rfl C (HB.o.drewN nq) _ 0 _ rfl X2 (by have:=HX2l.o;simpa using this) (fun h=>absurd h om_) HX21.o om_ (by rw [HX2l.o,HCS.o];have:=HNC.o;omega) ?_;intro w3 h3;have HL3:Hid ((splice C (i*2) X2).length=(i+1)*2):=hid (by rw [length_splice _ _ _ (by rw [HX2l.o,HCS.o];have:=HNC.o;omega),HCS.o]);go_wp2_with (refine eF rfl _ 22 rfl 57 i0 _ 2 underlying22 hi0 hz0 (by simp [Value.cells]) hz1c h0z _ 1 _ rfl b (i*2) (splice C (i*2) X2) 57 h3.o.1 (fun _=>by simp) (by rw [HL3.o];have:=HNC.o;omega) ?_);intro Z w4 h4;go_wp2;go_ret;have hl2:(splice (splice C (i*2) X2) (i*2) Z).take (i*2)=C.take (i*2)++X2:=by
    rw [gY _ _ _ _ (Nat.le_refl _) (by rw [HL3.o];have:=HNC.o;omega)];have:=gW C (i*2) X2 (by rw [HCS.o];have:=HNC.o;omega);rw [HX2l.o,<-Nat.add_mul,g3] at this;exact this
   refine ⟨_,rfl,iE h4.o.2.1 HBB.o om_ HCM.o (by rw [length_splice _ _ _ (by rw [HL3.o,h4.o.1];have:=HNC.o;omega),HL3.o]) hl2, ?_,rfl⟩;exact dF (v:=.slice (some ⟨b,0,none⟩) i (i+1)) (But.trans (But.drewN h3.o.2.1 0) (h4.o.2.2.1.mono (by have:=h3.o.2.2;simp at this;omega))) rfl
  ·go_enter func88,ntmps88;go_wp2;refine tail.region 6 kr_ kr_ ?_;simp only [List.take_succ_cons,List.take_zero,List.drop_succ_cons,List.drop_zero];repeat (go_big_quiet_step (fail))
   refine wpQuiet_nil ?_;rintro _ ⟨nq,rfl⟩;refine eP rfl _ _ 22 rfl 57 i0 2 underlying22 hi0 hz1 b _ _ rfl C (HB.o.drewN nq) _ (N - i) _ (by rfl) X2 HX2l.o (fun h=>⟨⟨b,(i+1)*2,none⟩,rfl,fun j u hj=>by rw [Addr.add_lit,(HB.o.drewN nq).cell];exact HX2c.o j u hj⟩) HX21.o om_ (by rw [HX2l.o,HCS.o];have:=HNC.o;omega) ?_;intro w3 h3;rw [g3];have HL3:Hid ((splice C (i*2) X2).length=cap*2):=hid (by rw [length_splice _ _ _ (by rw [HX2l.o,HCS.o];have:=HNC.o;omega),HCS.o]);go_wp2_with (refine eF rfl _ 22 rfl 57 i0 _ 2 underlying22 hi0 hz0 (by simp [Value.cells]) hz1c h0z _ 1 _ rfl b (N*2) (splice C (i*2) X2) 57 h3.o.1 (fun _=>by simp) (by rw [HL3.o];have:=HNC.o;omega) ?_);intro Z w4 h4;go_wp2;go_ret;have hl2:(splice (splice C (i*2) X2) (N*2) Z).take (N*2)=C.take (i*2)++X2:=by
    rw [gY _ _ _ _ (Nat.le_refl _) (by rw [HL3.o];have:=HNC.o;omega)];have:=gW C (i*2) X2 (by rw [HCS.o];have:=HNC.o;omega);rw [HX2l.o,<-Nat.add_mul,g3] at this;exact this
   refine ⟨_,rfl,iE h4.o.2.1 HBB.o om_ HCM.o (by rw [length_splice _ _ _ (by rw [HL3.o,h4.o.1];have:=HNC.o;omega),HL3.o]) hl2, ?_,rfl⟩;exact dF (v:=.slice (some ⟨b,0,none⟩) N cap) (But.trans (But.drewN h3.o.2.1 0) (h4.o.2.2.1.mono (by have:=h3.o.2.2;simp at this;omega))) rfl
end schema
end Go.Proofs.YtdnegbkhndekpaaGreat
