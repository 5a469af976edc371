/- Contracts and lemmas that claims of this seat share: SchemaRefFine. Each says its own conditions. -/
import Derived.Test.YtogfefdlffmioaaCmWord
import Derived.Conc.WalkWords
import Derived.Test.YtogfefdlffmioaaCmAK
set_option linter.unusedVariables false
namespace Go.Proofs.Ytogfefdlffmioaa
open Go.Proofs.Try
theorem t126{P:Prop}(h:P:=by
 refine plan.Rest.first 18 _ (.bool true) rfl (fun w' aJ=>kr_) ?_
 exact t31):P:=h
theorem t49{P:Prop}(h:P:=by
 refine plan.Rest.done ?_;walk_nrm;go_wp2;exact⟨⟨k+1,by omega,by go_num,zW,hid (HB.o.trans (hb.mono HB.o.size))⟩,by simp[intOf];omega⟩):P:=h
theorem t46{P:Prop}(h:P:=by
 go_enter func37,ntmps37;go_wp2;go_ret;exact⟨rfl,HW.o⟩):P:=h
theorem t31{P:Prop}(h:P:=by
 refine plan.Rest.done ?_;walk_nrm;go_wp2;go_ret;exact⟨rfl,dP.trans (hb.mono dP.size)⟩):P:=h
namespace ak
open Go.RowKit
open field (Gives aI ay fB)
set_option maxRecDepth 20000 in
set_option maxHeartbeats 1600000 in
theorem rY(i:Int)(a:Option Addr)(cap:Nat)(L:List field.Fd)(w:World)(h:field.Fds w a L)(hL:L.length<=maxLen):
  Calls prog 37 #[zS i a L.length cap] w (Gives (.bool (decide (Fine (i,L)))) w):=by
 have hml:(L.length:Int)<=9223372036854775807:=by unfold maxLen at hL;omega
 have HX:=hid (Ac i a L cap w);have hw:=aI w (.cells (zS i a L.length cap) 40);have HF:=hid (h.below hw);have HW:=hid hw;have HB0:=hid (Block.new w 40 (zS i a L.length cap));obtain⟨r,hr⟩:∃r:Bool,Hid (decide (Fine (i,L))=r):=⟨_,rfl⟩;rw[hr.o];unfold Gives;clear h hw;by_cases h1:i<0
 ·obtain rfl:false=r:=by rw[<-hr.o];exact(decide_eq_false (fun e=>by have:=e.1.1;simp at this;omega)).symm
  have hd1:decide (i<0)=true:=decide_eq_true h1;clear h1
  exact t46
 have hd1:decide (i<0)=false:=decide_eq_false h1;by_cases h2:i>200
 ·obtain rfl:false=r:=by rw[<-hr.o];exact(decide_eq_false (fun e=>by have:=e.1.2;simp at this;omega)).symm
  have hd2:decide (i>200)=true:=decide_eq_true h2;clear h1 h2
  exact t46
 have hd2:decide (i>200)=false:=decide_eq_false h2;by_cases h3:L.length<1
 ·obtain rfl:false=r:=by rw[<-hr.o];exact(decide_eq_false (fun e=>by have:=e.2.1.1;simp only at this;omega)).symm
  have hd3:decide ((L.length:Int)<1)=true:=decide_eq_true om_;clear h1 h2 h3
  exact t46
 have hd3:decide ((L.length:Int)<1)=false:=decide_eq_false om_;by_cases h4:L.length>8
 ·obtain rfl:false=r:=by rw[<-hr.o];exact(decide_eq_false (fun e=>by have:=e.2.1.2;simp only at this;omega)).symm
  have hd4:decide ((L.length:Int)>8)=true:=decide_eq_true om_;clear h1 h2 h3 h4
  exact t46
 have hd4:decide ((L.length:Int)>8)=false:=decide_eq_false om_;have Ea:Hid (Fine (i,L)↔iV L/\size L<=64):=hid ⟨fun e=>⟨e.2.2.1,e.2.2.2⟩,fun e=>⟨by simp;omega,by simp;omega,e.1,e.2⟩⟩;have h8:L.length<=8:=by omega
 clear h1 h2 h3 h4;go_enter func37,ntmps37;go_wp2;clear hd1 hd2 hd3 hd4;generalize (w.alloc (.cells (zS i a L.length cap) 40))=W0 at *;go_loopw [3] (fun n wr=>∃k:Nat,k<=L.length/\n=.int .i64 (k:Int)/\Hid (iV (L.take k))/\Hid (Below W0.heap.size W0 wr)) (fun n _=>L.length - (intOf n).toNat);case atStart=>exact⟨0,Nat.zero_le _,rfl,hid iV.nil,hid (Below.refl _ _)⟩
 case round=>
  obtain⟨k,hk,rfl,nK,HB⟩:=hrel;obtain⟨z0,z1,dP⟩:=HX.o _ HB.o;by_cases bI:k<L.length
  ·obtain⟨b,off,p,rfl,jV,hp,c0,c1,c2,c3,c4⟩:=eX HF.o HB.o bI;have i1:(k:Int)<L.length:=by omega
   have oP:=hid (yL hp);have iM:=hid (pO hp);have HAT:=hid (IQ (AA hp));have hR:=KA c0 c1 c2 c3 c4;have HZ:=hid (fun w' (aJ:Below wr.heap.size wr w')=>(⟨by obtain⟨_,y1,_⟩:=HX.o w' (HB.o.trans (aJ.mono HB.o.size));exact y1,(HB0.o.later (HB.o.trans (aJ.mono HB.o.size))).whole,fE hR aJ jV⟩:w'.cell? ⟨w.heap.size,1,none⟩=some (.slice (some ⟨b,off,none⟩) L.length cap)/\w'.rangeAt w.heap.size 0 (zS i (some ⟨b,off,none⟩) L.length cap)/\w'.rangeAt b (off+k*5) (zF p)));have ca:=fun w' (aJ:Below wr.heap.size wr w')=>Dp i (some ⟨b,off,none⟩) cap L p.id w' (HF.o.below (HB.o.trans (aJ.mono HB.o.size))) hL
   have cr:=fun w'=>fB p w'
   clear hp hR;generalize kV (ids L) p.id=J at *;by_cases mJ:p.Right
   ·rw[decide_eq_true mJ] at cr;by_cases hj:J=(k:Int)
    ·have Ox:Hid ((J != (k:Int))=false):=hid (by rw[hj];simp);have zW:Hid (iV (L.take (k+1))):=hid (iM.o.2 ⟨nK.o,mJ,by rw[yU];exact HAT.o.1 hj⟩);clear mJ hj c0 c1 c2 c3 c4;go_wp2;have hb:Below wr.heap.size wr wr.drew:=bJ (Below.refl _ _)
     ·refine plan.region kr_ ?_;refine plan.Rest.first 0 _ (.pointer (some ⟨w.heap.size,1,none⟩)) rfl (fun w' aJ=>kr_) ?_;refine plan.Rest.first 1 _ (.slice (some ⟨b,off,none⟩) L.length cap) rfl (fun w' aJ=>aC (ad:=⟨w.heap.size,1,none⟩) rfl (HZ.o _ (hb.trans (aJ.mono hb.size))).1 isAgg38) ?_;refine plan.Rest.first 2 _ (.int .i64 (k:Int)) rfl (fun w' aJ=>kr_) ?_;refine plan.Rest.first 3 _ (.pointer (some ⟨b,off+k*5,none⟩)) rfl (fun w' aJ=>(jM (b:=b) (off:=off) (len:=L.length) (cap:=cap) (i:=k) rfl bI)) ?_;refine plan.Rest.first 4 _ (zF p) rfl (fun w' aJ=>aj (b:=b) (off:=off+k*5) rfl (HZ.o _ (hb.trans (aJ.mono hb.size))).2.2 underlying47 rfl dm.o) ?_;refine plan.Rest.call 5 _ 64 #[zF p] rfl ((cr wr.drew).mono ?_);rintro e W1 ⟨rfl,hn⟩;have hb:=hb.trans (hn.mono hb.size);refine⟨_,rfl,hn, ?_⟩;refine plan.Rest.first 6 _ (.bool false) rfl (fun w' aJ=>kr_) ?_;refine plan.Rest.first 7 _ (.bool false) rfl (fun w' aJ=>kr_) ?_;refine plan.Rest.first 8 _ (zS i (some ⟨b,off,none⟩) L.length cap) rfl (fun w' aJ=>aj (b:=w.heap.size) (off:=0) rfl (HZ.o _ (hb.trans (aJ.mono hb.size))).2.1 underlying40 rfl oI.o) ?_;refine plan.Rest.first 9 _ (.pointer (some ⟨w.heap.size,1,none⟩)) rfl (fun w' aJ=>kr_) ?_;refine plan.Rest.first 10 _ (.slice (some ⟨b,off,none⟩) L.length cap) rfl (fun w' aJ=>aC (ad:=⟨w.heap.size,1,none⟩) rfl (HZ.o _ (hb.trans (aJ.mono hb.size))).1 isAgg38) ?_;refine plan.Rest.first 11 _ (.int .i64 (k:Int)) rfl (fun w' aJ=>kr_) ?_;refine plan.Rest.first 12 _ (.pointer (some ⟨b,off+k*5,none⟩)) rfl (fun w' aJ=>(jM (b:=b) (off:=off) (len:=L.length) (cap:=cap) (i:=k) rfl bI)) ?_;refine plan.Rest.first 13 _ (.pointer (some ⟨b,off+k*5,none⟩)) rfl (fun w' aJ=>kr_) ?_;refine plan.Rest.first 14 _ (.int .i64 p.id) rfl (fun w' aJ=>ai (ad:=⟨b,off+k*5,none⟩) rfl kr_ ((HZ.o _ (hb.trans (aJ.mono hb.size))).2.2 0 _ rfl) isAgg3) ?_;refine plan.Rest.first 16 _ (.int .i64 (k:Int)) rfl (fun w' aJ=>kr_) ?_;refine plan.Rest.call 15 _ 65 #[zS i (some ⟨b,off,none⟩) L.length cap,.int .i64 p.id] rfl ((ca W1 hb).mono ?_);rintro e W2 ⟨rfl,hn⟩;have hb:=hb.trans (hn.mono hb.size);refine⟨_,rfl,hn, ?_⟩;refine plan.Rest.first 17 _ (.bool false) rfl (fun w' aJ=>(ax (n:=J) (m:=(k:Int)) rfl Ox)) ?_;refine plan.Rest.first 18 _ (.bool false) rfl (fun w' aJ=>kr_) ?_
      exact t49
    ·have Ox:Hid ((J != (k:Int))=true):=hid (by simp[hj]);obtain rfl:false=r:=by rw[<-hr.o];exact(decide_eq_false (fun e=>oP.o (fun e2=>hj (HAT.o.2 (by rw[<-yU];exact e2.2))) (Ea.o.1 e).1)).symm
     clear mJ hj c0 c1 c2 c3 c4;go_wp2;have hb:Below wr.heap.size wr wr.drew:=bJ (Below.refl _ _)
     ·refine plan.region kr_ ?_;refine plan.Rest.first 0 _ (.pointer (some ⟨w.heap.size,1,none⟩)) rfl (fun w' aJ=>kr_) ?_;refine plan.Rest.first 1 _ (.slice (some ⟨b,off,none⟩) L.length cap) rfl (fun w' aJ=>aC (ad:=⟨w.heap.size,1,none⟩) rfl (HZ.o _ (hb.trans (aJ.mono hb.size))).1 isAgg38) ?_;refine plan.Rest.first 2 _ (.int .i64 (k:Int)) rfl (fun w' aJ=>kr_) ?_;refine plan.Rest.first 3 _ (.pointer (some ⟨b,off+k*5,none⟩)) rfl (fun w' aJ=>(jM (b:=b) (off:=off) (len:=L.length) (cap:=cap) (i:=k) rfl bI)) ?_;refine plan.Rest.first 4 _ (zF p) rfl (fun w' aJ=>aj (b:=b) (off:=off+k*5) rfl (HZ.o _ (hb.trans (aJ.mono hb.size))).2.2 underlying47 rfl dm.o) ?_;refine plan.Rest.call 5 _ 64 #[zF p] rfl ((cr wr.drew).mono ?_);rintro e W1 ⟨rfl,hn⟩;have hb:=hb.trans (hn.mono hb.size);refine⟨_,rfl,hn, ?_⟩;refine plan.Rest.first 6 _ (.bool false) rfl (fun w' aJ=>kr_) ?_;refine plan.Rest.first 7 _ (.bool false) rfl (fun w' aJ=>kr_) ?_;refine plan.Rest.first 8 _ (zS i (some ⟨b,off,none⟩) L.length cap) rfl (fun w' aJ=>aj (b:=w.heap.size) (off:=0) rfl (HZ.o _ (hb.trans (aJ.mono hb.size))).2.1 underlying40 rfl oI.o) ?_;refine plan.Rest.first 9 _ (.pointer (some ⟨w.heap.size,1,none⟩)) rfl (fun w' aJ=>kr_) ?_;refine plan.Rest.first 10 _ (.slice (some ⟨b,off,none⟩) L.length cap) rfl (fun w' aJ=>aC (ad:=⟨w.heap.size,1,none⟩) rfl (HZ.o _ (hb.trans (aJ.mono hb.size))).1 isAgg38) ?_;refine plan.Rest.first 11 _ (.int .i64 (k:Int)) rfl (fun w' aJ=>kr_) ?_;refine plan.Rest.first 12 _ (.pointer (some ⟨b,off+k*5,none⟩)) rfl (fun w' aJ=>(jM (b:=b) (off:=off) (len:=L.length) (cap:=cap) (i:=k) rfl bI)) ?_;refine plan.Rest.first 13 _ (.pointer (some ⟨b,off+k*5,none⟩)) rfl (fun w' aJ=>kr_) ?_;refine plan.Rest.first 14 _ (.int .i64 p.id) rfl (fun w' aJ=>ai (ad:=⟨b,off+k*5,none⟩) rfl kr_ ((HZ.o _ (hb.trans (aJ.mono hb.size))).2.2 0 _ rfl) isAgg3) ?_;refine plan.Rest.first 16 _ (.int .i64 (k:Int)) rfl (fun w' aJ=>kr_) ?_;refine plan.Rest.call 15 _ 65 #[zS i (some ⟨b,off,none⟩) L.length cap,.int .i64 p.id] rfl ((ca W1 hb).mono ?_);rintro e W2 ⟨rfl,hn⟩;have hb:=hb.trans (hn.mono hb.size);refine⟨_,rfl,hn, ?_⟩;refine plan.Rest.first 17 _ (.bool true) rfl (fun w' aJ=>(ax (n:=J) (m:=(k:Int)) rfl Ox)) ?_
      exact t126
   ·rw[decide_eq_false mJ] at cr;obtain rfl:false=r:=by rw[<-hr.o];exact(decide_eq_false (fun e=>oP.o (fun e2=>mJ e2.1) (Ea.o.1 e).1)).symm
    clear mJ c0 c1 c2 c3 c4;go_wp2;have hb:Below wr.heap.size wr wr.drew:=bJ (Below.refl _ _)
    ·refine plan.region kr_ ?_;refine plan.Rest.first 0 _ (.pointer (some ⟨w.heap.size,1,none⟩)) rfl (fun w' aJ=>kr_) ?_;refine plan.Rest.first 1 _ (.slice (some ⟨b,off,none⟩) L.length cap) rfl (fun w' aJ=>aC (ad:=⟨w.heap.size,1,none⟩) rfl (HZ.o _ (hb.trans (aJ.mono hb.size))).1 isAgg38) ?_;refine plan.Rest.first 2 _ (.int .i64 (k:Int)) rfl (fun w' aJ=>kr_) ?_;refine plan.Rest.first 3 _ (.pointer (some ⟨b,off+k*5,none⟩)) rfl (fun w' aJ=>(jM (b:=b) (off:=off) (len:=L.length) (cap:=cap) (i:=k) rfl bI)) ?_;refine plan.Rest.first 4 _ (zF p) rfl (fun w' aJ=>aj (b:=b) (off:=off+k*5) rfl (HZ.o _ (hb.trans (aJ.mono hb.size))).2.2 underlying47 rfl dm.o) ?_;refine plan.Rest.call 5 _ 64 #[zF p] rfl ((cr wr.drew).mono ?_);rintro e W1 ⟨rfl,hn⟩;have hb:=hb.trans (hn.mono hb.size);refine⟨_,rfl,hn, ?_⟩;refine plan.Rest.first 6 _ (.bool true) rfl (fun w' aJ=>kr_) ?_;refine plan.Rest.first 7 _ (.bool true) rfl (fun w' aJ=>kr_) ?_;refine plan.Rest.skip 8 _ rfl ?_;refine plan.Rest.skip 9 _ rfl ?_;refine plan.Rest.skip 10 _ rfl ?_;refine plan.Rest.skip 11 _ rfl ?_;refine plan.Rest.skip 12 _ rfl ?_;refine plan.Rest.skip 13 _ rfl ?_;refine plan.Rest.skip 14 _ rfl ?_;refine plan.Rest.skip 15 _ rfl ?_;refine plan.Rest.skip 16 _ rfl ?_;refine plan.Rest.skip 17 _ rfl ?_
     exact t126
  ·obtain rfl:k=L.length:=by omega
   have zW:Hid (iV L):=hid (by have:=nK.o;rw[List.take_of_length_le (Nat.le_refl _)] at this;exact this);have cl:=zk i a cap L wr (HF.o.below HB.o) om_;obtain rfl:decide ((size L:Int)<=64)=r:=by rw[<-hr.o];exact decide_eq_decide.2 ⟨fun e=>Ea.o.2 ⟨zW.o,by omega⟩,fun e=>by have:=(Ea.o.1 e).2;omega⟩
   go_wp2_with (go_at_call 66;((with_reducible refine cl.mono ?_);rintro e w2 ⟨rfl,aQ⟩));go_ret;exact⟨rfl,dP.trans (aQ.mono dP.size)⟩
end ak
end Go.Proofs.Ytogfefdlffmioaa
