/- Contracts and lemmas that claims of this seat share: SchemaRefFine. Each says its own conditions. -/
import Derived.Test.YtogfefdlffmioaaGreatCmWord
import Derived.Conc.WalkWords
import Derived.Test.YtogfefdlffmioaaGreatCmAI
set_option linter.unusedVariables false
namespace Go.Proofs.YtogfefdlffmioaaGreat
open Go.Proofs.Tryz
theorem t139{P:Prop}(h:P:=by
 refine plan.Rest.first 18 _ (.bool true) rfl (fun w' af=>kr_) ?_
 exact t37):P:=h
theorem t61{P:Prop}(h:P:=by
 refine plan.Rest.done ?_;walk_nrm;go_wp2;exact⟨⟨k+1,by omega,by go_num,HOK2,hid (HB.o.trans (hb.mono HB.o.size))⟩,by simp[intOf];omega⟩):P:=h
theorem t58{P:Prop}(h:P:=by
 go_enter func43,ntmps43;go_wp2;go_ret;exact⟨rfl,HW.o⟩):P:=h
theorem t37{P:Prop}(h:P:=by
 refine plan.Rest.done ?_;walk_nrm;go_wp2;go_ret;exact⟨rfl,aN.trans (hb.mono aN.size)⟩):P:=h
namespace schema
open Go.RowKit
open field (Gives newB gives_from refRight_any)
set_option maxRecDepth 20000 in
set_option maxHeartbeats 1600000 in
theorem refFine_any(i:Int)(a:Option Addr)(cap:Nat)(L:List field.Fd)(w:World)(h:field.Fds w a L)(hL:L.length<=maxLen):
  Calls prog 43 #[zS i a L.length cap] w (Gives (.bool (decide (Fine (i,L)))) w):=by
 have hml:(L.length:Int)<=9223372036854775807:=by unfold maxLen at hL;omega
 have HX:=hid (boxM i a L cap w);have hw:=newB w (.cells (zS i a L.length cap) 43);have HF:=hid (h.below hw);have HW:=hid hw;have HB0:=hid (Block.new w 43 (zS i a L.length cap));obtain⟨r,hr⟩:∃r:Bool,Hid (decide (Fine (i,L))=r):=⟨_,rfl⟩;rw[hr.o];unfold Gives;clear h hw;by_cases h1:i<0
 ·obtain rfl:false=r:=by rw[<-hr.o];exact(decide_eq_false (fun e=>by have:=e.1.1;simp at this;omega)).symm
  have hd1:decide (i<0)=true:=decide_eq_true h1;clear h1
  exact t58
 have hd1:decide (i<0)=false:=decide_eq_false h1;by_cases h2:i>200
 ·obtain rfl:false=r:=by rw[<-hr.o];exact(decide_eq_false (fun e=>by have:=e.1.2;simp at this;omega)).symm
  have hd2:decide (i>200)=true:=decide_eq_true h2;clear h1 h2
  exact t58
 have hd2:decide (i>200)=false:=decide_eq_false h2;by_cases h3:L.length<1
 ·obtain rfl:false=r:=by rw[<-hr.o];exact(decide_eq_false (fun e=>by have:=e.2.1.1;simp only at this;omega)).symm
  have hd3:decide ((L.length:Int)<1)=true:=decide_eq_true om_;clear h1 h2 h3
  exact t58
 have hd3:decide ((L.length:Int)<1)=false:=decide_eq_false om_;by_cases h4:L.length>8
 ·obtain rfl:false=r:=by rw[<-hr.o];exact(decide_eq_false (fun e=>by have:=e.2.1.2;simp only at this;omega)).symm
  have hd4:decide ((L.length:Int)>8)=true:=decide_eq_true om_;clear h1 h2 h3 h4
  exact t58
 have hd4:decide ((L.length:Int)>8)=false:=decide_eq_false om_;have HFI:Hid (Fine (i,L)↔FineF L/\size L<=64):=hid ⟨fun e=>⟨e.2.2.1,e.2.2.2⟩,fun e=>⟨by simp;omega,by simp;omega,e.1,e.2⟩⟩;have h8:L.length<=8:=by omega
 clear h1 h2 h3 h4;go_enter func43,ntmps43;go_wp2;clear hd1 hd2 hd3 hd4;generalize (w.alloc (.cells (zS i a L.length cap) 43))=W0 at *;go_loopw [3] (fun n wr=>∃k:Nat,k<=L.length/\n=.int .i64 (k:Int)/\Hid (FineF (L.take k))/\Hid (Below W0.heap.size W0 wr)) (fun n _=>L.length - (intOf n).toNat);case atStart=>exact⟨0,Nat.zero_le _,rfl,hid FineF.nil,hid (Below.refl _ _)⟩
 case round=>
  obtain⟨k,hk,rfl,HOK,HB⟩:=hrel;obtain⟨z0,z1,aN⟩:=HX.o _ HB.o;by_cases au:k<L.length
  ·obtain⟨b,off,p,rfl,bQ,hp,c0,c1,c2,c3,c4⟩:=field_at HF.o HB.o au;have i1:(k:Int)<L.length:=by omega
   have HNO:=hid (fineF_no hp);have HSUC:=hid (fineF_succ hp);have HAT:=hid (at_iff (ids_at hp));have hR:=range5 c0 c1 c2 c3 c4;have HZ:=hid (fun w' (af:Below wr.heap.size wr w')=>(⟨by obtain⟨_,y1,_⟩:=HX.o w' (HB.o.trans (af.mono HB.o.size));exact y1,(HB0.o.later (HB.o.trans (af.mono HB.o.size))).whole,range_later hR af bQ⟩:w'.cell? ⟨w.heap.size,1,none⟩=some (.slice (some ⟨b,off,none⟩) L.length cap)/\w'.rangeAt w.heap.size 0 (zS i (some ⟨b,off,none⟩) L.length cap)/\w'.rangeAt b (off+k*5) (zF p)));have ca:=fun w' (af:Below wr.heap.size wr w')=>refAt_any i (some ⟨b,off,none⟩) cap L p.id w' (HF.o.below (HB.o.trans (af.mono HB.o.size))) hL
   have cr:=fun w'=>refRight_any p w'
   clear hp hR;generalize firstAt (ids L) p.id=J at *;by_cases bg:p.Right
   ·rw[decide_eq_true bg] at cr;by_cases hj:J=(k:Int)
    ·have HNQ:Hid ((J != (k:Int))=false):=hid (by rw[hj];simp);have HOK2:Hid (FineF (L.take (k+1))):=hid (HSUC.o.2 ⟨HOK.o,bg,by rw[ids_take];exact HAT.o.1 hj⟩);clear bg hj c0 c1 c2 c3 c4;go_wp2;have hb:Below wr.heap.size wr wr.drew:=below_drew (Below.refl _ _)
     ·refine plan.region kr_ ?_;refine plan.Rest.first 0 _ (.pointer (some ⟨w.heap.size,1,none⟩)) rfl (fun w' af=>kr_) ?_;refine plan.Rest.first 1 _ (.slice (some ⟨b,off,none⟩) L.length cap) rfl (fun w' af=>exec_cell_slice (ad:=⟨w.heap.size,1,none⟩) rfl (HZ.o _ (hb.trans (af.mono hb.size))).1 isAgg41) ?_;refine plan.Rest.first 2 _ (.int .i64 (k:Int)) rfl (fun w' af=>kr_) ?_;refine plan.Rest.first 3 _ (.pointer (some ⟨b,off+k*5,none⟩)) rfl (fun w' af=>(exec_indexF (b:=b) (off:=off) (len:=L.length) (cap:=cap) (i:=k) rfl au)) ?_;refine plan.Rest.first 4 _ (zF p) rfl (fun w' af=>exec_load_at (b:=b) (off:=off+k*5) rfl (HZ.o _ (hb.trans (af.mono hb.size))).2.2 underlying79 rfl info_fd.o) ?_;refine plan.Rest.call 5 _ 69 #[zF p] rfl ((cr wr.drew).mono ?_);rintro e W1 ⟨rfl,hn⟩;have hb:=hb.trans (hn.mono hb.size);refine⟨_,rfl,hn, ?_⟩;refine plan.Rest.first 6 _ (.bool false) rfl (fun w' af=>kr_) ?_;refine plan.Rest.first 7 _ (.bool false) rfl (fun w' af=>kr_) ?_;refine plan.Rest.first 8 _ (zS i (some ⟨b,off,none⟩) L.length cap) rfl (fun w' af=>exec_load_at (b:=w.heap.size) (off:=0) rfl (HZ.o _ (hb.trans (af.mono hb.size))).2.1 underlying43 rfl info_fm.o) ?_;refine plan.Rest.first 9 _ (.pointer (some ⟨w.heap.size,1,none⟩)) rfl (fun w' af=>kr_) ?_;refine plan.Rest.first 10 _ (.slice (some ⟨b,off,none⟩) L.length cap) rfl (fun w' af=>exec_cell_slice (ad:=⟨w.heap.size,1,none⟩) rfl (HZ.o _ (hb.trans (af.mono hb.size))).1 isAgg41) ?_;refine plan.Rest.first 11 _ (.int .i64 (k:Int)) rfl (fun w' af=>kr_) ?_;refine plan.Rest.first 12 _ (.pointer (some ⟨b,off+k*5,none⟩)) rfl (fun w' af=>(exec_indexF (b:=b) (off:=off) (len:=L.length) (cap:=cap) (i:=k) rfl au)) ?_;refine plan.Rest.first 13 _ (.pointer (some ⟨b,off+k*5,none⟩)) rfl (fun w' af=>kr_) ?_;refine plan.Rest.first 14 _ (.int .i64 p.id) rfl (fun w' af=>exec_cell_int (ad:=⟨b,off+k*5,none⟩) rfl kr_ ((HZ.o _ (hb.trans (af.mono hb.size))).2.2 0 _ rfl) isAgg3) ?_;refine plan.Rest.first 16 _ (.int .i64 (k:Int)) rfl (fun w' af=>kr_) ?_;refine plan.Rest.call 15 _ 70 #[zS i (some ⟨b,off,none⟩) L.length cap,.int .i64 p.id] rfl ((ca W1 hb).mono ?_);rintro e W2 ⟨rfl,hn⟩;have hb:=hb.trans (hn.mono hb.size);refine⟨_,rfl,hn, ?_⟩;refine plan.Rest.first 17 _ (.bool false) rfl (fun w' af=>(exec_neq_int (n:=J) (m:=(k:Int)) rfl HNQ)) ?_;refine plan.Rest.first 18 _ (.bool false) rfl (fun w' af=>kr_) ?_
      exact t61
    ·have HNQ:Hid ((J != (k:Int))=true):=hid (by simp[hj]);obtain rfl:false=r:=by rw[<-hr.o];exact(decide_eq_false (fun e=>HNO.o (fun e2=>hj (HAT.o.2 (by rw[<-ids_take];exact e2.2))) (HFI.o.1 e).1)).symm
     clear bg hj c0 c1 c2 c3 c4;go_wp2;have hb:Below wr.heap.size wr wr.drew:=below_drew (Below.refl _ _)
     ·refine plan.region kr_ ?_;refine plan.Rest.first 0 _ (.pointer (some ⟨w.heap.size,1,none⟩)) rfl (fun w' af=>kr_) ?_;refine plan.Rest.first 1 _ (.slice (some ⟨b,off,none⟩) L.length cap) rfl (fun w' af=>exec_cell_slice (ad:=⟨w.heap.size,1,none⟩) rfl (HZ.o _ (hb.trans (af.mono hb.size))).1 isAgg41) ?_;refine plan.Rest.first 2 _ (.int .i64 (k:Int)) rfl (fun w' af=>kr_) ?_;refine plan.Rest.first 3 _ (.pointer (some ⟨b,off+k*5,none⟩)) rfl (fun w' af=>(exec_indexF (b:=b) (off:=off) (len:=L.length) (cap:=cap) (i:=k) rfl au)) ?_;refine plan.Rest.first 4 _ (zF p) rfl (fun w' af=>exec_load_at (b:=b) (off:=off+k*5) rfl (HZ.o _ (hb.trans (af.mono hb.size))).2.2 underlying79 rfl info_fd.o) ?_;refine plan.Rest.call 5 _ 69 #[zF p] rfl ((cr wr.drew).mono ?_);rintro e W1 ⟨rfl,hn⟩;have hb:=hb.trans (hn.mono hb.size);refine⟨_,rfl,hn, ?_⟩;refine plan.Rest.first 6 _ (.bool false) rfl (fun w' af=>kr_) ?_;refine plan.Rest.first 7 _ (.bool false) rfl (fun w' af=>kr_) ?_;refine plan.Rest.first 8 _ (zS i (some ⟨b,off,none⟩) L.length cap) rfl (fun w' af=>exec_load_at (b:=w.heap.size) (off:=0) rfl (HZ.o _ (hb.trans (af.mono hb.size))).2.1 underlying43 rfl info_fm.o) ?_;refine plan.Rest.first 9 _ (.pointer (some ⟨w.heap.size,1,none⟩)) rfl (fun w' af=>kr_) ?_;refine plan.Rest.first 10 _ (.slice (some ⟨b,off,none⟩) L.length cap) rfl (fun w' af=>exec_cell_slice (ad:=⟨w.heap.size,1,none⟩) rfl (HZ.o _ (hb.trans (af.mono hb.size))).1 isAgg41) ?_;refine plan.Rest.first 11 _ (.int .i64 (k:Int)) rfl (fun w' af=>kr_) ?_;refine plan.Rest.first 12 _ (.pointer (some ⟨b,off+k*5,none⟩)) rfl (fun w' af=>(exec_indexF (b:=b) (off:=off) (len:=L.length) (cap:=cap) (i:=k) rfl au)) ?_;refine plan.Rest.first 13 _ (.pointer (some ⟨b,off+k*5,none⟩)) rfl (fun w' af=>kr_) ?_;refine plan.Rest.first 14 _ (.int .i64 p.id) rfl (fun w' af=>exec_cell_int (ad:=⟨b,off+k*5,none⟩) rfl kr_ ((HZ.o _ (hb.trans (af.mono hb.size))).2.2 0 _ rfl) isAgg3) ?_;refine plan.Rest.first 16 _ (.int .i64 (k:Int)) rfl (fun w' af=>kr_) ?_;refine plan.Rest.call 15 _ 70 #[zS i (some ⟨b,off,none⟩) L.length cap,.int .i64 p.id] rfl ((ca W1 hb).mono ?_);rintro e W2 ⟨rfl,hn⟩;have hb:=hb.trans (hn.mono hb.size);refine⟨_,rfl,hn, ?_⟩;refine plan.Rest.first 17 _ (.bool true) rfl (fun w' af=>(exec_neq_int (n:=J) (m:=(k:Int)) rfl HNQ)) ?_
      exact t139
   ·rw[decide_eq_false bg] at cr;obtain rfl:false=r:=by rw[<-hr.o];exact(decide_eq_false (fun e=>HNO.o (fun e2=>bg e2.1) (HFI.o.1 e).1)).symm
    clear bg c0 c1 c2 c3 c4;go_wp2;have hb:Below wr.heap.size wr wr.drew:=below_drew (Below.refl _ _)
    ·refine plan.region kr_ ?_;refine plan.Rest.first 0 _ (.pointer (some ⟨w.heap.size,1,none⟩)) rfl (fun w' af=>kr_) ?_;refine plan.Rest.first 1 _ (.slice (some ⟨b,off,none⟩) L.length cap) rfl (fun w' af=>exec_cell_slice (ad:=⟨w.heap.size,1,none⟩) rfl (HZ.o _ (hb.trans (af.mono hb.size))).1 isAgg41) ?_;refine plan.Rest.first 2 _ (.int .i64 (k:Int)) rfl (fun w' af=>kr_) ?_;refine plan.Rest.first 3 _ (.pointer (some ⟨b,off+k*5,none⟩)) rfl (fun w' af=>(exec_indexF (b:=b) (off:=off) (len:=L.length) (cap:=cap) (i:=k) rfl au)) ?_;refine plan.Rest.first 4 _ (zF p) rfl (fun w' af=>exec_load_at (b:=b) (off:=off+k*5) rfl (HZ.o _ (hb.trans (af.mono hb.size))).2.2 underlying79 rfl info_fd.o) ?_;refine plan.Rest.call 5 _ 69 #[zF p] rfl ((cr wr.drew).mono ?_);rintro e W1 ⟨rfl,hn⟩;have hb:=hb.trans (hn.mono hb.size);refine⟨_,rfl,hn, ?_⟩;refine plan.Rest.first 6 _ (.bool true) rfl (fun w' af=>kr_) ?_;refine plan.Rest.first 7 _ (.bool true) rfl (fun w' af=>kr_) ?_;refine plan.Rest.skip 8 _ rfl ?_;refine plan.Rest.skip 9 _ rfl ?_;refine plan.Rest.skip 10 _ rfl ?_;refine plan.Rest.skip 11 _ rfl ?_;refine plan.Rest.skip 12 _ rfl ?_;refine plan.Rest.skip 13 _ rfl ?_;refine plan.Rest.skip 14 _ rfl ?_;refine plan.Rest.skip 15 _ rfl ?_;refine plan.Rest.skip 16 _ rfl ?_;refine plan.Rest.skip 17 _ rfl ?_
     exact t139
  ·obtain rfl:k=L.length:=by omega
   have HOK2:Hid (FineF L):=hid (by have:=HOK.o;rw[List.take_of_length_le (Nat.le_refl _)] at this;exact this);have cl:=refLong_any i a cap L wr (HF.o.below HB.o) om_;obtain rfl:decide ((size L:Int)<=64)=r:=by rw[<-hr.o];exact decide_eq_decide.2 ⟨fun e=>HFI.o.2 ⟨HOK2.o,by omega⟩,fun e=>by have:=(HFI.o.1 e).2;omega⟩
   go_wp2_with (go_at_call 71;((with_reducible refine cl.mono ?_);rintro e w2 ⟨rfl,aj⟩));go_ret;exact⟨rfl,aN.trans (aj.mono aN.size)⟩
end schema
end Go.Proofs.YtogfefdlffmioaaGreat
