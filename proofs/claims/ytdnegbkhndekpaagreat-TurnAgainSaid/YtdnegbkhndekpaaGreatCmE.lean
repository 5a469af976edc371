/- Contracts and lemmas that claims of this seat share: FieldRefRight, FieldRefHas, FieldHas, SchemaRefIx. Each says its own conditions. -/
import Derived.Test.YtdnegbkhndekpaaGreatCmWord
import Derived.Test.YtdnegbkhndekpaaGreatCmC
import Derived.Test.YtdnegbkhndekpaaGreatCmD
import Derived.Test.YtdnegbkhndekpaaGreatCmA
import Derived.Test.YtdnegbkhndekpaaGreatCmB
set_option linter.unusedVariables false
namespace Go.Proofs.YtdnegbkhndekpaaGreat
open Go.Proofs.Tryz
namespace field
open Go.RowKit
theorem aP (f:Fd) (w:World):Calls prog 67 #[zF f] w (Gives (.bool (decide f.Right)) w):=by
 have HB:=hid (lU f w);unfold Gives;by_cases h:f.Right
 ·rw [decide_eq_true h];have cs:=jd f h (w0:=(w.alloc (.cells (zF f) 26))) (Below.refl _ _);clear h;generalize f.great=G at *;generalize f.long=L at *;go_enter func67,ntmps67;go_wp2_with (go_at_call 55;(with_reducible refine cs.mono ?_);rintro e w1 ⟨rfl,hb1⟩);go_ret;exact ⟨rfl,HB.o _ hb1⟩
 ·rw [decide_eq_false h];have cs:=jf f h (w0:=(w.alloc (.cells (zF f) 26))) (Below.refl _ _);clear h;go_enter func67,ntmps67;go_wp2_with (go_at_call 55;(with_reducible refine cs.mono ?_);rintro e w1 ⟨⟨a,b,c,rfl⟩,hb1⟩);go_ret;exact ⟨rfl,HB.o _ hb1⟩
theorem Aj (n:Nat) (hn:n<281474976710656) (w:World):Calls prog 99 #[.int .i64 (n:Int)] w (Quiet (.int .i64 (wide n:Int)) w):=by
 go_enter func99,ntmps99;go_wp2;go_loopw [0,3] (fun m k wr=>∃(q j:Nat),m=.int .i64 (q:Int)/\k=.int .i64 (j:Int)/\q<=n/\j<=100/\Hid (j+wide q=wide n)/\w=wr) (fun m k wr=>(intOf m).toNat);case atStart=>exact ⟨n,0,rfl,rfl,Nat.le_refl _,by omega,hid om_,rfl⟩
 case round=>
  obtain ⟨q,j,rfl,rfl,hq,hj,hw,rfl⟩:=hrel;by_cases hlt:0<q
  ·have hd:=Hu hlt om_;have hw6:=sG n;have:=hw.o;have hj6:j<7:=by omega
   have HN:Hid (j+1+wide (q / 256)=wide n):=hid om_;clear hw hd this;go_wp2;go_round
   ·exact ⟨q / 256,j+1,by simp,by simp,by omega,by omega,HN,trivial⟩
   ·simp [intOf];omega
  ·obtain rfl:q=0:=by omega
   have hj2:=hw.o;rw [show wide 0=0 from rfl] at hj2;obtain rfl:j=wide n:=by omega
   clear hw hj2 hlt;generalize wide n=W at *;go_wp2;go_ret;exact ⟨rfl,0,rfl⟩
theorem mg (f:Fd) (w:World):Calls prog 56 #[zF f] w (Gives (.int .i64 (f.size:Int)) w):=by
 have HB:=hid (lU f w);have HS:=hid (five f w);have hsz:f.size=if f.Right then (if f.kind=4 then 1+f.most.toNat else wide (f.great - f.lo).toNat) else 0:=rfl
 rw [hsz];unfold Gives;by_cases hr:f.Right
 ·rw [if_pos hr];have cs:=jd f hr (w0:=(w.alloc (.cells (zF f) 26))) (Below.refl _ _);have hsp:=hr.span;by_cases h4:f.kind=4
  ·rw [if_pos h4];have hl:f.long=f.most:=by unfold Fd.long;rw [if_pos h4]
   rw [hl] at cs;have hm:0<=f.most/\f.most<=32:=by unfold Fd.Right at hr;omega
   obtain ⟨M,hM⟩:=Int.eq_ofNat_of_zero_le hm.1;rw [hM] at cs HB HS ⊢;rw [show ((M:Int)).toNat=M from rfl];have m2:M<=32:=by omega
   have e4:(f.kind == 4)=true:=by rw [beq_iff_eq];exact h4
   clear hl hm hsp hr hsz h4;generalize f.great=G at *;go_enter func56,ntmps56;go_wp2_with (go_at_call 55;go_loud ((with_reducible refine cs.mono ?_);rintro e w1 ⟨rfl,hb1⟩;have hk1:=HS.o _ hb1));go_ret;exact ⟨je om_,HB.o _ hb1⟩
  ·rw [if_neg h4];obtain ⟨T,hT⟩:∃T:Nat,f.great - f.lo=(T:Int):=⟨(f.great - f.lo).toNat,by omega⟩;have hTb:T<=2199023255552:=by omega
   rw [hT];rw [show ((T:Int)).toNat=T from rfl];have cw:=Aj T om_;have e4:(f.kind == 4)=false:=by rw [beq_eq_false_iff_ne];exact h4
   have s1:=hsp.2.2.1;have s2:=hsp.2.2.2.1;clear hsp hr hsz h4;generalize f.great=G at *;generalize f.long=L at *;obtain rfl:G=f.lo+(T:Int):=by omega
   clear hT;have hsub:f.lo+(T:Int) - f.lo=(T:Int):=by omega
   go_enter func56,ntmps56;go_wp2_with (first
    | (go_at_call 55;(with_reducible refine cs.mono ?_);rintro e w1 ⟨rfl,hb1⟩;have hk1:=HS.o _ hb1)
    | (go_at_call 99;(try rw [hsub]);(with_reducible refine (cw _).mono ?_);rintro e w2 ⟨rfl,nd,rfl⟩))
   go_ret;exact ⟨rfl,HB.o _ (below_drewN hb1 _)⟩
 ·rw [if_neg hr];have cs:=jf f hr (w0:=(w.alloc (.cells (zF f) 26))) (Below.refl _ _);clear hr hsz;go_enter func56,ntmps56;go_wp2_with (go_at_call 55;(with_reducible refine cs.mono ?_);rintro e w1 ⟨⟨a,b,c,rfl⟩,hb1⟩;have hk1:=HS.o _ hb1);go_ret;exact ⟨rfl,HB.o _ hb1⟩
end field
theorem t31{P:Prop}(h:P:=by
 go_enter func38,ntmps38;go_wp2_with (go_at_call 55;(with_reducible refine cs.mono ?_);rintro e w1 ⟨rfl,hb1⟩;obtain ⟨hf1,hv1,hbw1⟩:=HW.o _ hb1;clear cs);go_ret;exact ⟨bP HY.o,hbw1⟩):P:=h
namespace field
open Go.RowKit
def WV (f:Fd) (v:Va) (w:World):World:=(w.alloc (.cells (zF f) 26)).alloc (.cells (zV v) 28)
theorem WV.all (f:Fd) (v:Va) (w w':World) (hb:Below (WV f v w).heap.size (WV f v w) w'):(w'.cell? ⟨w.heap.size,0,none⟩=some (.int .i64 f.id)/\w'.cell? ⟨w.heap.size,1,none⟩=some (.int .i64 f.kind)/\w'.cell? ⟨w.heap.size,2,none⟩=some (.int .i64 f.lo)/\w'.cell? ⟨w.heap.size,3,none⟩=some (.int .i64 f.hi)/\w'.cell? ⟨w.heap.size,4,none⟩=some (.int .i64 f.most))/\(w'.cell? ⟨w.heap.size+1,0,none⟩=some (.int .i64 v.n)/\w'.cell? ⟨w.heap.size+1,1,none⟩=some (.string v.s))/\Below w.heap.size w w':=by
 have h1:Below (w.alloc (.cells (zF f) 26)).heap.size (w.alloc (.cells (zF f) 26)) w':=(aC _ _).trans (hb.mono (by unfold WV;simp));refine ⟨five f w w' h1, ?_,lU f w w' h1⟩;have h2:=two v (w.alloc (.cells (zF f) 26)) w' hb;simpa using h2
theorem nZ (f:Fd) (v:Va) (w:World):Calls prog 38 #[zF f,zV v] w (Gives (.bool (decide (f.Has v))) w):=by
 have HW:=hid (WV.all f v w);obtain ⟨V,hV⟩:∃V,Hid (decide (f.Has v)=V):=⟨_,rfl⟩;rw [hV.o];unfold Gives;by_cases h:f.Right
 ·have cs:=jd f h (w0:=WV f v w) (Below.refl _ _);have HQ:Hid (f.Has v↔(v.n≥f.lo/\v.n<=f.great/\(v.s.size:Int)<=f.long)):=hid ⟨fun k=>⟨k.2.1.1,k.2.1.2,k.2.2⟩,fun k=>⟨h,⟨k.1,k.2.1⟩,k.2.2⟩⟩;unfold WV at cs HW;clear h;generalize f.great=G at *;generalize f.long=L at *;generalize hN:(v.s.size:Int)=N at *;by_cases a1:v.n≥f.lo
  ·by_cases a2:v.n<=G
   ·by_cases a3:N<=L
    ·have HY:Hid (true=V):=hid (by rw [<-hV.o];symm;exact decide_eq_true (HQ.o.2 ⟨a1,a2,a3⟩));clear HQ hV
     exact t31
    ·have HY:Hid (false=V):=hid (by rw [<-hV.o];symm;exact decide_eq_false (fun k=>a3 (HQ.o.1 k).2.2));have d3:decide (N<=L)=false:=decide_eq_false a3;clear HQ hV a3
     exact t31
   ·have HY:Hid (false=V):=hid (by rw [<-hV.o];symm;exact decide_eq_false (fun k=>a2 (HQ.o.1 k).2.1));have d3:decide (v.n<=G)=false:=decide_eq_false a2;clear HQ hV a2
    exact t31
  ·have HY:Hid (false=V):=hid (by rw [<-hV.o];symm;exact decide_eq_false (fun k=>a1 (HQ.o.1 k).1));have d3:decide (v.n≥f.lo)=false:=decide_eq_false a1;clear HQ hV a1
   exact t31
 ·have cs:=jf f h (w0:=WV f v w) (Below.refl _ _);have HY:Hid (false=V):=hid (by rw [<-hV.o];symm;exact decide_eq_false (fun k=>h k.1));unfold WV at cs HW;clear h hV;go_enter func38,ntmps38;go_wp2_with (go_at_call 55;(with_reducible refine cs.mono ?_);rintro e w1 ⟨⟨a,b,c,rfl⟩,hb1⟩;obtain ⟨hf1,hv1,hbw1⟩:=HW.o _ hb1;clear cs);go_ret;exact ⟨bP HY.o,hbw1⟩
end field
namespace field
open Go.RowKit
theorem ah {P:Program} {o:Oper} {a:Act} {w:World} {ty:TypeId} {x:Operand} {ad:Addr} {k:IntKind} {n:Int} (ho:o.op=.load ty x) (hx:a.eval x=.pointer (some ad)) (hc:w.cell? ad=some (.int k n)) (hu:∀w',(isAgg ty).run P w'=.ok false w'):
  (execOp a.eval o).run P w=.ok (.value (.int k n)) w:=by
 unfold execOp;rw [ho];simp only [hx];go_simp
theorem qU {P:Program} {o:Oper} {a:Act} {w:World} {ty:TypeId} {x:Operand} {ad:Addr} {s:ByteArray} (ho:o.op=.load ty x) (hc:w.cell? ad=some (.string s)) (hu:∀w',(isAgg ty).run P w'=.ok false w') (hx:a.eval x=.pointer (some ad):=by kernel_rfl):
  (execOp a.eval o).run P w=.ok (.value (.string s)) w:=by
 unfold execOp;rw [ho];simp only [hx];go_simp
theorem Cf:Hid ((prog.info? 26).map (·.size)=some 5):=by show _=_;kernel_rfl
theorem yC (n lo hi:Int) (w:World) (b:Bool) (h:Hid (decide (lo<=n/\n<=hi)=b)):Calls prog 107 #[.int .i64 n,.int .i64 lo,.int .i64 hi] w (Gives (.bool b) w):=by
 by_cases hb:lo<=n/\n<=hi
 ·obtain rfl:b=true:=by rw [<-h.o];exact decide_eq_true hb
  exact (nT n lo hi w hb.1 hb.2).mono fun _ _ ⟨he,hw⟩=>⟨he,hw ▸ Below.refl _ _⟩
 ·obtain rfl:b=false:=by rw [<-h.o];exact decide_eq_false hb
  exact (fU n lo hi w om_).mono fun _ _ ⟨he,hw⟩=>⟨he,hw ▸ Below.refl _ _⟩
set_option maxRecDepth 20000 in
theorem dI (f:Fd) (v:Va) (w:World):Calls prog 72 #[zF f,zV v] w (Gives (.bool (decide (f.Has v))) w):=by
 have HLF:=Cf;have HB:=hid (fun w' hb=>(WV.all f v w w' hb).2.2);obtain ⟨w0,hw0⟩:∃x,Hid ((w.alloc (.cells (zF f) 26)).alloc (.cells (zV v) 28)=x):=⟨_,rfl⟩;have HB2:Hid (∀w',Below w0.heap.size w0 w'->Below w.heap.size w w'):=hid (by rw [<-hw0.o];exact HB.o);have HBF:Hid (Block w0.drew w.heap.size 26 (zF f)):=hid (by rw [<-hw0.o];exact ((Block.new w 26 (zF f)).alloc _).drewN 1);have HBV:Hid (Block w0.drew (w.heap.size+1) 28 (zV v)):=hid (by
  have h:=Block.new (w.alloc (.cells (zF f) 26)) 28 (zV v);rw [World.size_alloc] at h;rw [<-hw0.o];exact h.drewN 1)
 obtain ⟨r,hr⟩:∃r,Hid (decide (f.Has v)=r):=⟨_,rfl⟩;rw [hr.o];unfold Gives;go_enter func72,ntmps72;go_wp2;rw [hw0.o];clear HB hw0;have hb:Below w0.heap.size w0 w0.drew:=below_drewN (Below.refl _ _) 1;have hblk:=HBF.o;have hval:=HBV.o;refine plan.region kr_ ?_;by_cases h:f.Right
 ·by_cases hi:f.lo<=v.n/\v.n<=f.great
  ·have hin:Hid (decide (f.lo<=v.n/\v.n<=f.great)=true):=decide_eq_true hi;refine plan.Rest.first 0 _ (zF f) rfl (fun w' hb'=>plan.kC rfl (hblk.later hb').whole underlying26 rfl HLF.o) ?_;refine plan.Rest.call 1 _ 96 #[zF f] rfl ((tY f h w0.drew).mono ?_);rintro e W1 ⟨rfl,hn⟩;have hb:=hb.trans (hn.mono hb.size);have hblk:=hblk.later hn;have hval:=hval.later hn;refine ⟨_,rfl,hn, ?_⟩;refine plan.Rest.first 2 _ (.bool true) rfl (fun w' hb'=>kr_) ?_;refine plan.Rest.first 3 _ (.pointer (some ⟨w.heap.size+1,0,none⟩)) rfl (fun w' hb'=>kr_) ?_;refine plan.Rest.first 4 _ (.int .i64 v.n) rfl (fun w' hb'=>ah (ad:=⟨w.heap.size+1,0,none⟩) rfl kr_ ((hval.later hb').cell 0) isAgg3) ?_;refine plan.Rest.first 5 _ (.pointer (some ⟨w.heap.size,2,none⟩)) rfl (fun w' hb'=>kr_) ?_;refine plan.Rest.first 6 _ (.int .i64 f.lo) rfl (fun w' hb'=>ah (ad:=⟨w.heap.size,2,none⟩) rfl kr_ ((hblk.later hb').cell 2) isAgg3) ?_;refine plan.Rest.first 7 _ (zF f) rfl (fun w' hb'=>plan.kC rfl (hblk.later hb').whole underlying26 rfl HLF.o) ?_;refine plan.Rest.call 8 _ 108 #[zF f] rfl ((oN f h W1).mono ?_);rintro e W2 ⟨rfl,hn⟩;have hb:=hb.trans (hn.mono hb.size);have hblk:=hblk.later hn;have hval:=hval.later hn;refine ⟨_,rfl,hn, ?_⟩;refine plan.Rest.call 9 _ 107 #[.int .i64 v.n,.int .i64 f.lo,.int .i64 f.great] rfl ((yC v.n f.lo f.great W2 true hin).mono ?_);rintro e W3 ⟨rfl,hn⟩;have hb:=hb.trans (hn.mono hb.size);have hblk:=hblk.later hn;have hval:=hval.later hn;refine ⟨_,rfl,hn, ?_⟩;refine plan.Rest.first 10 _ (.bool true) rfl (fun w' hb'=>kr_) ?_;refine plan.Rest.first 11 _ (.bool true) rfl (fun w' hb'=>kr_) ?_;refine plan.Rest.first 12 _ (.pointer (some ⟨w.heap.size+1,1,none⟩)) rfl (fun w' hb'=>kr_) ?_;refine plan.Rest.first 13 _ (.string v.s) rfl (fun w' hb'=>qU (ad:=⟨w.heap.size+1,1,none⟩) rfl ((hval.later hb').cell 1) isAgg9) ?_;refine plan.Rest.first 14 _ (.int .i64 (v.s.size:Int)) rfl (fun w' hb'=>kr_) ?_;refine plan.Rest.first 15 _ (zF f) rfl (fun w' hb'=>plan.kC rfl (hblk.later hb').whole underlying26 rfl HLF.o) ?_;refine plan.Rest.call 16 _ 109 #[zF f] rfl ((Bj f W3).mono ?_);rintro e W4 ⟨rfl,hn⟩;have hb:=hb.trans (hn.mono hb.size);have hblk:=hblk.later hn;have hval:=hval.later hn;refine ⟨_,rfl,hn, ?_⟩;refine plan.Rest.first 17 _ (.bool (decide ((v.s.size:Int)<=f.long))) rfl (fun w' hb'=>kr_) ?_;refine plan.Rest.first 18 _ (.bool (decide ((v.s.size:Int)<=f.long))) rfl (fun w' hb'=>kr_) ?_;refine plan.Rest.value 19 _ (.bool (decide ((v.s.size:Int)<=f.long))) rfl ?_;refine plan.Rest.done ?_;go_wp2;exact bodyPost_ret (v:=.bool (decide ((v.s.size:Int)<=f.long))) kr_ kr_ ⟨bP (by rw [<-hr.o];exact decide_eq_decide.2 ⟨fun k=>⟨h,hi,k⟩,fun k=>k.2.2⟩),HB2.o _ hb⟩
  ·have hin:Hid (decide (f.lo<=v.n/\v.n<=f.great)=false):=decide_eq_false hi;refine plan.Rest.first 0 _ (zF f) rfl (fun w' hb'=>plan.kC rfl (hblk.later hb').whole underlying26 rfl HLF.o) ?_;refine plan.Rest.call 1 _ 96 #[zF f] rfl ((tY f h w0.drew).mono ?_);rintro e W1 ⟨rfl,hn⟩;have hb:=hb.trans (hn.mono hb.size);have hblk:=hblk.later hn;have hval:=hval.later hn;refine ⟨_,rfl,hn, ?_⟩;refine plan.Rest.first 2 _ (.bool true) rfl (fun w' hb'=>kr_) ?_;refine plan.Rest.first 3 _ (.pointer (some ⟨w.heap.size+1,0,none⟩)) rfl (fun w' hb'=>kr_) ?_;refine plan.Rest.first 4 _ (.int .i64 v.n) rfl (fun w' hb'=>ah (ad:=⟨w.heap.size+1,0,none⟩) rfl kr_ ((hval.later hb').cell 0) isAgg3) ?_;refine plan.Rest.first 5 _ (.pointer (some ⟨w.heap.size,2,none⟩)) rfl (fun w' hb'=>kr_) ?_;refine plan.Rest.first 6 _ (.int .i64 f.lo) rfl (fun w' hb'=>ah (ad:=⟨w.heap.size,2,none⟩) rfl kr_ ((hblk.later hb').cell 2) isAgg3) ?_;refine plan.Rest.first 7 _ (zF f) rfl (fun w' hb'=>plan.kC rfl (hblk.later hb').whole underlying26 rfl HLF.o) ?_;refine plan.Rest.call 8 _ 108 #[zF f] rfl ((oN f h W1).mono ?_);rintro e W2 ⟨rfl,hn⟩;have hb:=hb.trans (hn.mono hb.size);have hblk:=hblk.later hn;have hval:=hval.later hn;refine ⟨_,rfl,hn, ?_⟩;refine plan.Rest.call 9 _ 107 #[.int .i64 v.n,.int .i64 f.lo,.int .i64 f.great] rfl ((yC v.n f.lo f.great W2 false hin).mono ?_);rintro e W3 ⟨rfl,hn⟩;have hb:=hb.trans (hn.mono hb.size);have hblk:=hblk.later hn;have hval:=hval.later hn;refine ⟨_,rfl,hn, ?_⟩;refine plan.Rest.first 10 _ (.bool false) rfl (fun w' hb'=>kr_) ?_;refine plan.Rest.first 11 _ (.bool false) rfl (fun w' hb'=>kr_) ?_;refine plan.Rest.skip 12 _ rfl ?_;refine plan.Rest.skip 13 _ rfl ?_;refine plan.Rest.skip 14 _ rfl ?_;refine plan.Rest.skip 15 _ rfl ?_;refine plan.Rest.skip 16 _ rfl ?_;refine plan.Rest.skip 17 _ rfl ?_;refine plan.Rest.first 18 _ (.bool false) rfl (fun w' hb'=>kr_) ?_;refine plan.Rest.value 19 _ (.bool false) rfl ?_;refine plan.Rest.done ?_;go_wp2;exact bodyPost_ret (v:=.bool false) kr_ kr_ ⟨bP (by rw [<-hr.o];exact (decide_eq_false (fun k=>hi k.2.1)).symm),HB2.o _ hb⟩
 ·refine plan.Rest.first 0 _ (zF f) rfl (fun w' hb'=>plan.kC rfl (hblk.later hb').whole underlying26 rfl HLF.o) ?_;refine plan.Rest.call 1 _ 96 #[zF f] rfl ((Bz f h w0.drew).mono ?_);rintro e W1 ⟨rfl,hn⟩;have hb:=hb.trans (hn.mono hb.size);have hblk:=hblk.later hn;have hval:=hval.later hn;refine ⟨_,rfl,hn, ?_⟩;refine plan.Rest.first 2 _ (.bool false) rfl (fun w' hb'=>kr_) ?_;refine plan.Rest.skip 3 _ rfl ?_;refine plan.Rest.skip 4 _ rfl ?_;refine plan.Rest.skip 5 _ rfl ?_;refine plan.Rest.skip 6 _ rfl ?_;refine plan.Rest.skip 7 _ rfl ?_;refine plan.Rest.skip 8 _ rfl ?_;refine plan.Rest.skip 9 _ rfl ?_;refine plan.Rest.first 10 _ (.bool false) rfl (fun w' hb'=>kr_) ?_;refine plan.Rest.first 11 _ (.bool false) rfl (fun w' hb'=>kr_) ?_;refine plan.Rest.skip 12 _ rfl ?_;refine plan.Rest.skip 13 _ rfl ?_;refine plan.Rest.skip 14 _ rfl ?_;refine plan.Rest.skip 15 _ rfl ?_;refine plan.Rest.skip 16 _ rfl ?_;refine plan.Rest.skip 17 _ rfl ?_;refine plan.Rest.first 18 _ (.bool false) rfl (fun w' hb'=>kr_) ?_;refine plan.Rest.value 19 _ (.bool false) rfl ?_;refine plan.Rest.done ?_;go_wp2;exact bodyPost_ret (v:=.bool false) kr_ kr_ ⟨bP (by rw [<-hr.o];exact (decide_eq_false (fun k=>h k.1)).symm),HB2.o _ hb⟩
end field
theorem t51{P:Prop}(h:P:=by
 clear hp;by_cases hx:p.id=x
 ·have hd:(p.id == x)=true:=beq_iff_eq.2 hx;obtain rfl:(k:Int)=r:=by rw [<-hr.o];exact (HHIT.o hx).symm
  clear hx;go_wp2;go_ret;exact ⟨rfl,hbo⟩
 ·have hd:(p.id == x)=false:=beq_eq_false_iff_ne.2 hx;have HXX:=hid hx;clear hx;go_wp2;exact ⟨⟨k+1,by omega,by go_num,hid (HNX.o HXX.o),HB⟩,by simp [intOf];omega⟩):P:=h
namespace schema
open Go.RowKit
open field (Gives aC aj mg)
theorem lD (i:Int) (a:Option Addr) (cap:Nat) (L:List field.Fd) (x:Int) (w:World) (h:field.Fds w a L) (hL:L.length<=maxLen):
  Calls prog 23 #[zS i a L.length cap,.int .i64 x] w (Gives (.int .i64 (ai (ids L) x)) w):=by
 have hml:(L.length:Int)<=9223372036854775807:=by unfold maxLen at hL;omega
 have HX:=hid (xC i a L cap w);have HF:=hid (h.below (aC w (.cells (zS i a L.length cap) 57)));obtain ⟨r,hr⟩:∃r:Int,Hid (ai (ids L) x=r):=⟨_,rfl⟩;rw [hr.o];unfold Gives;clear h hL;go_enter func23,ntmps23;go_wp2;go_loopw [5] (fun n wr=>∃k:Nat,k<=L.length/\n=.int .i64 (k:Int)/\Hid (x∉(ids L).take k)/\Hid (Below (w.alloc (.cells (zS i a L.length cap) 57)).heap.size (w.alloc (.cells (zS i a L.length cap) 57)) wr)) (fun n _=>L.length - (intOf n).toNat);case atStart=>exact ⟨0,Nat.zero_le _,rfl,hid si_,hid (Below.refl _ _)⟩
 case round=>
  obtain ⟨k,hk,rfl,HNO,HB⟩:=hrel;obtain ⟨z0,z1,hbo⟩:=HX.o _ HB.o;by_cases hlt:k<L.length
  ·obtain ⟨b,off,p,rfl,hbl,hp,c0,c1,c2,c3,c4⟩:=di HF.o HB.o hlt;have i1:(k:Int)<L.length:=by omega
   have HHIT:=hid (fun e=>kE HNO.o ((wH hp).trans (congrArg some e)));have HNX:=hid (fun e=>jo HNO.o (wH hp) e)
   exact t51
  ·obtain rfl:k=L.length:=by omega
   obtain rfl: -1=r:=by rw [<-hr.o];have:=HNO.o;rw [List.take_of_length_le (by rw [jI];exact Nat.le_refl _)] at this;exact (kG this).symm
   go_wp2;go_ret;exact ⟨rfl,hbo⟩
theorem BP (i:Int) (a:Option Addr) (cap:Nat) (L:List field.Fd) (w:World) (h:field.Fds w a L) (hL:L.length<=40):
  Calls prog 70 #[zS i a L.length cap] w (Gives (.int .i64 (size L:Int)) w):=by
 have HX:=hid (xC i a L cap w);have HF:=hid (h.below (aC w (.cells (zS i a L.length cap) 57)));obtain ⟨S,hS⟩:∃S:Nat,Hid (size L=S):=⟨_,rfl⟩;rw [hS.o];unfold Gives;clear h;go_enter func70,ntmps70;go_wp2;go_loopw [3,4] (fun s n wr=>∃k:Nat,k<=L.length/\s=.int .i64 (size (L.take k):Int)/\n=.int .i64 (k:Int)/\Hid (Below (w.alloc (.cells (zS i a L.length cap) 57)).heap.size (w.alloc (.cells (zS i a L.length cap) 57)) wr)) (fun _ n _=>L.length - (intOf n).toNat);case atStart=>exact ⟨0,Nat.zero_le _,rfl,rfl,hid (Below.refl _ _)⟩
 case round=>
  obtain ⟨k,hk,rfl,rfl,HB⟩:=hrel;obtain ⟨z0,z1,hbo⟩:=HX.o _ HB.o;by_cases hlt:k<L.length
  ·obtain ⟨b,off,p,rfl,hbl,hp,c0,c1,c2,c3,c4⟩:=di HF.o HB.o hlt;have i1:(k:Int)<L.length:=by omega
   have HSZ:=hid (yP hp);have hst:=size_take L k;have cs:=fun w'=>mg p w'
   have hps:=qX p;clear hp;generalize size (L.take k)=s at *;go_wp2_with (go_at_call 56;((with_reducible refine (cs _).mono ?_);rintro e w2 ⟨rfl,hb2⟩));exact ⟨⟨k+1,by omega,by rw [HSZ.o];go_num,by go_num,hid (HB.o.trans (hb2.mono HB.o.size))⟩,by simp [intOf];omega⟩
  ·obtain rfl:k=L.length:=by omega
   go_wp2;go_ret;exact ⟨je (by rw [<-hS.o,List.take_of_length_le (Nat.le_refl _)]),hbo⟩
end schema
end Go.Proofs.YtdnegbkhndekpaaGreat
