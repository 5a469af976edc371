/- Contracts and lemmas that claims of this seat share: TurnSame, TurnRefPut, TurnRp, FieldRefLay, RecordRefLay. Each says its own conditions. -/
import Derived.Test.YtdnegbkhndekpaaGreatCmWord
import Derived.Conc.WalkWords
import Derived.Lib.ConvBytes
import Derived.Lib.AtoiErrMem
import Derived.Test.YtdnegbkhndekpaaGreatCmC
import Derived.Test.YtdnegbkhndekpaaGreatCmG
import Derived.Test.YtdnegbkhndekpaaGreatCmZ
import Derived.Test.YtdnegbkhndekpaaGreatCmV
import Derived.Test.YtdnegbkhndekpaaGreatCmB
import Derived.Test.YtdnegbkhndekpaaGreatCmAB
set_option linter.unusedVariables false
namespace Go.Proofs.YtdnegbkhndekpaaGreat
open Go.Proofs.Tryz
namespace turn
open Go Go.RowKit schema
open field (Gives aC Va)
theorem vM (r:Dn) (x:Option Addr) (c:Nat) (y:Option Addr) (d:Nat) (w:World) (h:field.Vas w x r.V) (h':field.Vas w y r.V) (hL:r.V.length<=maxLen):
  Calls prog 10 #[.agg #[.int .i64 r.j,.slice x r.V.length c,.bool r.gone,.bool r.has,.string r.lost],.agg #[.int .i64 r.j,.slice y r.V.length d,.bool r.gone,.bool r.has,.string r.lost]] w (Gives (.bool true) w):=by
 obtain ⟨W,hW,bW,hsz,hBX⟩:=aU w [(40,[.int .i64 r.j,.slice x r.V.length c,.bool r.gone,.bool r.has,.string r.lost]),(44,[.int .i64 r.j,.slice y r.V.length d,.bool r.gone,.bool r.has,.string r.lost])];simp only [boxes] at hW;have cS:=record.kX r.j x c r.V r.j y d r.V W (h.below bW) (h'.below bW) hL hL;rw [decide_eq_true (show r.j=r.j/\r.V=r.V from ⟨rfl,rfl⟩)] at cS;obtain ⟨⟨k0,k1,_⟩,_⟩:=hBX.o W (Below.refl _ _);have z0:=k0.cell 0;have z1:=k0.cell 1;have y0:=k1.cell 0;have y1:=k1.cell 1;rw [<-hW.o] at cS z0 z1 y0 y1;unfold Gives at cS ⊢;clear h h' bW k0 k1;go_enter func10,ntmps10;go_wp2_with (go_at_call 12;((with_reducible refine cS.mono ?_);clear cS;rintro e w1 ⟨rfl,hb1⟩;rw [hW.o] at hb1;obtain ⟨⟨k0,k1,_⟩,hbw⟩:=hBX.o _ hb1;have u2:=k0.cell 2;have u3:=k0.cell 3;have u4:=k0.cell 4;have t2:=k1.cell 2;have t3:=k1.cell 3;have t4:=k1.cell 4;have HB:=hid hbw;clear k0 k1 hb1 hbw));go_ret;exact ⟨by simp,HB.o⟩
end turn
theorem t138{P:Prop}(h:P:=by
 simp only [hx,hy,Option.map_some,Option.map_none];go_simp):P:=h
theorem t113{P:Prop}(h:P:=by
 rw [show (sizeOf (prog.elem 33)).run prog W=.ok 2 W by kernel_rfl];simp [Result.andThen,sliced,iU]):P:=h
namespace turn
open Go Go.RowKit schema
open record (vaC vaV iw bU fH jV dO nI)
open field (aC)
def iU (a:Option Addr) (k cap:Nat):Option Addr:=if cap=k then a else a.map (·.add (k*2))
theorem Dj (W:World) (a:Option Addr) (len cap k:Nat) (h:k<=len):(Instr.slice 33 (.slice a len cap) (some (.int .i64 (k:Int))) none none).run prog W=.ok (.slice (iU a k cap) (len - k) (cap - k)) W:=by
 rw [run_slice_l W 33 a len cap kr_ .i64 k om_ om_]
 exact t113
theorem AV (W:World) (a:Option Addr) (len cap k:Nat) (h:k<=cap):(Instr.slice 33 (.slice a len cap) none (some (.int .i64 (k:Int))) none).run prog W=.ok (.slice (iU a 0 cap) k cap) W:=by
 rw [run_slice_h W 33 a len cap kr_ .i64 k om_ om_]
 exact t113
theorem oQ {o:Oper} {a:Act} {w:World} {x y:Operand} {ad:Option Addr} {len cap k:Nat} (ho:o.op=.slice 33 x (some y) none none) (h:k<=len) (hx:a.eval x=.slice ad len cap:=by kernel_rfl) (hy:a.eval y=.int .i64 (k:Int):=by kernel_rfl):
  (execOp a.eval o).run prog w=.ok (.value (.slice (iU ad k cap) (len - k) (cap - k))) w:=by
 unfold execOp;rw [ho];have hc:=Dj w ad len cap k h
 exact t138
theorem xY {o:Oper} {a:Act} {w:World} {x y:Operand} {ad:Option Addr} {len cap k:Nat} (ho:o.op=.slice 33 x none (some y) none) (h:k<=cap) (hx:a.eval x=.slice ad len cap:=by kernel_rfl) (hy:a.eval y=.int .i64 (k:Int):=by kernel_rfl):
  (execOp a.eval o).run prog w=.ok (.value (.slice (iU ad 0 cap) k cap)) w:=by
 unfold execOp;rw [ho];have hc:=AV w ad len cap k h
 exact t138
theorem Af {w:World} {a:Option Addr} {L:List field.Va} (h:field.Vas w a L) (cap k:Nat) (hk:k<=L.length) (hc:L.length<=cap):k=0\/∃ad,iU a 0 cap=some ad/\∀j u,(vaV (L.take k))[j]?=some u->w.cell? (ad.add j)=some u:=by
 by_cases h0:k=0
 ·exact .inl h0
 rcases jV h with h1 | ⟨ad,rfl,h1⟩
 ·omega
 ·refine .inr ⟨ad,by unfold iU;rw [if_neg om_];simp [Addr.add],fun j u hj=>h1 j u ?_⟩;have hl:j<k*2:=by
   have:=(List.getElem?_eq_some_iff.1 hj).1;rw [bU,List.length_take,Nat.min_eq_left hk] at this;exact this
  rw [<-xN,List.getElem?_take_of_lt hl] at hj;exact hj
theorem wG {w:World} {a:Option Addr} {L:List field.Va} (h:field.Vas w a L) (cap k:Nat) (hk:k<=L.length) (hc:L.length<=cap):L.length - k=0\/∃ad,iU a k cap=some ad/\∀j u,(vaV (L.drop k))[j]?=some u->w.cell? (ad.add j)=some u:=by
 by_cases h0:L.length - k=0
 ·exact .inl h0
 rcases jV h with h1 | ⟨ad,rfl,h1⟩
 ·omega
 ·refine .inr ⟨ad.add (k*2),by unfold iU;rw [if_neg om_];rfl,fun j u hj=> ?_⟩;rw [<-xE,List.getElem?_drop] at hj;have:=h1 _ _ hj;have e:(ad.add (k*2)).add j=ad.add (k*2+j):=by
   unfold Addr.add;by_cases q1:k*2=0 <;> by_cases q2:j=0 <;> simp [q1,q2] <;> omega
  rw [e];exact this
theorem sF {w:World} {u:Value} {B n m c:Nat} {ap:Option Addr} {xs news:List Value}
  (hown:w.ownsRow B 28 2 u n xs) (hl:news.length=m*2) (hnews:m=0\/∃ad,ap=some ad/\∀j v,news[j]?=some v->w.cell? (ad.add j)=some v) (h1:∀v∈news,v.oneCell'=true) (hn:n+m<=1000000) (hB:B<=w.heap.size):
  ∃q w',(∀(o:Oper) (a:Act) (x y:Operand),o.op=.call { callee:=.builtin .append,args:=#[x,y],argTypes:=#[33,33]}->o.type=33->a.eval x=u->a.eval y=.slice ap m c->(execOp a.eval o).run prog w=.ok (.value q) w')/\w'.ownsRow B 28 2 q (n+m) (xs++news)/\w.grownBy w' u.ownBlock:=by
 obtain ⟨i0,hi,hz0,hz1,hz2⟩:=dO;by_cases hm:m=0
 ·subst hm;obtain rfl:news=[]:=List.eq_nil_of_length_eq_zero om_;obtain ⟨bp,cp,rfl,hcp⟩:=aB hown;have hsrc:Src prog i0.size 33 (.slice ap 0 c) 0 [] w:=by
   cases ap with
   | none=>exact Src.ofNil w underlying33 c
   | some ad=>exact Src.ofSlice w underlying33 ad 0 c [] si_ si_ si_
  have hrun:=run_append_nothing w 33 33 33 28 i0 underlying33 hi bp n cp hcp _ hsrc;refine ⟨_,w,fun o a x y ho hty hx hy=> ?_,by simpa using hown,nU _ _⟩;unfold execOp;simp [ho,hty,resolve,invoke,builtin,hx,hy,hrun,Result.andThen]
 ·rcases hnews with h0 | ⟨ad,rfl,hc⟩
  ·exact absurd h0 hm
  ·obtain ⟨q,w',h2,h3,h4,_,_⟩:=run_append_own_at w B 33 33 28 i0 _ 2 24 underlying33 hi hz0 hz1 hz2 (by simp [Value.cells]) om_ u n xs hown ad m c news om_ hc h1 (by unfold maxLen;omega) om_ hB;refine ⟨q,w',fun o a x y ho hty hx hy=> ?_,h3,h4⟩;unfold execOp;simp [ho,hty,resolve,invoke,builtin,hx,hy,h2,Result.andThen]
theorem tH {o:Oper} {a:Act} {w:World} {x y:Operand} {t:TypeId} {k:Nat} (ho:o.op=.binOp .add 3 x y t) (hx:a.eval x=.int .i64 (k:Int)) (hy:a.eval y=.int .i64 1) (hk:k<=1000):
  (execOp a.eval o).run prog w=.ok (.value (.int .i64 ((k+1:Nat):Int))) w:=by
 unfold execOp;rw [ho];simp only [hx,hy];go_simp;exact IntWalk.i64_in _ om_
theorem kJ {B n:Nat} {u:Value} {xs:List Value} {t:TypeId} {a w w':World} (h:Below B a w) (ho:w.ownsRow B t 2 u n xs) (hg:w.grownBy w' u.ownBlock) (hB:B<=w.heap.size):Below B a w':=
 h.grown hg hB (fun k hk=>(World.ownsRow.lt ho k hk).1)
set_option maxRecDepth 20000 in
theorem ku (a:Option Addr) (cap:Nat) (L:List field.Va) (k:Nat) (w:World) (h:field.Vas w a L) (hk:k<L.length) (hc:L.length<=cap) (hL:L.length<=1000):
  Calls prog 26 #[.slice a L.length cap,.int .i64 (k:Int)] w (nI (cutV L k) w):=by
 have HD:=hid (Below.refl w.heap.size w);have HW:=hid h;unfold nI cutV;have hlen:(L.take k++L.drop (k+1)).length=0+k+(L.length - (k+1)):=by simp;omega
 have e1:vaV (L.take k++L.drop (k+1))=[]++vaV (L.take k)++vaV (L.drop (k+1)):=by rw [fH];rfl
 rw [hlen,e1];have HK:=hid hk;have HC:=hid hc;have HL:=hid hL;have l1:(vaV (L.take k)).length=k*2:=by rw [bU,List.length_take,Nat.min_eq_left om_]
 have l2:(vaV (L.drop (k+1))).length=(L.length - (k+1))*2:=by rw [bU,List.length_drop]
 have HL1:=hid l1;have HL2:=hid l2;clear hlen e1 l1 l2 h hk hc hL;go_enter func26,ntmps26;go_wp2;refine plan.bD (S:=fun _=>True) ?_;have hb0:Below w.heap.size w w.drew:=below_drewN (Below.refl _ _) 1;refine plan.af 0 _ (.slice a L.length cap) rfl (fun w' hS'=>kr_) trivial ?_;refine plan.af 1 _ (.int .i64 (k:Int)) rfl (fun w' hS'=>kr_) trivial ?_;refine plan.af 2 _ (.slice (iU a 0 cap) k cap) rfl (fun w' hS'=>(xY (len:=L.length) rfl (by have:=HC.o;have:=HK.o;omega))) trivial ?_;refine plan.af 4 _ (.slice a L.length cap) rfl (fun w' hS'=>kr_) trivial ?_;refine plan.af 5 _ (.int .i64 (k:Int)) rfl (fun w' hS'=>kr_) trivial ?_;refine plan.af 6 _ (.int .i64 ((k+1:Nat):Int)) rfl (fun w' hS'=>(tH rfl kr_ kr_ (by have:=HK.o;have:=HL.o;omega))) trivial ?_;refine plan.af 7 _ (.slice (iU a (k+1) cap) (L.length - (k+1)) (cap - (k+1))) rfl (fun w' hS'=>(oQ rfl (by have:=HK.o;omega))) trivial ?_;obtain ⟨q1,w1,r1,o1,g1⟩:=sF (m:=k) (c:=cap) (ap:=iU a 0 cap) (World.ownsRow_nil w.drew w.heap.size 28 2) HL1.o (Af (HW.o.below hb0) cap k (by have:=HK.o;omega) HC.o) (iw _) (by have:=HK.o;have:=HL.o;omega) (Nat.le_of_eq rfl);refine plan.bI (w1:=w1) 3 _ (q1) rfl rfl (hv:=(r1 _ _ _ _ rfl rfl kr_ kr_)) trivial ?_;have hb1:Below w.heap.size w w1:=hb0.grown g1 hb0.size (fun k hk=>by cases hk);obtain ⟨q2,w2,r2,o2,g2⟩:=sF (m:=L.length - (k+1)) (c:=cap - (k+1)) (ap:=iU a (k+1) cap) o1 HL2.o (wG (HW.o.below hb1) cap (k+1) (by have:=HK.o;omega) HC.o) (iw _) (by have:=HK.o;have:=HL.o;omega) hb1.size;refine plan.bI (w1:=w2) 8 _ (q2) rfl rfl (hv:=(r2 _ _ _ _ rfl rfl kr_ kr_)) trivial ?_;have hb2:Below w.heap.size w w2:=kJ hb1 o1 g2 hb1.size;refine plan.bI (w1:=w2) 9 _ (q2) rfl rfl trivial ?_;refine plan.gm ?_;walk_nrm;go_wp2;go_ret;exact ⟨_,rfl,o2,hb2⟩
set_option maxRecDepth 20000 in
theorem iR (a:Option Addr) (cap:Nat) (L:List field.Va) (k:Nat) (f:field.Va) (w:World) (h:field.Vas w a L) (hk:k<=L.length) (hc:L.length<=cap) (hL:L.length<=1000):
  Calls prog 24 #[.slice a L.length cap,.int .i64 (k:Int),zV f] w (nI (iO L k f) w):=by
 obtain ⟨i0,hi,hz0,hz1,hz2⟩:=dO;have hb0:=aC w (.cells (zV f) 28);have hB0:=Block.new w 28 (zV f);obtain ⟨W0,hW0⟩:∃x,x=(w.alloc (.cells (zV f) 28)):=⟨_,rfl⟩;obtain ⟨B1,hB1⟩:∃x,x=W0.heap.size:=⟨_,rfl⟩;rw [<-hW0] at hb0 hB0;have HB0:=hid hb0;have HBX:Hid (∀w',Below B1 W0 w'->Block w' w.heap.size 28 (zV f)):=hid (fun w' hb=>hB0.later (hB1 ▸ hb));have HS0:Hid (w.heap.size<=B1):=hid (by rw [hB1];exact hb0.size);have HW:=hid h;unfold nI iO;have hlen:(L.take k++([f]++L.drop k)).length=k+1+(L.length - k):=by simp;omega
 have e1:vaV (L.take k++([f]++L.drop k))=vaV (L.take k)++vaC f++vaV (L.drop k):=by rw [fH,fH];simp [vaV]
 rw [hlen,e1];have hs1:=fun W=>AV W a L.length cap k om_
 have HK:=hid hk;have HC:=hid hc;have HL:=hid hL;have l1:(vaV (L.take k)).length=k*2:=by rw [bU,List.length_take,Nat.min_eq_left om_]
 have l2:(vaV (L.drop k)).length=(L.length - k)*2:=by rw [bU,List.length_drop]
 have HL1:=hid l1;have HL2:=hid l2;have HN1:=Af (h.below hb0) cap k hk hc;rw [hW0] at HN1;replace HN1:=hid HN1;have HW0:=hid hW0;have HB1:=hid hB1;have HM1:Hid (0+k<=maxLen):=by show _<=_;unfold maxLen;omega
 have HM2:Hid ((0+k)*24<=140737488355328):=by show _<=_;omega
 have HBL:Hid (B1<=((w.alloc (.cells (zV f) 28))).heap.size):=hid (by rw [hB1,hW0];exact Nat.le_refl _);clear hlen e1 l1 l2 h hk hc hL hb0 hB0 hW0 hB1;go_enter func24,ntmps24;go_wp2_with (at_builtin;refine aN rfl _ _ 33 rfl B1 28 i0 _ 2 24 underlying33 hi hz0 hz1 hz2 (by simp [Value.cells]) om_ (.slice none 0 0) 0 [] rfl (World.ownsRow_nil _ _ _ _) (iU a 0 cap) k cap (vaV (L.take k)) rfl HL1.o HN1.o (iw _) HM1.o HM2.o HBL.o ?_);intro v1 w1 ho hg;obtain ⟨x1,c1,rfl,_⟩:=aB ho;have hb1:Below B1 W0 w1:=by rw [HB1.o,HW0.o];exact (Below.refl _ _).grown hg (Nat.le_refl _) (fun k hk=>by cases hk)
 have hsz1:B1<=w1.heap.size:=Nat.le_trans HBL.o hg.size;have HO:=hid ho;have HB2:=hid hb1;have HZ1:=hid hsz1;clear ho hg hb1 hsz1;go_wp2;refine plan.bD (S:=fun w'=>Block w' w.heap.size 28 (zV f)) ?_;have hd:Below B1 W0 w1.drew:=below_drewN HB2.o 1;have hz:B1<=w1.drew.heap.size:=HZ1.o;have hod:=fK (w':=w1.drew) HO.o (fun g hg=>rfl);have hS:=HBX.o _ hd;generalize w1.drew=wd at *;refine plan.af 0 _ (.slice x1 k c1) rfl (fun w' hS'=>kr_) hS ?_;refine plan.af 1 _ (zV f) rfl (fun w' hS'=>(ak (b:=w.heap.size) (off:=0) rfl hS'.whole underlying28 rfl iD.o)) hS ?_;refine plan.af 4 _ (.slice a L.length cap) rfl (fun w' hS'=>kr_) hS ?_;refine plan.af 5 _ (.int .i64 (k:Int)) rfl (fun w' hS'=>kr_) hS ?_;refine plan.af 6 _ (.slice (iU a k cap) (L.length - k) (cap - k)) rfl (fun w' hS'=>(oQ rfl HK.o)) hS ?_;obtain ⟨w2,hw2⟩:∃x,x=wd.alloc (.cells (zV f) 28):=⟨_,rfl⟩;have hb2:Below B1 W0 w2:=by rw [hw2];exact hd.alloc hz _
 have hR2:Block w2 wd.heap.size 28 (vaC f):=by rw [hw2];exact Block.new wd _ _
 have ho2:w2.ownsRow B1 28 2 (.slice x1 k c1) k (vaV (L.take k)):=by rw [hw2];exact hod.alloc _
 have hS2:=HBX.o _ hb2;have hz2:B1<=w2.heap.size:=by rw [hw2];simp;omega
 refine plan.bI (w1:=wd.alloc (.cells (zV f) 28)) 2 _ (.slice (some ⟨wd.heap.size,0,none⟩) 1 1) rfl rfl (by rw [<-hw2];exact hS2) ?_;rw [<-hw2];obtain ⟨q3,w3,r3,o3,g3⟩:=sF (m:=1) (c:=1) (ap:=some ⟨wd.heap.size,0,none⟩) ho2 (news:=vaC f) rfl (.inr ⟨_,rfl,fun j v hj=>by rw [Addr.add_lit,Nat.zero_add];exact (hR2.cell j).trans hj⟩) (by have:=iw [f];simpa [vaV] using this) (by have:=HK.o;have:=HL.o;omega) hz2;have hb3:=kJ hb2 ho2 g3 hz2;have hz3:B1<=w3.heap.size:=Nat.le_trans hz2 g3.size;have hS3:=HBX.o _ hb3;refine plan.bI (w1:=w3) 3 _ (q3) rfl rfl (hv:=(r3 _ _ _ _ rfl rfl kr_ kr_)) hS3 ?_;obtain ⟨q4,w4,r4,o4,g4⟩:=sF (m:=L.length - k) (c:=cap - k) (ap:=iU a k cap) o3 HL2.o (wG (HW.o.below (HB0.o.trans (hb3.mono HS0.o))) cap k HK.o HC.o) (iw _) (by have:=HK.o;have:=HL.o;omega) hz3;have hb4:=kJ hb3 o3 g4 hz3;have hS4:=HBX.o _ hb4;refine plan.bI (w1:=w4) 7 _ (q4) rfl rfl (hv:=(r4 _ _ _ _ rfl rfl kr_ kr_)) hS4 ?_;refine plan.bI (w1:=w4) 8 _ (q4) rfl rfl hS4 ?_;refine plan.gm ?_;walk_nrm;go_wp2;go_ret;exact ⟨_,rfl,dV o4 HS0.o,HB0.o.trans (hb4.mono HS0.o)⟩
end turn
namespace turn
open Go Go.RowKit schema typing
open record (vaC vaV bU iw jV dO nI)
open field (Va aC)
open step (Sp va0 fd0)
theorem IA {V:List Va} {k:Nat} (h:k<V.length) (z:Va):iO (cutV V k) k z=V.set k z:=by
 rw [set_mid h];unfold iO cutV;have hl:(V.take k).length=k:=by simp;omega
 rw [pV hl,wz hl]
theorem AQ {o:Oper} {a:Act} {w:World} {x y:Operand} {b off len cap i:Nat} (ho:o.op=.indexAddr 33 x y) (hi:i<len) (hx:a.eval x=.slice (some ⟨b,off,none⟩) len cap:=by kernel_rfl) (hy:a.eval y=.int .i64 (i:Int):=by kernel_rfl):
  (execOp a.eval o).run prog w=.ok (.value (.pointer (some ⟨b,off+i*2,none⟩))) w:=by
 have h1:(i:Int)<len:=by omega
 exact t44
theorem zJ {o:Oper} {a:Act} {w:World} {x y:Operand} {ad:Addr} {v:Value} {s:ByteArray} (ho:o.op=.store 9 x y) (hc:w.cell? ad=some v) (hf:w.frozen? ad=false) (hx:a.eval x=.pointer (some ad):=by kernel_rfl) (hy:a.eval y=.string s:=by kernel_rfl):(execOp a.eval o).run prog w=.ok .skip (w.setCell ad (.string s)):=by
 exact t44
theorem vT {w:World} {b o:Nat} {cs:List Value} (h:w.rangeAt b o cs) {g:Nat} (hg:b≠g) (q:Nat) (v:Value):(w.setCell ⟨g,q,none⟩ v).rangeAt b o cs:=
 fun j u hj=>(World.cell?_setCell_other _ _ _ _ (by intro e;cases e;exact hg rfl)).trans (h j u hj)
def Et (U:List Va) (w:World) (e:Ending) (w':World):Prop:=∃x c,e=.returned (.slice x U.length c)/\Own w.heap.size w' (.slice x U.length c) U/\U.length<=c/\Below w.heap.size w w'
theorem Dz {U:List Va} {w w':World} {e:Ending} (h:nI U w e w'):Et U w e w':=by
 obtain ⟨v,rfl,ho,hb⟩:=h;have ho':Own w.heap.size w' v U:=ho;obtain ⟨x,c,rfl,hc,_⟩:=ho'.slice;exact ⟨x,c,rfl,ho',hc,hb⟩
theorem qY (a:Option Addr) (cap:Nat) (V:List Va) (k:Nat) (n:Int) (w:World) (h:field.Vas w a V) (hk:k<V.length) (hc:V.length<=cap) (hV:V.length<=999):
  Calls prog 27 #[.slice a V.length cap,.int .i64 (k:Int),.int .i64 n] w (Et (V.set k (vn n)) w):=by
 have cC:=ku a cap V k w h hk hc om_;have hcl:=jL hk;have cP:=fun (x:Option Addr) (c:Nat) (w1:World) (ho:field.Vas w1 x (cutV V k)) (hx:(cutV V k).length<=c)=>iR x c (cutV V k) k (vn n) w1 ho om_ hx om_
 rw [IA hk] at cP;generalize cutV V k=U at *;obtain ⟨Y,hY⟩:∃q,Hid (V.set k (vn n)=q):=⟨_,hid rfl⟩;rw [hY.o] at cP ⊢;simp only [vn] at cP;clear h hk hc hV hcl hY;unfold Et;go_enter func27,ntmps27;go_wp2_with (first
  | (go_at_call 26;((with_reducible refine cC.mono ?_);rintro e w1 hw1;obtain ⟨x1,c1,rfl,ho1,hx1,hb1⟩:=Dz hw1;obtain ⟨_,_,hs,_,hv1⟩:=ho1.slice;cases hs;have cP1:=cP x1 c1 w1 hv1 hx1;have HB1:=hid hb1;clear hw1 ho1 hb1 hv1 hx1 cP))
  | (go_at_call 24;((with_reducible refine cP1.mono ?_);rintro e w2 hw2;obtain ⟨x2,c2,rfl,ho2,hx2,hb2⟩:=Dz hw2;have HO:=hid (ho2.low HB1.o.size);have HX:=hid hx2;have HB2:=hid (HB1.o.trans (hb2.mono HB1.o.size));clear hw2 ho2 hb2 hx2)))
 go_ret;exact ⟨x2,c2,rfl,HO.o,HX.o,HB2.o⟩
structure Rp (B1 D:Nat) (i:Int) (fa:Option Addr) (fc:Nat) (L:List field.Fd) (s:Sp) (ta:Option Addr) (tc:Nat) (la:Option Addr) (lc:Nat) (j:Int) (b:Option Addr) (d:Nat) (V:List Va) (h:Bool) (lost:ByteArray) (u:Value) (U:List Va) (w W:World):Prop where
 step:Block W (w.heap.size+1) 32 (zP s ta tc la lc)
 rec':Block W (w.heap.size+1+1) 35 (zS j b V.length d)
 res:Block W (w.heap.size+1+1+1) 44 [.int .i64 0,.slice none 0 0,.bool false,.bool false,.string ⟨#[]⟩]
 form:Block W B1 57 (zS i fa L.length fc)
 done:Block W D 44 [.int .i64 0,.slice none 0 0,.bool false,.bool h,.string lost]
 row:Own (w.heap.size+4) W u U
 below:Below w.heap.size w W
 lt:w.heap.size+3<D
theorem bM:Hid ((prog.info? 44).map (·.size)=some 5):=by show _=_;kernel_rfl
theorem vrd:(44:TypeId)≠28:=by decide
section
variable {B1 D:Nat} {i:Int} {fa:Option Addr} {fc:Nat} {L:List field.Fd} {s:Sp} {ta:Option Addr} {tc:Nat} {la:Option Addr} {lc:Nat} {j:Int} {b:Option Addr} {d:Nat} {V:List Va} {h h':Bool} {lost lost':ByteArray} {u u' z:Value} {U U':List Va} {w W W1 W2:World}
theorem Rp.later (hA:Rp B1 D i fa fc L s ta tc la lc j b d V h lost u U w W) (hb:Below W.heap.size W W1):Rp B1 D i fa fc L s ta tc la lc j b d V h lost u U w W1:=
 ⟨hA.step.later hb,hA.rec'.later hb,hA.res.later hb,hA.form.later hb,hA.done.later hb,hA.row.later hb,hA.below.trans (hb.mono hA.below.size),hA.lt⟩
theorem Rp.named (hA:Rp B1 D i fa fc L s ta tc la lc j b d V h lost u U w W) (hb:Below W.heap.size W W1) (he:Hid (W1=W2)):Hid (Rp B1 D i fa fc L s ta tc la lc j b d V h lost u U w W2):=hid (he.o ▸ hA.later hb)
theorem Rp.turn (hA:Rp B1 D i fa fc L s ta tc la lc j b d V h lost u U w W) (hb:Below W.heap.size W W1) (ho:Own W.heap.size W1 u' U'):Rp B1 D i fa fc L s ta tc la lc j b d V h lost u' U' w W1:=by
 have k:=hA.later hb;exact ⟨k.step,k.rec',k.res,k.form,k.done,ho.low (by have:=hA.res.lt;omega),k.below,k.lt⟩
theorem Rp.has (hA:Rp B1 D i fa fc L s ta tc la lc j b d V h lost u U w W) (hn:B1≠D):Rp B1 D i fa fc L s ta tc la lc j b d V true lost u U w (W.setCell ⟨D,3,none⟩ (.bool true)):=by
 have:=hA.lt;exact ⟨hA.step.apart _ _ _ om_,hA.rec'.apart _ _ _ om_,hA.res.apart _ _ _ om_,hA.form.apart _ _ _ hn,hA.done.setCell 3 (.bool true),hA.row.past (own_ne hA.row hA.done vrd) 3 [.bool true],below_setCells hA.below om_ 3 [.bool true],hA.lt⟩
theorem Rp.lose (hA:Rp B1 D i fa fc L s ta tc la lc j b d V h lost u U w W) (hn:B1≠D):Rp B1 D i fa fc L s ta tc la lc j b d V h lost' u U w (W.setCell ⟨D,4,none⟩ (.string lost')):=by
 have:=hA.lt;exact ⟨hA.step.apart _ _ _ om_,hA.rec'.apart _ _ _ om_,hA.res.apart _ _ _ om_,hA.form.apart _ _ _ hn,hA.done.setCell 4 (.string lost'),hA.row.past (own_ne hA.row hA.done vrd) 4 [.string lost'],below_setCells hA.below om_ 4 [.string lost'],hA.lt⟩
theorem Rp.end' (hA:Rp B1 D i fa fc L s ta tc la lc j b d V h lost u U w W):Block W D 44 [.int .i64 0,.slice none 0 0,.bool false,.bool h,.string lost]/\((W.setCell ⟨D,0,none⟩ (.int .i64 j)).setCell ⟨D,1,none⟩ u).there (w.heap.size+1+1+1) 0 5/\
  ∀vs,vs.length=5->Block (((W.setCell ⟨D,0,none⟩ (.int .i64 j)).setCell ⟨D,1,none⟩ u).setCells (w.heap.size+1+1+1) 0 vs) (w.heap.size+1+1+1) 44 vs/\Own (w.heap.size+4) (((W.setCell ⟨D,0,none⟩ (.int .i64 j)).setCell ⟨D,1,none⟩ u).setCells (w.heap.size+1+1+1) 0 vs) u U/\Below w.heap.size w (((W.setCell ⟨D,0,none⟩ (.int .i64 j)).setCell ⟨D,1,none⟩ u).setCells (w.heap.size+1+1+1) 0 vs):=by
 have:=hA.lt;have hne:=own_ne hA.row hA.done vrd;have hr:=(hA.res.apart D 0 (.int .i64 j) om_).apart D 1 u om_;refine ⟨hA.done,hr.there 0 5 si_,fun vs hv=>⟨?_,((hA.row.past hne 0 [.int .i64 j]).past hne 1 [u]).past (fun e=>by have:=(hA.row.at' e).1;omega) 0 vs,below_setCells (below_setCells (below_setCells hA.below om_ 0 [.int .i64 j]) om_ 1 [u]) om_ 0 vs⟩⟩
 exact t129
theorem Rp.val (hA:Rp B1 D i fa fc L s ta tc la lc j b d V h lost u U w W) {k:Nat} (hk:k<U.length) (y:Va) (hy:U.getD k va0=y):∃g cap,u=.slice (some ⟨g,0,none⟩) U.length cap/\W.cell? ⟨g,k*2,none⟩=some (.int .i64 y.n)/\W.cell? ⟨g,k*2+1,none⟩=some (.string y.s)/\g<W.heap.size/\U.length<=cap:=by
 subst hy;obtain ⟨g,cap,hu,hb,hg,hn,hc,hr,_⟩:=hA.row.get hk;exact ⟨g,cap,hu,hr 0 _ rfl,hr 1 _ rfl,hg,hn⟩
end
end turn
namespace field
open Go.RowKit cut
theorem rZ (xs:List Nat):∀v∈u8v xs,v.oneCell'=true:=by intro v hv;obtain ⟨x,_,rfl⟩:=List.mem_map.1 hv;rfl
theorem xK {w:World} {a:Option Addr} {len:Nat} {xs:List Nat} (h:Reads .u8 w a len xs):len=0\/∃ad,a=some ad/\∀j u,(u8v xs)[j]?=some u->w.cell? (ad.add j)=some u:=by
 rcases h.2 with h0 | ⟨b,off,ha,_,hc⟩
 ·exact .inl h0
 ·refine .inr ⟨_,ha,fun j u hj=> ?_⟩;have hl:j<xs.length:=by have:=(List.getElem?_eq_some_iff.1 hj).1;simpa [u8v] using this
  rw [Jh xs j hl] at hj;cases hj
  rw [Addr.add_lit];exact hc j (by have:=h.1;omega)
theorem sS (f:Fd) (w:World) (sz:Nat) (h:Hid (f.size=sz)):Calls prog 56 #[zF f] w (Gives (.int .i64 (sz:Int)) w):=by rw [<-h.o];exact mg f w
theorem yj (f:Fd) (v:Va) (h:f.Has v) (h4:f.kind≠4) (w:World):Calls prog 25 #[zF f,zV v] w fun e w'=>∃u,e=.returned u/\w'.ownsRow w.heap.size 5 1 u (f.dA v).length (u8v (f.dA v))/\Below w.heap.size w w':=by
 have HW:=hid (WV.all f v w);obtain ⟨hr,⟨k1,k2⟩,hh⟩:=h;have hL:f.dA v=digits f.size (v.n - f.lo).toNat:=by unfold Fd.dA;rw [if_neg (show ¬¬f.Has v from fun k=>k ⟨hr,⟨k1,k2⟩,hh⟩),if_neg h4]
 rw [hL];have hsp:=hr.span;have cs:=jd f hr (w0:=WV f v w) (Below.refl _ _);have hs6:=Fd.wP hr h4;have e4:(f.kind == 4)=false:=by rw [beq_eq_false_iff_ne];exact h4
 obtain ⟨N,hN⟩:∃N:Nat,v.n - f.lo=(N:Int):=⟨(v.n - f.lo).toNat,by omega⟩;rw [hN,show ((N:Int)).toNat=N from rfl,digits_length];have hNb:N<281474976710656:=by omega
 have s1:=hsp.2.2.1;have s2:=hsp.2.2.2.1;have hw1:IntKind.i64.wrap (v.n - f.lo)=(N:Int):=by rw [IntWalk.i64_in _ om_,hN]
 have hw2:wrap64 (v.n - f.lo)=(N:Int):=by rw [IntWalk.wrap64_in _ om_,hN]
 have HN:=hid hN;obtain ⟨i0,hi,hz0,hz1,hz2⟩:=info_parts mJ;clear hr k1 k2 hh h4 hL hsp hN;generalize f.great=G at *;generalize f.long=LL at *;obtain ⟨sz,HSZ⟩:∃sz,Hid (f.size=sz):=⟨_,rfl⟩;rw [HSZ.o] at hs6 ⊢;unfold WV at HW cs;go_enter func25,ntmps25;go_wp2_with (go_at_call 55;(with_reducible refine cs.mono ?_);rintro e w1 ⟨rfl,hb1⟩;obtain ⟨hf1,hv1,hbw1⟩:=HW.o _ hb1;clear cs);go_loopw [9,10,11] (fun n b i wr=>∃(k:Nat) (a:Option Addr) (c:Nat),n=.int .i64 ((N / 256 ^ k:Nat):Int)/\b=.slice a k c/\i=.int .i64 (k:Int)/\k<=sz/\wr.ownsRow w.heap.size 5 1 (.slice a k c) k (u8v (digits k N))/\Hid (Below ((w.alloc (.cells (zF f) 26)).alloc (.cells (zV v) 28)).heap.size ((w.alloc (.cells (zF f) 26)).alloc (.cells (zV v) 28)) wr)) (fun n b i wr=>sz - (intOf i).toNat);case atStart=>exact ⟨0,none,0,by simp,rfl,rfl,Nat.zero_le _,World.ownsRow_nil _ _ _ _,hid hb1⟩
 case round=>
  obtain ⟨k,a,c,rfl,rfl,rfl,hk,ho,hbr⟩:=hrel;have hbr':=hbr.o;obtain ⟨hfr,hvr,hbwr⟩:=HW.o _ hbr';have hNk:N / 256 ^ k<=N:=Nat.div_le_self _ _;by_cases hlt:k<sz
  ·have hd:=BL k N;have hdiv:N / 256 ^ (k+1)=N / 256 ^ k / 256:=by rw [Nat.pow_succ,Nat.div_div_eq_div_mul]
   rw [show k+1=1+k by omega] at hd;obtain ⟨M,hM⟩:∃M,Hid (N / 256 ^ k=M):=⟨_,rfl⟩;rw [hM.o] at hd hdiv hNk ⊢;have hMb:M<281474976710656:=by omega
   have hm8:IntKind.u8.wrap ((M:Int) % 256)=((M % 256:Nat):Int):=by rw [IntWalk.u8_in _ om_];omega
   have HD:=hid hd;have HDV:=hid hdiv;have HO:=hid ho;clear hd hdiv ho;have cz1:=sS f wr sz HSZ;obtain ⟨V,hV⟩:∃V,Hid (u8v (digits k N)=V):=⟨_,rfl⟩;have hVl:Hid (V.length=k):=hid (by rw [<-hV.o,kH,digits_length]);go_wp2_with (first
    | (go_at_call 56;(with_reducible refine cz1.mono ?_);rintro e w2 ⟨rfl,hb2⟩;have hbW:=hbr'.trans (hb2.mono hbr'.size);obtain ⟨hf2,hv2,hbw2⟩:=HW.o _ hbW;have ho2:=aK HO.o hb2;have hrow:=World.ownsRow_lit (base:=w.heap.size) (e:=5) (size:=1) w2 #[.int .u8 ((M:Int) % 256)] 1 hbw2.size (by unfold maxLen;omega) rfl;have hnews:=xK (Reads.own (k:=.u8) (xs:=digits k N) (w:=w2.alloc (.cells #[.int .u8 ((M:Int) % 256)] 5)) (ho2.alloc _));rw [hV.o] at hnews)
    | (at_builtin;refine fV rfl _ _ 68 rfl w.heap.size 5 i0 (.int .u8 0) 1 underlying68 hi hz0 hz1 hz2 rfl (.slice (some ⟨w2.heap.size,0,none⟩) 1 1) 1 [.int .u8 ((M:Int) % 256)] rfl hrow a k c V rfl hVl.o hnews (by rw [<-hV.o];exact rZ _) (by unfold maxLen;omega) om_ (Nat.le_trans hbw2.size si_) ?_))
   intro u w3 ho3 hg3;have hb3:=(hbW.alloc hbW.size (.cells #[.int .u8 ((M:Int) % 256)] 5)).grown hg3 (Nat.le_trans hbW.size si_) (fun k hk=>by cases hk;exact hbW.size);rw [show Value.int .u8 ((M:Int) % 256) :: V=u8v (digits (1+k) N) by rw [HD.o,<-hV.o];simp [u8v],Nat.add_comm 1 k] at ho3;obtain ⟨a3,c3,rfl,_⟩:=aB ho3;have HO3:=hid ho3;have HB3:=hid hb3;clear ho3 hb3 hg3 hnews hrow ho2;go_wp2;go_round
   ·exact ⟨k+1,a3,c3,by rw [HDV.o];simp,rfl,by simp,by omega,HO3.o,HB3⟩
   ·simp [intOf];omega
  ·obtain rfl:k=sz:=by omega
   have cz1:=sS f wr k HSZ;have HO:=hid ho;clear ho;go_wp2_with (go_at_call 56;(with_reducible refine cz1.mono ?_);rintro e w2 ⟨rfl,hb2⟩;have hbW:=hbr'.trans (hb2.mono hbr'.size);obtain ⟨hf2,hv2,hbw2⟩:=HW.o _ hbW;have ho2:=aK HO.o hb2);go_ret;exact ⟨_,rfl,ho2,hbw2⟩
theorem xM (f:Fd) (v:Va) (h:f.Has v) (h4:f.kind=4) (w:World):Calls prog 25 #[zF f,zV v] w fun e w'=>∃u,e=.returned u/\w'.ownsRow w.heap.size 5 1 u (f.dA v).length (u8v (f.dA v))/\Below w.heap.size w w':=by
 have HW:=hid (WV.all f v w);obtain ⟨hr,⟨k1,k2⟩,hh⟩:=h;have hL:f.dA v=v.s.size :: bytesOf v.s:=by unfold Fd.dA;rw [if_neg (show ¬¬f.Has v from fun k=>k ⟨hr,⟨k1,k2⟩,hh⟩),if_pos h4]
 rw [hL];have hsp:=hr.span;have hs32:v.s.size<=32:=by omega
 have cs:=jd f hr (w0:=WV f v w) (Below.refl _ _);have e4:(f.kind == 4)=true:=by rw [beq_iff_eq];exact h4
 obtain ⟨i0,hi,hz0,hz1,hz2⟩:=info_parts mJ;have hbl:(v.s.size :: bytesOf v.s).length=1+v.s.size:=by rw [List.length_cons,bytesOf_length];omega
 have hbv:u8v (v.s.size :: bytesOf v.s)=[Value.int .u8 (v.s.size:Int)]++u8v (bytesOf v.s):=rfl;rw [hbl,hbv];have hwr:IntKind.u8.wrap (v.s.size:Int)=(v.s.size:Int):=IntWalk.u8_in _ om_;have hcv:Hid (∀w1:World,(convert 9 68 (.string v.s)).run prog w1=.ok (.slice (some ⟨w1.heap.size,0,none⟩) v.s.size (grownCap w1 v.s.size 0 5)) (Lib.bytesWorld w1 5 v.s)):=
  hid fun w1=>Lib.run_convert_string_bytes w1 _ _ _ _ underlying9 underlying68 underlying5
 have hnw:Hid (∀w1:World,v.s.size=0\/∃ad,(some ⟨w1.heap.size,0,none⟩:Option Addr)=some ad/\∀j u,(u8v (bytesOf v.s))[j]?=some u->(Lib.bytesWorld w1 5 v.s).cell? (ad.add j)=some u):=hid fun w1=>by
  refine xK (xs:=bytesOf v.s) ⟨by rw [bytesOf_length],.inr ⟨_,_,rfl,by rw [Lib.bytesWorld_size];omega,fun i hi=> ?_⟩⟩;rw [Nat.zero_add,Lib.bytesWorld_cell _ _ _ _ hi];have hi':i<v.s.data.toList.length:=by rw [Array.length_toList];exact hi
  simp [bytesOf,List.getD_eq_getElem?_getD,List.getElem?_eq_getElem hi']
 have hun:Hid ((u8v (bytesOf v.s)).length=v.s.size):=hid (by rw [kH,bytesOf_length]);clear hr k1 k2 hh h4 hL hsp hbl hbv;generalize f.great=G at *;generalize f.long=LL at *;unfold WV at HW cs;go_enter func25,ntmps25;go_wp2_with (first
  | (go_at_call 55;(with_reducible refine cs.mono ?_);rintro e w2 ⟨rfl,hb2⟩;obtain ⟨hf2,hv2,hbw2⟩:=HW.o _ hb2;clear cs;have hlt:w.heap.size+1<w2.heap.size:=(by have:=hb2.size;simp at this;omega);have hrow:=World.ownsRow_lit (base:=w.heap.size) (e:=5) (size:=1) w2 #[.int .u8 (v.s.size:Int)] 1 hbw2.size (by unfold maxLen;omega) rfl;have hc1:=hcv.o (w2.alloc (.cells #[.int .u8 (v.s.size:Int)] 5)))
  | (at_builtin;refine fV rfl _ _ 68 rfl w.heap.size 5 i0 (.int .u8 0) 1 underlying68 hi hz0 hz1 hz2 rfl (.slice (some ⟨w2.heap.size,0,none⟩) 1 1) 1 [.int .u8 (v.s.size:Int)] rfl (aK hrow (Lib.bytesWorld_below _ _ _)) (some ⟨w2.heap.size+1,0,none⟩) v.s.size _ (u8v (bytesOf v.s)) rfl hun.o (by simpa using hnw.o (w2.alloc (.cells #[.int .u8 (v.s.size:Int)] 5))) (rZ _) (by unfold maxLen;omega) om_ (by rw [Lib.bytesWorld_size];simp;omega) ?_))
 intro u w3 ho3 hg3;have hbb:=(hbw2.alloc hbw2.size (.cells #[.int .u8 (v.s.size:Int)] 5));have hbc:=hbb.trans ((Lib.bytesWorld_below (w2.alloc (.cells #[.int .u8 (v.s.size:Int)] 5)) 5 v.s).mono hbb.size);have hb3:=hbc.grown hg3 hbc.size (fun k hk=>by cases hk;exact hbw2.size);go_wp2;go_ret;exact ⟨_,rfl,ho3,hb3⟩
theorem rE (f:Fd) (v:Va) (h:f.Has v) (w:World):Calls prog 25 #[zF f,zV v] w fun e w'=>∃u,e=.returned u/\w'.ownsRow w.heap.size 5 1 u (f.dA v).length (u8v (f.dA v))/\Below w.heap.size w w':=by
 by_cases h4:f.kind=4
 ·exact xM f v h h4 w
 ·exact yj f v h h4 w
end field
namespace record
open Go.RowKit
open field (Va Gives aC aj WV rE ru u8v kH mJ)
open schema (aY di Fine xC jS)
set_option maxHeartbeats 800000 in
theorem uq (i:Int) (a:Option Addr) (c:Nat) (L:List field.Fd) (j:Int) (b:Option Addr) (d:Nat) (V:List Va) (w:World) (h:field.Fds w a L) (h':field.Vas w b V) (hH:cu L V) (hL:L.length<=8):
  Calls prog 22 #[zS i a L.length c,zS j b V.length d] w fun e w'=>∃z,e=.returned z/\w'.ownsRow w.heap.size 5 1 z (eY L V).length (u8v (eY L V))/\Below w.heap.size w w':=by
 have HX:=hid (WF.all i a L c j b V d w);have hw:=(WF.all i a L c j b V d w _ (Below.refl _ _)).2.2.2.2;have HF:=hid (h.below hw);have HG:=hid (h'.below hw);have HLEN:=hid hH.length;have HH:=hid hH;have HBD:=hid (fun k=>yV L V k hL);obtain ⟨w1,hw1⟩:∃x,Hid (WF i a L c j b V d w=x):=⟨_,hid rfl⟩;rw [hw1.o] at HX HF HG;obtain ⟨z0,z1,z2,z3,hbo⟩:=HX.o w1 (Below.refl _ _);have HBO:=hid hbo;obtain ⟨i0,hi,hz0,hz1,hz2⟩:=info_parts mJ;unfold WF at hw1;clear h h' hw hH hbo;go_enter func22,ntmps22;go_wp2;rw [hw1.o];clear z0 z1 z2 z3;go_loopw [5,6] (fun v n wr=>∃k:Nat,k<=L.length/\n=.int .i64 (k:Int)/\Hid (wr.ownsRow w1.heap.size 5 1 v (eY (L.take k) (V.take k)).length (u8v (eY (L.take k) (V.take k))))/\Hid (Below w1.heap.size w1 wr)) (fun _ n _=>L.length - (intOf n).toNat);case atStart=>exact ⟨0,Nat.zero_le _,rfl,hid (by rw [yL];exact World.ownsRow_nil _ _ _ _),hid (Below.refl _ _)⟩
 case round=>
  obtain ⟨k,hk,rfl,HO,HB⟩:=hrel;obtain ⟨z0,z1,z2,z3,hbo⟩:=HX.o _ HB.o;obtain ⟨ua,uc,rfl,_⟩:=aB HO.o;have hVL:(V.length:Int)=L.length:=by rw [HLEN.o]
  by_cases hlt:k<L.length
  ·obtain ⟨g,off,p,rfl,hbl,hp,c0,c1,c2,c3,c4⟩:=di HF.o HB.o hlt;obtain ⟨g',off',q,rfl,hbl',hq,d0,d1⟩:=uj HG.o HB.o (k:=k) (by rw [<-HLEN.o];exact hlt);have i1:(k:Int)<V.length:=by omega
   have i2:(k:Int)<L.length:=by omega
   have HLT:=hid (tZ hp hq);have cS:=fun W=>rE p q (HH.o.at hp hq) W
   have hb33:(p.dA q).length<=33:=Nat.le_trans (vK p q) p.size_le;have hbk:=HBD.o k;clear hp hq hbo;generalize eY (L.take k) (V.take k)=X at *;generalize p.dA q=Y at *;go_wp2;refine tail.BZ 1 11 ?_;simp only [List.take_succ_cons,List.take_zero,List.drop_succ_cons,List.drop_zero];repeat (go_big_quiet_step (fail))
   refine wpQuiet_nil ?_;rintro _ ⟨nq,rfl⟩;go_wp2_with (first
    | (go_at_call 25;((with_reducible refine (cS _).mono ?_);rintro e w2 ⟨z,rfl,ho2,hb2⟩;obtain ⟨za,zc,rfl,_⟩:=aB ho2;have HN:=hid (Ai ho2);have HUL:=hid (kH Y);have HB2:=hid ((below_drewN (Below.refl wr.heap.size wr) nq).trans (hb2.mono si_));have HO2:=hid (aK HO.o HB2.o)))
    | (at_builtin;refine fV rfl _ _ 68 rfl w1.heap.size 5 i0 (.int .u8 0) 1 underlying68 hi hz0 hz1 hz2 rfl _ X.length (u8v X) rfl HO2.o za Y.length zc (u8v Y) rfl HUL.o HN.o (rZ Y) (by unfold maxLen;omega) om_ (by have:=HB.o.size;have:=HB2.o.size;omega) ?_;intro z w3 ho3 hg3;have HO3:=hid ho3;have HB3:=hid ((HB.o.trans (HB2.o.mono HB.o.size)).grown hg3 (by have:=HB.o.size;have:=HB2.o.size;omega) (fun k hk=>(World.ownsRow.lt HO2.o k hk).1));clear ho3 hg3))
   refine NoPanic.normal ?_;go_wp2;exact ⟨⟨k+1,by omega,by go_num,hid (by rw [HLT.o,List.length_append,vY];exact HO3.o),HB3⟩,by simp [intOf];omega⟩
  ·obtain rfl:k=L.length:=by omega
   go_wp2;go_ret;have he:eY (L.take L.length) (V.take L.length)=eY L V:=by rw [List.take_of_length_le (Nat.le_refl _),List.take_of_length_le (by rw [HLEN.o];exact Nat.le_refl _)]
   have ho:wr.ownsRow w1.heap.size 5 1 (.slice ua (eY (L.take L.length) (V.take L.length)).length uc) (eY L V).length (u8v (eY L V)):=by have:=HO.o;rw [he] at this ⊢;exact this
   exact ⟨_,rfl,schema.dV ho (by have:=HBO.o.size;omega),HBO.o.trans (HB.o.mono HBO.o.size)⟩
end record
end Go.Proofs.YtdnegbkhndekpaaGreat
