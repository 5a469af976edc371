/- Contracts and lemmas that claims of this seat share: RecordRS, RecordTake, RecordKeep, TurnRegain. Each says its own conditions. -/
import Derived.Test.YtdnegbkhndekpaaGreatCmWord
import Derived.Lib.AtoiErrMem
import Derived.Test.YtdnegbkhndekpaaGreatCmC
import Derived.Test.YtdnegbkhndekpaaGreatCmG
import Derived.Test.YtdnegbkhndekpaaGreatCmZ
import Derived.Test.YtdnegbkhndekpaaGreatCmV
import Derived.Test.YtdnegbkhndekpaaGreatCmB
import Derived.Test.YtdnegbkhndekpaaGreatCmU
import Derived.Test.YtdnegbkhndekpaaGreatCmT
set_option linter.unusedVariables false
namespace Go.Proofs.YtdnegbkhndekpaaGreat
open Go.Proofs.Tryz
namespace record
open Go.RowKit
open field (Va Gives aC aj)
open schema (aY di Fine xC iY aT fdC jR rq lN aQ ak fB aX nX)
def WMR (i:Int) (a:Option Addr) (L:List field.Fd) (c:Nat) (w:World):World:=(w.alloc (.cells (zS i a L.length c) 57)).alloc (.cells #[.int .i64 0,.slice none 0 0] 35)
theorem WMR.all (i:Int) (a:Option Addr) (L:List field.Fd) (c:Nat) (w w':World) (hb:Below (WMR i a L c w).heap.size (WMR i a L c w) w'):
  w'.cell? ⟨w.heap.size,0,none⟩=some (.int .i64 i)/\w'.cell? ⟨w.heap.size,1,none⟩=some (.slice a L.length c)/\Block w' (w.heap.size+1) 35 [.int .i64 0,.slice none 0 0]/\Below w.heap.size w w':=by
 obtain ⟨h1,h2,h3⟩:=xC i a L c w w' (aY hb);have hB:=(Block.new (w.alloc (.cells (zS i a L.length c) 57)) 35 [.int .i64 0,.slice none 0 0]).later hb;exact ⟨h1,h2,by simpa using hB,h3⟩
theorem RS.done {i:Int} {w0:World} {F n:Nat} {V:List Va} {a:Option Addr} {c:Nat} {wr w:World} {R:Nat} {v0 v1:Value} (hS:RS i w0 F V n (.slice a n c) wr) (hR:Block wr R 35 [v0,v1]) (hlt:R<F) (hw:w.heap.size<=R) (hb:Below w.heap.size w wr):
  Block ((wr.setCell ⟨R,0,none⟩ (.int .i64 i)).setCell ⟨R,1,none⟩ (.slice a n c)) R 35 (zS i a V.length c)/\field.Vas ((wr.setCell ⟨R,0,none⟩ (.int .i64 i)).setCell ⟨R,1,none⟩ (.slice a n c)) a V/\
   Below w.heap.size w ((wr.setCell ⟨R,0,none⟩ (.int .i64 i)).setCell ⟨R,1,none⟩ (.slice a n c)):=by
 have hn:=hS.len;subst hn;have hB:=(hR.setCell 0 (.int .i64 i)).setCell 1 (.slice a V.length c);have hbR:=((But.refl wr.heap.size R wr).setCell 0 (.int .i64 i)).setCell 1 (.slice a V.length c);have hrow:=fK (w':=(wr.setCell ⟨R,0,none⟩ (.int .i64 i)).setCell ⟨R,1,none⟩ (.slice a V.length c)) hS.row (fun g hg=>by
  have h1:=World.ownsRow.lt hS.row g hg;exact hbR.2.2.2.2 g h1.2 om_)
 exact ⟨hB,(jU hrow).1,below_setCells (below_setCells hb hw 0 [.int .i64 i]) hw 1 [.slice a V.length c]⟩
end record
theorem t58{P:Prop}(h:P:=by
 have hB:=(HR3.o.setCell 0 (.int .i64 0)).setCell 1 (.slice none 0 0);exact bodyPost_ret (au (b:=w.heap.size+1) (o:=0) rfl rfl hB.whole underlying35 rfl (dD _ _)) rfl ⟨none,0,rfl,.inl rfl,below_setCells (below_setCells HB3.o om_ 0 [.int .i64 0]) om_ 1 [.slice none 0 0]⟩):P:=h
namespace record
open Go.RowKit cut
open field (Va Gives aC aj take_any jC)
open schema (aY di Fine iY aN)
theorem au {fn:Func} {p u:Tmp} {ty:TypeId} {tmps:Array Value} {P:Program} {w:World} {b o:Nat} {cs:List Value} {d:TypeDesc} (h:fn.results=#[.cell p ty,.tmp u])
  (hp:tmps.getD p undef=.pointer (some ⟨b,o,none⟩)) (hc:w.rangeAt b o cs) (hu:P.underlying ty=some d) (hd:d.isRow=true) (hi:(P.info? ty).map (·.size)=some cs.length):
  (results fn tmps).run P w=.ok (.tuple #[.agg cs.toArray,tmps.getD u undef]) w:=by
 exact t63
theorem JZ (w:World) (p:Va):(1:Nat)=0\/∃ad,(some ⟨w.heap.size,0,none⟩:Option Addr)=some ad/\∀j u,(vaC p)[j]?=some u->(w.alloc (.cells (zV p) 28)).cell? (ad.add j)=some u:=
 .inr ⟨_,rfl,fun j u hj=>by rw [Addr.add_lit,Nat.zero_add];exact ((Block.new w 28 (vaC p)).cell j).trans hj⟩
def zD (T:Int×List Va×Int) (w:World) (e:Ending) (w':World):Prop:=∃x c,e=.returned (.tuple #[zS T.1 x T.2.1.length c,.int .i64 T.2.2])/\field.Vas w' x T.2.1/\Below w.heap.size w w'
def TS (i:Int) (L:List field.Fd) (w1:World) (F:Nat) (T:Int×List Va×Int) (k:Nat) (v:Value) (wr:World):Prop:=
 ∃a len cap ys V u,v=.slice a len cap/\Reads .u8 w1 a len ys/\(∀x∈ys,x<256)/\len<=cap/\cap<=9223372036854775807/\RS i w1 F V k u wr/\fin i (onto V (jr (L.drop k) ys))=T
set_option maxRecDepth 20000 in
set_option maxHeartbeats 1600000 in
theorem yK (i:Int) (a:Option Addr) (c:Nat) (L:List field.Fd) (ab:Option Addr) (lenb capb:Nat) (xs:List Nat) (w:World) (h:field.Fds w a L) (hL:L.length<=maxLen)
  (hrd:Reads .u8 w ab lenb xs) (hxs:∀x∈xs,x<256) (hcb:lenb<=capb) (hmb:capb<=9223372036854775807):
  Calls prog 29 #[zS i a L.length c,.slice ab lenb capb] w (zD (qp i L xs) w):=by
 have HX:=hid (WMR.all i a L c w);have hw:=(WMR.all i a L c w _ (Below.refl _ _)).2.2.2;have cF:=iY i a c L (WMR i a L c w) (h.below hw) hL;have HF:=hid (h.below hw);have HRD:=hid (hrd.below hw);unfold zD qp;unfold Gives at cF;by_cases hf:Fine (i,L)
 ·rw [decide_eq_true hf] at cF;rw [if_neg (fun k=>k hf)];have hL8:=nC hf;obtain ⟨⟨TF,TV,TE⟩,hT⟩:∃T,Hid (fin i (jr L xs)=T):=⟨_,hid rfl⟩;rw [hT.o];simp only;have HXS:=hid hxs;clear h hL hf hw hrd hxs;unfold WMR at HX cF HF HRD;go_enter func29,ntmps29;go_wp2_with (go_at_call 60;((with_reducible refine cF.mono ?_);rintro e w1 ⟨rfl,hb1⟩;obtain ⟨z0,z1,hR1,hbo⟩:=HX.o _ hb1;have hsz0:w.heap.size<w1.heap.size:=(by have:=hR1.lt;omega)));have HR1:=hid hR1;have HBO:=hid hbo;have HF1:=hid (HF.o.below hb1);have HRD1:=hid (HRD.o.below hb1);have HS2:=hid (RS.start w1 i);have HSZ:Hid (w.heap.size+1<w1.heap.size):=hid hR1.lt;obtain ⟨F,hF⟩:∃F,Hid (w1.heap.size=F):=⟨_,hid rfl⟩;rw [hF.o] at HS2 HSZ ⊢;clear hb1 hR1 hbo cF z0 z1 hsz0 HF HRD;go_loopw [1,22] (fun v m wr=>∃k:Nat,k<=L.length/\m=.int .i64 (k:Int)/\Hid (TS i L w1 F (TF,TV,TE) k v wr)) (fun _ m _=>L.length - (intOf m).toNat);case atStart=>exact ⟨0,Nat.zero_le _,rfl,hid ⟨_,_,_,xs,[],_,rfl,HRD1.o,HXS.o,hcb,hmb,HS2.o,by rw [List.drop_zero,H7];exact hT.o⟩⟩
  case round=>
   obtain ⟨k,hk,rfl,HTS⟩:=hrel;obtain ⟨a',len',cap',ys,V,u,rfl,hr',hx',hc',hm',hS,hfin⟩:=HTS.o;obtain ⟨ua,uc,rfl,_⟩:=aB hS.row;clear HTS hT HRD1 hcb hmb HS2;by_cases hlt:k<L.length
   ·obtain ⟨g,off,p,rfl,hbl,hp,c0,c1,c2,c3,c4⟩:=di HF1.o hS.low hlt;have i1:(k:Int)<L.length:=by omega
    have cT:=take_any p a' len' cap' ys ((wr.alloc (.cells (zF p) 26))) (hr'.below (hS.low.trans ((aC wr _).mono hS.low.size))) hx' hc' hm';unfold jC at cT;have hlen':=hr'.1;by_cases he:(p.take ys).e=0
    ·have hcl:(p.take ys).c<=len':=by have:=(field.Fd.vZ hx' he).2.1;omega
     have HRN:=hid (uP hr' hcl hc');have HXN:Hid (∀x∈ys.drop (p.take ys).c,x<256):=hid (fun x hm=>hx' x (List.mem_of_mem_drop hm));have HFN:=hid ((Fj V hp he).symm ▸ hfin);have HCN:Hid (len' - (p.take ys).c<=cap' - (p.take ys).c/\cap' - (p.take ys).c<=9223372036854775807):=hid om_;have hcut:=fun W=>BI W a' len' cap' (p.take ys).c hcl
     rw [he] at cT;have HS:=hid (hS.later (aC wr (.cells (zF p) 26)));clear hp hS hfin he hr' hx';generalize strOf (p.take ys).s=st at *;generalize (p.take ys).n=nn at *;generalize (p.take ys).c=cc at *;generalize shift a' cc cap'=a2 at *;obtain ⟨i0,hi,hz0,hz1,hz2⟩:=dO;go_wp2_with (first
      | (go_at_call 61;((with_reducible refine cT.mono ?_);rintro e w3 ⟨rfl,hb3⟩;have HS3:=hid ((HS.o.later hb3).later (aC w3 (.cells #[.int .i64 nn,.string st] 28)));have hcF:=HS3.o.f.cell 1;have HS4:=hid (HS3.o.later (aC (w3.alloc (.cells #[.int .i64 nn,.string st] 28)) (.cells #[.int .i64 nn,.string st] 28)))))
      | (at_builtin;refine aN rfl _ _ 33 rfl (F+1) 28 i0 (.agg #[.int .i64 0,.string ⟨#[]⟩]) 2 24 underlying33 hi hz0 hz1 hz2 (by simp [Value.cells]) om_ _ k (vaV V) rfl HS4.o.row (some ⟨w3.heap.size+1,0,none⟩) 1 1 (vaC ⟨nn,st⟩) rfl rfl (by have:=JZ (w3.alloc (.cells #[.int .i64 nn,.string st] 28)) ⟨nn,st⟩;rw [World.size_alloc] at this;exact this) (Ec _) (by unfold maxLen;omega) om_ HS4.o.f.lt ?_;intro z w5 ho5 hg5;have hF5:=HS4.o.held hg5;have hc5:=hF5.cell 1;have hz5:=hF5.frozen 1;have HS6:=hid (HS4.o.push (p:=⟨nn,st⟩) hg5 (by rw [fH];simpa [vaV] using ho5));obtain ⟨qa,qc,rfl,_⟩:=aB ho5;clear ho5 hg5 hF5))
     exact ⟨⟨k+1,by omega,by go_num,hid ⟨_,_,_,_,_,_,rfl,HRN.o,HXN.o,HCN.o.1,HCN.o.2,HS6.o,HFN.o⟩⟩,by simp [intOf];omega⟩
    ·have hst:=Gj i V hp he;rw [hfin] at hst;obtain ⟨rfl,rfl,hTE⟩:TF=0/\TV=[]/\TE=(p.take ys).e:=⟨congrArg (·.1) hst,congrArg (·.2.1) hst,congrArg (·.2.2) hst⟩;have HE0:Hid ((TE != 0)=true):=hid (by rw [hTE];simpa using he);rw [<-hTE] at cT;have hS1:=hS.later (aC wr (.cells (zF p) 26));have HB:=hid (HBO.o.trans (hS1.low.mono HBO.o.size));have HR:=hid (HR1.o.later hS1.low);clear hp hS hfin he hr' hx' hst hS1 hTE;generalize strOf (p.take ys).s=st at *;generalize (p.take ys).n=nn at *;generalize (p.take ys).c=cc at *;have he0:=HE0.o;go_wp2_with (go_at_call 61;((with_reducible refine cT.mono ?_);rintro e w3 ⟨rfl,hb3⟩;have hR3:=(HR.o.later hb3).alloc (.cells #[.int .i64 nn,.string st] 28);have x0:=hR3.cell 0;have x1:=hR3.cell 1;have p0:=hR3.frozen 0;have p1:=hR3.frozen 1;have HR3:=hid hR3;have HB3:=hid ((HB.o.trans (hb3.mono HB.o.size)).trans ((aC w3 (.cells #[.int .i64 nn,.string st] 28)).mono (HB.o.trans (hb3.mono HB.o.size)).size));clear hR3))
     exact t58
   ·obtain rfl:k=L.length:=by omega
    have hR:=HR1.o.later hS.low;have x0:=hR.cell 0;have x1:=hR.cell 1;have p0:=hR.frozen 0;have p1:=hR.frozen 1;have y0:=hS.f.cell 0;have y1:=hS.f.cell 1;have hlen':=hr'.1;have HB3:=hid (HBO.o.trans (hS.low.mono HBO.o.size));by_cases h0:len'=0
    ·have hst:=IB i V (xs:=ys) (L:=L) om_;rw [hfin] at hst;obtain ⟨rfl,rfl,rfl⟩:TF=i/\TV=V/\TE=0:=⟨congrArg (·.1) hst,congrArg (·.2.1) hst,congrArg (·.2.2) hst⟩;have hd0:¬(0<len'):=by omega
     have hd1:decide ((len':Int)>0)=false:=decide_eq_false om_;have hd2:¬(0<(len':Int)):=by omega
     have HS3:=hid hS;have HR3:=hid hR;clear hS hR hfin hst hr' hx' h0;go_wp2;obtain ⟨d1,d2,d3⟩:=HS3.o.done HR3.o HSZ.o om_ HB3.o;exact bodyPost_ret (au (b:=w.heap.size+1) (o:=0) rfl rfl d1.whole underlying35 rfl (dD _ _)) rfl (by first | exact ⟨_,_,rfl,d2,d3⟩ | exact ⟨_,⟨_,rfl⟩,d2,d3⟩)
    ·have hst:=Ik i V (xs:=ys) (L:=L) om_;rw [hfin] at hst;obtain ⟨rfl,rfl,rfl⟩:TF=0/\TV=[]/\TE=6:=⟨congrArg (·.1) hst,congrArg (·.2.1) hst,congrArg (·.2.2) hst⟩;have hd0:0<len':=by omega
     have hd1:decide ((len':Int)>0)=true:=decide_eq_true om_;have hd2:0<(len':Int):=by omega
     have HR3:=hid hR;clear hS hR hfin hst hr' hx' h0;go_wp2
     exact t58
 ·rw [decide_eq_false hf] at cF;rw [if_pos hf];simp only;clear h hL hf hw hrd hxs;unfold WMR at HX cF;go_enter func29,ntmps29;go_wp2_with (go_at_call 60;((with_reducible refine cF.mono ?_);rintro e w1 ⟨rfl,hb1⟩;obtain ⟨z0,z1,hR1,hbo⟩:=HX.o _ hb1;have x0:=hR1.cell 0;have x1:=hR1.cell 1;have p0:=hR1.frozen 0;have p1:=hR1.frozen 1;have HR1:=hid hR1;have HBO:=hid hbo;clear hR1 hbo));have hB:=(HR1.o.setCell 0 (.int .i64 0)).setCell 1 (.slice none 0 0);exact bodyPost_ret (au (b:=w.heap.size+1) (o:=0) rfl rfl hB.whole underlying35 rfl (dD _ _)) rfl ⟨none,0,rfl,.inl rfl,below_setCells (below_setCells HBO.o om_ 0 [.int .i64 0]) om_ 1 [.slice none 0 0]⟩
end record
namespace record
open Go.RowKit
open field (Va)
open schema (dH)
theorem yS {w:World} {x y:Option Addr} {V:List Va} {G n c:Nat} {t:TypeId} {v:Value} (h:field.Vas w x V) (hG:Block w G t [v,.slice y n c]) (o:Nat) (u:Value):field.Vas (w.setCell ⟨G,o,none⟩ u) x V:=by
 rcases h with h | ⟨b,off,ha,hlt,hc⟩
 ·exact .inl h
 ·cases V with
  | nil=>exact .inl rfl
  | cons p V=>
   have hne:b≠G:=by
    rintro rfl;have h1:=(hc 0 p rfl).2;rw [hG.cell] at h1;rcases off with _ | off
    ·simp at h1
    ·have:=(List.getElem?_eq_some_iff.1 h1).1;simp only [List.length_cons,List.length_nil] at this;omega
   refine .inr ⟨b,off,ha,Nat.lt_of_lt_of_le hlt si_,fun i q hq=> ?_⟩;have hs:∀j,(w.setCell ⟨G,o,none⟩ u).cell? ⟨b,j,none⟩=w.cell? ⟨b,j,none⟩:=fun j=>World.cell?_setCell_other _ _ _ _ (by intro h;cases h;exact hne rfl)
   rw [hs,hs];exact hc i q hq
end record
namespace turn
open Go Go.RowKit schema typing
open record (dD qp yK zD)
open field (Va aC bytesOf bytesOf_length jG)
open step (Sp Lists va0 fd0)
set_option maxRecDepth 20000 in
set_option maxHeartbeats 16000000 in
theorem CY (v:Int) (a:Option Addr) (cc:Nat) (F:List Fm) (s:Sp) (ta:Option Addr) (tc:Nat) (la:Option Addr) (lc:Nat) (lost:ByteArray) (j:Int) (V:List Va) (w:World) (h:FmL w a F) (hF:Small w F) (hl:Lists w s ta la) (hL:s.l.length<=40) (hs:lost.size<=maxLen) (hr:oM v (forms F) s lost=(j,V,0)):
  Calls prog 11 #[zS v a F.length cc,zP s ta tc la lc,.string lost] w fun e w'=>∃x c,e=.returned (.tuple #[zS j x V.length c,.int .i64 0])/\field.Vas w' x V/\Below w.heap.size w w':=by
 have h0:(on v (forms F) s).2.2=0:=by
  by_cases h0:(on v (forms F) s).2.2=0
  ·exact h0
  ·unfold oM at hr;rw [if_pos h0] at hr;have:=congrArg (fun q:Int×List Va×Int=>q.2.2) hr;simp only at this;omega
 have h10:s.op=10:=by
  by_cases h10:s.op=10
  ·exact h10
  ·unfold oM at hr;rw [if_neg (by simpa using h0),if_pos h10] at hr;cases hr
 have ht:qp s.fm (fieldsOf (forms F) s.fm) (bytesOf lost)=(j,V,0):=by
  unfold oM at hr;rw [if_neg (by simpa using h0),if_neg (by simpa using h10)] at hr;split at hr
  ·cases hr
  ·exact hr
 obtain ⟨L,hn,_⟩:=sH h0 h10;obtain ⟨c,hc⟩:∃c,c=aJ (forms F) s:=⟨_,rfl⟩;have hcL:c.fi=s.fm/\c.L=L:=by rw [hc];unfold aJ;rw [hn];exact ⟨rfl,rfl⟩
 have hln:=jM hF s;rw [<-hc] at hln;rw [bZ hn,<-hcL.1,<-hcL.2] at ht;obtain ⟨W4,hW4,hbw,hsz,hBX⟩:=aU w [(24,zS v a F.length cc),(32,zP s ta tc la lc),(35,[.int .i64 0,.slice none 0 0])];simp only [boxes] at hW4;have cO:=typing.on_any v a cc F s ta tc la lc W4 (h.below hbw) (hF.below hbw) (hl.below hbw) hL;have cF:=fun W (hb:Below W4.heap.size W4 W)=>lV v a cc F s c hc W (h.below (hbw.trans (hb.mono hbw.size))) (hF.below (hbw.trans (hb.mono hbw.size)))
 have hcv:∀W:World,(convert 9 68 (.string lost)).run prog W=.ok (.slice (some ⟨W.heap.size,0,none⟩) lost.size (grownCap W lost.size 0 5)) (Lib.bytesWorld W 5 lost):=fun W=>Lib.run_convert_string_bytes W _ _ _ _ underlying9 underlying68 underlying5
 have cT:=fun (W:World) (fa:Option Addr) (fc:Nat) (hf:field.Fds W fa c.L)=>yK c.fi fa fc c.L (some ⟨W.heap.size,0,none⟩) lost.size (grownCap W lost.size 0 5) (bytesOf lost) (Lib.bytesWorld W 5 lost) (hf.below (Lib.bytesWorld_below _ _ _)) (by unfold maxLen;omega)
  ⟨by rw [bytesOf_length],.inr ⟨_,_,rfl,by rw [Lib.bytesWorld_size];omega,fun i hi=>by
   rw [Nat.zero_add,Lib.bytesWorld_cell _ _ _ _ hi];have hi':i<lost.data.toList.length:=by rw [Array.length_toList];exact hi
   simp [bytesOf,List.getD_eq_getElem?_getD,List.getElem?_eq_getElem hi']⟩⟩ (jG lost) (grownCap_ge _ _ _ _) (by have:=grownCap_le_maxLen W lost.size 0 5 hs;unfold maxLen at this;omega)
 rw [ht] at cT;unfold zD at cT;simp only at cT;rw [<-hW4.o] at cO;unfold oW at cO;obtain ⟨r,hrr⟩:∃q,on v (forms F) s=q:=⟨_,rfl⟩;rw [hrr] at cO h0;obtain ⟨r1,r2,n⟩:=r;simp only at cO h0;subst h0;have e10:(s.op != 10)=false:=by simp [h10]
 have HCV:=hid hcv;clear h hF hl hL hs hr h10 ht hn hcL hln hc hrr hbw hsz hcv;go_enter func11,ntmps11;go_wp2_with (first
  | (go_at_call 18;((with_reducible refine cO.mono ?_);rintro e w1 ⟨x1,c1,G,rfl,hG,hfo,hfar,hb1⟩;rw [hW4.o] at hb1;have hN1:=aC w1 (.cells (zS r1 x1 G.length c1) 24);have hb5:=hb1.trans (hN1.mono hb1.size);obtain ⟨⟨k0,k1,k2,_⟩,hbw5⟩:=hBX.o _ hb5;have HB5:=hid hb5;have x0:=k0.cell 0;have x1':=k0.cell 1;have s0:=k1.cell 0;have s1:=k1.cell 1;have cF5:=cF _ hb5;clear k0 k1 k2 hb5 hbw5 hN1 hG hfo hfar hb1))
  | (go_at_call 28;((with_reducible refine cF5.mono ?_);rintro e w2 ⟨fa,fc,rfl,ho2,hb2⟩;have hN2:=aC w2 (.cells (zS c.fi fa c.L.length fc) 57);have hb6:=HB5.o.trans ((hb2.trans (hN2.mono hb2.size)).mono HB5.o.size);have HB6:=hid hb6;have hcv6:=HCV.o (w2.alloc (.cells (zS c.fi fa c.L.length fc) 57));have f0:=(Block.new w2 57 (zS c.fi fa c.L.length fc)).cell 0;have f1:=(Block.new w2 57 (zS c.fi fa c.L.length fc)).cell 1;have cT6:=cT (w2.alloc (.cells (zS c.fi fa c.L.length fc) 57)) fa fc (gQ (aK ho2 hN2)).1;simp only [World.size_alloc] at hcv6 cT6;clear hb6 hN2 hb2 ho2))
  | (go_at_call 29;((with_reducible refine cT6.mono ?_);rintro e w7 ⟨x7,c7,rfl,hv7,hb7⟩;have hb67:Below (w2.alloc (.cells (zS c.fi fa c.L.length fc) 57)).heap.size (w2.alloc (.cells (zS c.fi fa c.L.length fc) 57)) w7:=(Lib.bytesWorld_below _ _ _).trans (hb7.mono (Lib.bytesWorld_below _ _ _).size);have hN7:=aC w7 (.cells (zS j x7 V.length c7) 35);have hb8:=HB6.o.trans ((hb67.trans (hN7.mono hb67.size)).mono HB6.o.size);obtain ⟨⟨k0,k1,k2,_⟩,hbw8⟩:=hBX.o _ hb8;have K2:=hid k2;have HBW:=hid hbw8;have HV7:=hid (hv7.below hN7);have e0:=k2.cell 0;have e1:=k2.cell 1;have g0:=k2.frozen 0;have g1:=k2.frozen 1;have q0:=(Block.new w7 35 (zS j x7 V.length c7)).cell 0;have q1:=(Block.new w7 35 (zS j x7 V.length c7)).cell 1;clear k0 k1 k2 hbw8 hb8 hN7 hb67 hb7 hv7)))
 have hB:=(K2.o.setCell 0 (.int .i64 j)).setCell 1 (.slice x7 V.length c7);refine bodyPost_ret (au (b:=w.heap.size+1+1) (o:=0) rfl rfl hB.whole underlying35 rfl (dD _ _)) rfl ?_;exact ⟨x7,c7,rfl,record.yS (record.yS HV7.o K2.o 0 (.int .i64 j)) (K2.o.setCell 0 (.int .i64 j)) 1 (.slice x7 V.length c7),below_setCells (below_setCells HBW.o om_ 0 [.int .i64 j]) om_ 1 [.slice x7 V.length c7]⟩
end turn
end Go.Proofs.YtdnegbkhndekpaaGreat
