/- Contracts and lemmas that claims of this seat share: RecordTake, WholeRead, TurnEnd. Each says its own conditions. -/
import Derived.Test.YtogkgbnpodojjaaGreatCmWord
import Derived.Lib.AtoiErrMem
import Derived.Test.YtogkgbnpodojjaaGreatCmQ
import Derived.Test.YtogkgbnpodojjaaGreatCmAI
import Derived.Test.YtogkgbnpodojjaaGreatCmAJ
import Derived.Test.YtogkgbnpodojjaaGreatCmAF
import Derived.Test.YtogkgbnpodojjaaGreatCmAG
import Derived.Test.YtogkgbnpodojjaaGreatCmAK
import Derived.Test.YtogkgbnpodojjaaGreatCmAH
set_option linter.unusedVariables false
namespace Go.Proofs.YtogkgbnpodojjaaGreat
open Go.Proofs.Tryz
theorem t43{P:Prop}(h:P:=by
 have hB:=(HR3.o.setCell 0 (.int .i64 0)).setCell 1 (.slice none 0 0);exact bodyPost_ret (ay (b:=w.heap.size+1) (o:=0) rfl rfl hB.whole underlying66 rfl (bg _ _)) rfl ⟨none,0,rfl,World.ownsRow_nil _ _ _ _,below_setCells (below_setCells HB3.o om_ 0 [.int .i64 0]) om_ 1 [.slice none 0 0]⟩):P:=h
namespace record
open Go.RowKit cut
open field (Va Gives ak aj take_any iD)
open schema (aP eP Fine gQ aO)
theorem ay {fn:Func} {p u:Tmp} {ty:TypeId} {tmps:Array Value} {P:Program} {w:World} {b o:Nat} {cs:List Value} {d:TypeDesc} (h:fn.results=#[.cell p ty,.tmp u])
  (hp:tmps.getD p undef=.pointer (some ⟨b,o,none⟩)) (hc:w.rangeAt b o cs) (hu:P.underlying ty=some d) (hd:d.isRow=true) (hi:(P.info? ty).map (·.size)=some cs.length):
  (results fn tmps).run P w=.ok (.tuple #[.agg cs.toArray,tmps.getD u undef]) w:=by
 exact t48
theorem KA (w:World) (p:Va):(1:Nat)=0\/∃ad,(some ⟨w.heap.size,0,none⟩:Option Addr)=some ad/\∀j u,(vaC p)[j]?=some u->(w.alloc (.cells (zV p) 54)).cell? (ad.add j)=some u:=
 .inr ⟨_,rfl,fun j u hj=>by rw [Addr.add_lit,Nat.zero_add];exact ((Block.new w 54 (vaC p)).cell j).trans hj⟩
def oM (T:Int×List Va×Int) (w:World) (e:Ending) (w':World):Prop:=∃x c,e=.returned (.tuple #[zS T.1 x T.2.1.length c,.int .i64 T.2.2])/\w'.ownsRow w.heap.size 54 2 (.slice x T.2.1.length c) T.2.1.length (vaV T.2.1)/\Below w.heap.size w w'
def TS (i:Int) (L:List field.Fd) (w1:World) (F:Nat) (T:Int×List Va×Int) (k:Nat) (v:Value) (wr:World):Prop:=
 ∃a len cap ys V u,v=.slice a len cap/\Reads .u8 w1 a len ys/\(∀x∈ys,x<256)/\len<=cap/\cap<=9223372036854775807/\RS i w1 F V k u wr/\fin i (onto V (eF (L.drop k) ys))=T
set_option maxRecDepth 20000 in
set_option maxHeartbeats 1600000 in
theorem oh (i:Int) (a:Option Addr) (c:Nat) (L:List field.Fd) (ab:Option Addr) (lenb capb:Nat) (xs:List Nat) (w:World) (h:field.Fds w a L) (hL:L.length<=maxLen)
  (hrd:Reads .u8 w ab lenb xs) (hxs:∀x∈xs,x<256) (hcb:lenb<=capb) (hmb:capb<=9223372036854775807):
  Calls prog 54 #[zS i a L.length c,.slice ab lenb capb] w (oM (dN i L xs) w):=by
 have HX:=hid (WMR.all i a L c w);have hw:=(WMR.all i a L c w _ (Below.refl _ _)).2.2.2;have cF:=gQ i a c L (WMR i a L c w) (h.below hw) hL;have HF:=hid (h.below hw);have HRD:=hid (hrd.below hw);unfold oM dN;unfold Gives at cF;by_cases hf:Fine (i,L)
 ·rw [decide_eq_true hf] at cF;rw [if_neg (fun k=>k hf)];have hL8:=pU hf;obtain ⟨⟨TF,TV,TE⟩,hT⟩:∃T,Hid (fin i (eF L xs)=T):=⟨_,hid rfl⟩;rw [hT.o];simp only;have HXS:=hid hxs;clear h hL hf hw hrd hxs;unfold WMR at HX cF HF HRD;go_enter func54,ntmps54;go_wp2_with (go_at_call 90;((with_reducible refine cF.mono ?_);rintro e w1 ⟨rfl,hb1⟩;obtain ⟨z0,z1,hR1,hbo⟩:=HX.o _ hb1;have hsz0:w.heap.size<w1.heap.size:=(by have:=hR1.lt;omega)));have HR1:=hid hR1;have HBO:=hid hbo;have HF1:=hid (HF.o.below hb1);have HRD1:=hid (HRD.o.below hb1);have HS2:=hid (RS.start w1 i);have HSZ:Hid (w.heap.size+1<w1.heap.size):=hid hR1.lt;obtain ⟨F,hF⟩:∃F,Hid (w1.heap.size=F):=⟨_,hid rfl⟩;rw [hF.o] at HS2 HSZ ⊢;clear hb1 hR1 hbo cF z0 z1 hsz0 HF HRD;go_loopw [1,22] (fun v m wr=>∃k:Nat,k<=L.length/\m=.int .i64 (k:Int)/\Hid (TS i L w1 F (TF,TV,TE) k v wr)) (fun _ m _=>L.length - (intOf m).toNat);case atStart=>exact ⟨0,Nat.zero_le _,rfl,hid ⟨_,_,_,xs,[],_,rfl,HRD1.o,HXS.o,hcb,hmb,HS2.o,by rw [List.drop_zero,GX];exact hT.o⟩⟩
  case round=>
   obtain ⟨k,hk,rfl,HTS⟩:=hrel;obtain ⟨a',len',cap',ys,V,u,rfl,hr',hx',hc',hm',hS,hfin⟩:=HTS.o;obtain ⟨ua,uc,rfl,_⟩:=aA hS.row;clear HTS hT HRD1 hcb hmb HS2;by_cases hlt:k<L.length
   ·obtain ⟨g,off,p,rfl,hbl,hp,c0,c1,c2,c3,c4⟩:=eP HF1.o hS.low hlt;have i1:(k:Int)<L.length:=by omega
    have cT:=take_any p a' len' cap' ys ((wr.alloc (.cells (zF p) 52))) (hr'.below (hS.low.trans ((ak wr _).mono hS.low.size))) hx' hc' hm';unfold iD at cT;have hlen':=hr'.1;by_cases he:(p.take ys).e=0
    ·have hcl:(p.take ys).c<=len':=by have:=(field.Fd.jS hx' he).2.1;omega
     have HRN:=hid (su hr' hcl hc');have HXN:Hid (∀x∈ys.drop (p.take ys).c,x<256):=hid (fun x hm=>hx' x (List.mem_of_mem_drop hm));have HFN:=hid ((EK V hp he).symm ▸ hfin);have HCN:Hid (len' - (p.take ys).c<=cap' - (p.take ys).c/\cap' - (p.take ys).c<=9223372036854775807):=hid om_;have hcut:=fun W=>zn W a' len' cap' (p.take ys).c hcl
     rw [he] at cT;have HS:=hid (hS.later (ak wr (.cells (zF p) 52)));clear hp hS hfin he hr' hx';generalize strOf (p.take ys).s=st at *;generalize (p.take ys).n=nn at *;generalize (p.take ys).c=cc at *;generalize shift a' cc cap'=a2 at *;obtain ⟨i0,hi,hz0,hz1,hz2⟩:=jk;go_wp2_with (first
      | (go_at_call 98;((with_reducible refine cT.mono ?_);rintro e w3 ⟨rfl,hb3⟩;have HS3:=hid ((HS.o.later hb3).later (ak w3 (.cells #[.int .i64 nn,.string st] 54)));have hcF:=HS3.o.f.cell 1;have HS4:=hid (HS3.o.later (ak (w3.alloc (.cells #[.int .i64 nn,.string st] 54)) (.cells #[.int .i64 nn,.string st] 54)))))
      | (at_builtin;refine aO rfl _ _ 64 rfl (F+1) 54 i0 (.agg #[.int .i64 0,.string ⟨#[]⟩]) 2 24 underlying64 hi hz0 hz1 hz2 (by simp [Value.cells]) om_ _ k (vaV V) rfl HS4.o.row (some ⟨w3.heap.size+1,0,none⟩) 1 1 (vaC ⟨nn,st⟩) rfl rfl (by have:=KA (w3.alloc (.cells #[.int .i64 nn,.string st] 54)) ⟨nn,st⟩;rw [World.size_alloc] at this;exact this) (DR _) (by unfold maxLen;omega) om_ HS4.o.f.lt ?_;intro z w5 ho5 hg5;have hF5:=HS4.o.held hg5;have hc5:=hF5.cell 1;have hz5:=hF5.frozen 1;have HS6:=hid (HS4.o.push (p:=⟨nn,st⟩) hg5 (by rw [gX];simpa [vaV] using ho5));obtain ⟨qa,qc,rfl,_⟩:=aA ho5;clear ho5 hg5 hF5))
     exact ⟨⟨k+1,by omega,by go_num,hid ⟨_,_,_,_,_,_,rfl,HRN.o,HXN.o,HCN.o.1,HCN.o.2,HS6.o,HFN.o⟩⟩,by simp [intOf];omega⟩
    ·have hst:=G7 i V hp he;rw [hfin] at hst;obtain ⟨rfl,rfl,hTE⟩:TF=0/\TV=[]/\TE=(p.take ys).e:=⟨congrArg (·.1) hst,congrArg (·.2.1) hst,congrArg (·.2.2) hst⟩;have HE0:Hid ((TE != 0)=true):=hid (by rw [hTE];simpa using he);rw [<-hTE] at cT;have hS1:=hS.later (ak wr (.cells (zF p) 52));have HB:=hid (HBO.o.trans (hS1.low.mono HBO.o.size));have HR:=hid (HR1.o.later hS1.low);clear hp hS hfin he hr' hx' hst hS1 hTE;generalize strOf (p.take ys).s=st at *;generalize (p.take ys).n=nn at *;generalize (p.take ys).c=cc at *;have he0:=HE0.o;go_wp2_with (go_at_call 98;((with_reducible refine cT.mono ?_);rintro e w3 ⟨rfl,hb3⟩;have hR3:=(HR.o.later hb3).alloc (.cells #[.int .i64 nn,.string st] 54);have x0:=hR3.cell 0;have x1:=hR3.cell 1;have p0:=hR3.frozen 0;have p1:=hR3.frozen 1;have HR3:=hid hR3;have HB3:=hid ((HB.o.trans (hb3.mono HB.o.size)).trans ((ak w3 (.cells #[.int .i64 nn,.string st] 54)).mono (HB.o.trans (hb3.mono HB.o.size)).size));clear hR3))
     exact t43
   ·obtain rfl:k=L.length:=by omega
    have hR:=HR1.o.later hS.low;have x0:=hR.cell 0;have x1:=hR.cell 1;have p0:=hR.frozen 0;have p1:=hR.frozen 1;have y0:=hS.f.cell 0;have y1:=hS.f.cell 1;have hlen':=hr'.1;have HB3:=hid (HBO.o.trans (hS.low.mono HBO.o.size));by_cases h0:len'=0
    ·have hst:=IE i V (xs:=ys) (L:=L) om_;rw [hfin] at hst;obtain ⟨rfl,rfl,rfl⟩:TF=i/\TV=V/\TE=0:=⟨congrArg (·.1) hst,congrArg (·.2.1) hst,congrArg (·.2.2) hst⟩;have hd0:¬(0<len'):=by omega
     have hd1:decide ((len':Int)>0)=false:=decide_eq_false om_;have hd2:¬(0<(len':Int)):=by omega
     have HS3:=hid hS;have HR3:=hid hR;clear hS hR hfin hst hr' hx' h0;go_wp2;obtain ⟨d1,d2,d3⟩:=HS3.o.Jm HR3.o HSZ.o om_ HB3.o;exact bodyPost_ret (ay (b:=w.heap.size+1) (o:=0) rfl rfl d1.whole underlying66 rfl (bg _ _)) rfl (by first | exact ⟨_,_,rfl,d2,d3⟩ | exact ⟨_,⟨_,rfl⟩,d2,d3⟩)
    ·have hst:=G6 i V (xs:=ys) (L:=L) om_;rw [hfin] at hst;obtain ⟨rfl,rfl,rfl⟩:TF=0/\TV=[]/\TE=6:=⟨congrArg (·.1) hst,congrArg (·.2.1) hst,congrArg (·.2.2) hst⟩;have hd0:0<len':=by omega
     have hd1:decide ((len':Int)>0)=true:=decide_eq_true om_;have hd2:0<(len':Int):=by omega
     have HR3:=hid hR;clear hS hR hfin hst hr' hx' h0;go_wp2
     exact t43
 ·rw [decide_eq_false hf] at cF;rw [if_pos hf];simp only;clear h hL hf hw hrd hxs;unfold WMR at HX cF;go_enter func54,ntmps54;go_wp2_with (go_at_call 90;((with_reducible refine cF.mono ?_);rintro e w1 ⟨rfl,hb1⟩;obtain ⟨z0,z1,hR1,hbo⟩:=HX.o _ hb1;have x0:=hR1.cell 0;have x1:=hR1.cell 1;have p0:=hR1.frozen 0;have p1:=hR1.frozen 1;have HR1:=hid hR1;have HBO:=hid hbo;clear hR1 hbo));have hB:=(HR1.o.setCell 0 (.int .i64 0)).setCell 1 (.slice none 0 0);exact bodyPost_ret (ay (b:=w.heap.size+1) (o:=0) rfl rfl hB.whole underlying66 rfl (bg _ _)) rfl ⟨none,0,rfl,World.ownsRow_nil _ _ _ _,below_setCells (below_setCells HBO.o om_ 0 [.int .i64 0]) om_ 1 [.slice none 0 0]⟩
end record
namespace whole
open Go Go.RowKit schema typing turn
open field (Va ak bytesOf bytesOf_length dO)
open record (dN oh oM)
open item (It Its bK)
def qJ (v:Int) (F:List schema.Form) (I:List It) (w:World) (e:Ending) (w':World):Prop:=
 ∃(X:List En) (u:Value),e=.returned (.tuple #[u,.bool (decide (Fits v F I))])/\Ens w X u w'/\(Fits v F I->X.map En.p=(bK I).map (ent F))/\(¬Fits v F I->X=[])
theorem Hz (i:Int) (L:List field.Fd) (s:ByteArray) (hL:L.length<=40) (hs:s.size<=maxLen) (W:World) (fa:Option Addr) (fc:Nat) (hf:field.Fds W fa L):
  Calls prog 54 #[zS i fa L.length fc,.slice (some ⟨W.heap.size,0,none⟩) s.size (grownCap W s.size 0 5)] (Lib.bytesWorld W 5 s) (oM (dN i L (bytesOf s)) (Lib.bytesWorld W 5 s)):=
 oh i fa fc L (some ⟨W.heap.size,0,none⟩) s.size (grownCap W s.size 0 5) (bytesOf s) (Lib.bytesWorld W 5 s) (hf.below (Lib.bytesWorld_below _ _ _)) (by unfold maxLen;omega)
  ⟨by rw [bytesOf_length],.inr ⟨_,_,rfl,by rw [Lib.bytesWorld_size];omega,fun i hi=>by
   rw [Nat.zero_add,Lib.bytesWorld_cell _ _ _ _ hi];have hi':i<s.data.toList.length:=by rw [Array.length_toList];exact hi
   simp [bytesOf,List.getD_eq_getElem?_getD,List.getElem?_eq_getElem hi']⟩⟩ (dO s) (grownCap_ge _ _ _ _) (by have:=grownCap_le_maxLen W s.size 0 5 hs;unfold maxLen at this;omega)
theorem FP (s:ByteArray) (W:World):(convert 9 91 (.string s)).run prog W=.ok (.slice (some ⟨W.heap.size,0,none⟩) s.size (grownCap W s.size 0 5)) (Lib.bytesWorld W 5 s):=Lib.run_convert_string_bytes W _ _ _ _ underlying9 underlying91 underlying5
set_option maxRecDepth 20000 in
set_option maxHeartbeats 3200000 in
theorem AB (v:Int) (a:Option Addr) (cc:Nat) (F:List Fm) (ia:Option Addr) (ic:Nat) (I:List It) (w:World) (h:FmL w a F) (hF:Small w F) (hI:Its w ia I) (hn:I.length<=1000000) (hk:∀p∈I,p.key<4294967296):
  Calls prog 21 #[zS v a F.length cc,.slice ia I.length ic] w (qJ v (forms F) I w):=by
 obtain ⟨W0,hW0,bW0,hs0,hB0⟩:=aS w [(24,zS v a F.length cc)];simp only [boxes] at hW0;have cR:=schema.aX v a cc F W0 (h.below bW0) (by have:=hF.1;unfold maxLen;omega);have cI:=fun (W:World) (hb:Below W0.heap.size W0 W)=>item.aX ia ic I W ((hI.below bW0).below hb) (by unfold maxLen;omega)
 have cM:=fun (W:World) (hb:Below W0.heap.size W0 W)=>item.ED ia ic I W ((hI.below bW0).below hb) om_
 unfold field.Gives at cR;unfold item.Gives at cI;unfold item.Lists at cM;have HBW:=hid bW0;have S0:W0.heap.size=w.heap.size+1:=by simpa using hs0.o
 have HS0:=hid S0;rw [<-hW0.o] at cR;by_cases hR:Right v (forms F)
 ·rw [decide_eq_true hR] at cR;by_cases hIR:item.Right I
  ·rw [decide_eq_true hIR] at cI;have hsz:∀p∈I,p.data.size<=64:=((item.iO I).1 hIR).1
   have HSM:=hid (show ∀W,Below w.heap.size w W->FmL W a F/\Small W F from fun W hb=>⟨h.below hb,hF.below hb⟩);have HKEY:=hid (show ∀p∈bK I,p.key<4294967296/\p.data.size<=64 from fun p hp=>⟨hk p (List.mem_filter.1 hp).1,hsz p (List.mem_filter.1 hp).1⟩);have HYES:Hid ((∀p∈bK I,(xQ (forms F) p).2.2=0)->decide (Fits v (forms F) I)=true):=hid fun q=>decide_eq_true ⟨hR,hIR,q⟩
   have HNO:Hid ((∃p∈bK I,(xQ (forms F) p).2.2≠0)->decide (Fits v (forms F) I)=false):=hid fun ⟨p,hp,q⟩=>decide_eq_false fun hf=>q (hf.2.2 p hp)
   have HML:Hid ((bK I).length<=1000000):=hid (Nat.le_trans (List.length_filter_le ..) hn);unfold qJ;generalize hbq:decide (Fits v (forms F) I)=bq at *;have HBQ:=hid hbq;clear hbq;clear h hF hI hn hk hR hIR hsz bW0 S0;generalize bK I=M at *;go_enter func21,ntmps21;have hml:(M.length:Int)<=1000000:=by have:=HML.o;omega
   go_wp2_with (first
    | (go_at_call 48;((with_reducible refine cR.mono ?_);rintro e w1 ⟨rfl,hb1⟩;rw [hW0.o] at hb1))
    | (go_at_call 50;((with_reducible refine (cI _ hb1).mono ?_);rintro e w2 ⟨rfl,hb2⟩;have hb12:=hb1.trans (hb2.mono hb1.size)))
    | (go_at_call 51;((with_reducible refine (cM _ hb12).mono ?_);rintro e w3 ⟨ma,mc,rfl,ho3,hb3⟩;have hb13:=hb12.trans (hb3.mono hb12.size);have hIM:=(item.nY ho3).1;have HB3:=hid hb13;have HIM:=hid hIM;clear hb1 hb2 hb12 hb3 hb13 ho3 hIM cR cI cM)))
   go_loopw [6,27] (fun u n wr=>∃(k:Nat) (X:List En),k<=M.length/\n=.int .i64 (k:Int)/\Hid (Ens w3 X u wr)/\Hid (X.map En.p=(M.take k).map (ent (forms F)))/\Hid (∀p∈M.take k,(xQ (forms F) p).2.2=0)) (fun _ n _=>M.length - (intOf n).toNat);case atStart=>exact ⟨0,[],Nat.zero_le _,rfl,hid (Gath.nil w3),hid rfl,hid (fun p hp=>by simp at hp)⟩
   case round=>
    obtain ⟨k,X,hk,rfl,HX,HXP,HOK⟩:=hrel;obtain ⟨ua,uc,rfl,_⟩:=HX.o.form jD om_;have hbw:=HX.o.low;obtain ⟨⟨k0,_⟩,hb0⟩:=hB0.o _ (HB3.o.trans (hbw.mono HB3.o.size));have HB0:=hid hb0;have HBR:=hid hbw;by_cases hlt:k<M.length
    ·obtain ⟨b,off,p,rfl,hbl,hp,c0,c1⟩:=item.qj HIM.o hbw hlt;have i1:(k:Int)<M.length:=by omega
     obtain ⟨hpk,hps⟩:=HKEY.o p (List.mem_of_getElem? hp);obtain ⟨T,hT⟩:∃T,xQ (forms F) p=T:=⟨_,rfl⟩;obtain ⟨W5,hW5,bW5,hs5,hB5⟩:=aS wr [(43,[.int .u32 (p.key:Nat),.string p.data])];simp only [boxes] at hW5;obtain ⟨fk,hfk⟩:∃fk:Int,fk=aK p.key:=⟨_,rfl⟩;have cT:=item.qE p.key W5 hpk;unfold item.uf at cT;rw [show ((p.key % 16777216 / 65536:Nat):Int)=fk from hfk.symm] at cT;generalize ((p.key % 65536:Nat):Int)=ik at cT;generalize (((p.key / 16777216:Nat):Int) - 1)=nk at cT;have hpd:p.data.size<=maxLen:=by unfold maxLen;omega
     have HCV:=hid (fun W=>FP p.data W);have hSW:=HSM.o;have cF:=fun (W:World) (hb:Below w.heap.size w W)=>zQ v a cc F fk W (hSW W hb).1 (hSW W hb).2
     have hfl:=BI (hSW _ (Below.refl _ _)).2 fk;have cK:=fun W fa fc hf=>Hz (fI (forms F) fk) (fieldsOf (forms F) fk) p.data hfl hpd W fa fc hf
     have hTF:dN fk (fieldsOf (forms F) fk) (bytesOf p.data)=T:=by rw [hfk];exact hT
     have hTE:dN (fI (forms F) fk) (fieldsOf (forms F) fk) (bytesOf p.data)=T:=by rw [Jb];exact hTF
     rw [hTE] at cK;have hTO:T.2.2=0->T=(fk,T.2.1,0):=fun q=>by
      have:=yS (F:=forms F) (x:=fk) (xs:=bytesOf p.data) (by rw [hTF];exact q);rwa [hTF] at this
     have HEN:Hid (ent (forms F) p=(p.key,T.2.1)):=hid (by unfold ent;rw [hT]);have hB5w:Below w3.heap.size w3 W5:=hbw.trans (bW5.mono hbw.size);have hX5:=HX.o.later bW5;have HX5:=hid hX5;have HP:=hid hp;have HT:=hid hT;have HB35:=hid hB5w;unfold oM at cK;obtain ⟨T1,T2,T3⟩:=T;simp only at hTO cK;generalize fieldsOf (forms F) fk=LF at *;generalize fI (forms F) fk=iF at *;have x0:=k0.cell 0;have x1:=k0.cell 1;have HFK:=hid hfk;clear hp hT hTE hTF hSW hpd hps hX5 hB5w hbw hb0 hfl hfk;rw [<-hW5.o] at cT;by_cases hE:T3=0
     ·subst hE;have HT1:Hid (T1=aK p.key):=hid ((congrArg (·.1) (hTO rfl)).trans HFK.o);clear hTO;go_wp2_with (first
       | (go_at_call 52;((with_reducible refine cT.mono ?_);rintro e w6 ⟨rfl,hb6⟩;rw [hW5.o] at hb6;have hb36:=HB35.o.trans (hb6.mono HB35.o.size);obtain ⟨⟨k0,_⟩,hb06⟩:=hB0.o _ (HB3.o.trans (hb36.mono HB3.o.size));have x0:=k0.cell 0;have x1:=k0.cell 1;have cF6:=cF _ hb06;have HB56:=hid hb6;clear k0 hb06 hb36 hb6))
       | (go_at_call 53;((with_reducible refine cF6.mono ?_);rintro e w7 ⟨fa,fc,kn,rfl,ho7,hb7⟩;have hN7:=ak w7 (.cells (zS iF fa LF.length fc) 49);have hb57:=HB56.o.trans ((hb7.trans (hN7.mono hb7.size)).mono HB56.o.size);obtain ⟨⟨k5,_⟩,_⟩:=hB5.o _ hb57;have y0:=k5.cell 0;have y1:=k5.cell 1;have f0:=(Block.new w7 49 (zS iF fa LF.length fc)).cell 0;have f1:=(Block.new w7 49 (zS iF fa LF.length fc)).cell 1;have hcv:=HCV.o (w7.alloc (.cells (zS iF fa LF.length fc) 49));have cK8:=cK (w7.alloc (.cells (zS iF fa LF.length fc) 49)) fa fc (eu (ai ho7 hN7)).1;simp only [World.size_alloc] at hcv cK8;have HB57:=hid hb57;clear k5 hb57 hN7 hb7 ho7))
       | (go_at_call 54;((with_reducible refine cK8.mono ?_);rintro e w9 ⟨x9,c9,rfl,ho9,hb9⟩;have hb89:Below (w7.alloc (.cells (zS iF fa LF.length fc) 49)).heap.size (w7.alloc (.cells (zS iF fa LF.length fc) 49)) w9:=(Lib.bytesWorld_below _ _ _).trans (hb9.mono (Lib.bytesWorld_below _ _ _).size);have hb59:=HB57.o.trans (hb89.mono HB57.o.size);have HB59:=hid hb59;have HO9:Hid (Own W5.heap.size w9 (.slice x9 T2.length c9) T2):=hid (aW ho9 (Nat.le_trans HB57.o.size (Lib.bytesWorld_below _ _ _).size));obtain ⟨⟨k5,_⟩,_⟩:=hB5.o _ (hb59.trans ((ak w9 (.cells (zS T1 x9 T2.length c9) 66)).mono hb59.size));have y0:=k5.cell 0;have q0:=(Block.new w9 66 (zS T1 x9 T2.length c9)).cell 0;have q1:=(Block.new w9 66 (zS T1 x9 T2.length c9)).cell 1;have hN9:=ak w9 (.cells (zS T1 x9 T2.length c9) 66);have hN10:=ak (w9.alloc (.cells (zS T1 x9 T2.length c9) 66)) (.cells #[.int .u32 (p.key:Nat),.int .i64 T1,.slice x9 T2.length c9] 68);have hN:=hN9.trans (hN10.mono hN9.size);have HX10:=hid ((HX5.o.later hb59).later hN);have hOX:=fun g hg=>(World.ownsRow.lt HX5.o.own g hg).2;have HM10:Hid (Lie 3 enC ((w9.alloc (.cells (zS T1 x9 T2.length c9) 66)).alloc (.cells #[.int .u32 (p.key:Nat),.int .i64 T1,.slice x9 T2.length c9] 68)) (some ⟨w9.heap.size+1,0,none⟩) [⟨p.key,x9,c9,T2⟩]):=hid (by have hz:=Block.new (w9.alloc (.cells (zS T1 x9 T2.length c9) 66)) 68 [.int .u32 (p.key:Nat),.int .i64 T1,.slice x9 T2.length c9];rw [HT1.o] at hz ⊢;simpa using kP (C:=enC) (p:=⟨p.key,x9,c9,T2⟩) hz);have HR10:Hid (∀z∈[(⟨p.key,x9,c9,T2⟩:En)],Kept (fun W=>EnR W z) (.slice ua X.length uc) ((w9.alloc (.cells (zS T1 x9 T2.length c9) 66)).alloc (.cells #[.int .u32 (p.key:Nat),.int .i64 T1,.slice x9 T2.length c9] 68))):=hid (fun z hz=>by rw [List.mem_singleton.1 hz];exact (H9 HO9.o hOX).later hN);have HN10:Hid (X.length+[(⟨p.key,x9,c9,T2⟩:En)].length<=1000000):=hid (by have h1:=congrArg List.length HXP.o;simp only [List.length_map,List.length_take] at h1;have:=HML.o;simp only [List.length_singleton];omega);clear k5 hN9 hN10 hN hOX;clear hb59 hb89 hb9 ho9))
       | (at_builtin;refine fZ rfl _ _ rfl [⟨p.key,x9,c9,T2⟩] rfl _ _ rfl HX10 HM10 HR10 HN10 ?_;intro v' w' hG _;skip))
      refine ⟨⟨k+1,X++[⟨p.key,x9,c9,T2⟩],by omega,by go_num,hG,hid ?_,hid (fun z hz=> ?_)⟩,by simp [intOf];omega⟩
      ·rw [item.aH HP.o,List.map_append,List.map_append,HXP.o,List.map_singleton,List.map_singleton,HEN.o];rfl
      ·rw [item.aH HP.o] at hz;rcases List.mem_append.1 hz with hz | hz
       ·exact HOK.o z hz
       ·rw [List.mem_singleton.1 hz,HT.o]
     ·have hE':(T3 != 0)=true:=by simpa using hE
      have HBQF:=hid (HNO.o ⟨p,List.mem_of_getElem? HP.o,by rw [HT.o];exact hE⟩);clear hTO;go_wp2_with (first
       | (go_at_call 52;((with_reducible refine cT.mono ?_);rintro e w6 ⟨rfl,hb6⟩;rw [hW5.o] at hb6;have hb36:=HB35.o.trans (hb6.mono HB35.o.size);obtain ⟨⟨k0,_⟩,hb06⟩:=hB0.o _ (HB3.o.trans (hb36.mono HB3.o.size));have x0:=k0.cell 0;have x1:=k0.cell 1;have cF6:=cF _ hb06;have HB56:=hid hb6;clear k0 hb06 hb36 hb6))
       | (go_at_call 53;((with_reducible refine cF6.mono ?_);rintro e w7 ⟨fa,fc,kn,rfl,ho7,hb7⟩;have hN7:=ak w7 (.cells (zS iF fa LF.length fc) 49);have hb57:=HB56.o.trans ((hb7.trans (hN7.mono hb7.size)).mono HB56.o.size);obtain ⟨⟨k5,_⟩,_⟩:=hB5.o _ hb57;have y0:=k5.cell 0;have y1:=k5.cell 1;have f0:=(Block.new w7 49 (zS iF fa LF.length fc)).cell 0;have f1:=(Block.new w7 49 (zS iF fa LF.length fc)).cell 1;have hcv:=HCV.o (w7.alloc (.cells (zS iF fa LF.length fc) 49));have cK8:=cK (w7.alloc (.cells (zS iF fa LF.length fc) 49)) fa fc (eu (ai ho7 hN7)).1;simp only [World.size_alloc] at hcv cK8;have HB57:=hid hb57;clear k5 hb57 hN7 hb7 ho7))
       | (go_at_call 54;((with_reducible refine cK8.mono ?_);rintro e w9 ⟨x9,c9,rfl,ho9,hb9⟩;have hb89:Below (w7.alloc (.cells (zS iF fa LF.length fc) 49)).heap.size (w7.alloc (.cells (zS iF fa LF.length fc) 49)) w9:=(Lib.bytesWorld_below _ _ _).trans (hb9.mono (Lib.bytesWorld_below _ _ _).size);have hb59:=HB57.o.trans (hb89.mono HB57.o.size);have HB59:=hid hb59;have HO9:Hid (Own W5.heap.size w9 (.slice x9 T2.length c9) T2):=hid (aW ho9 (Nat.le_trans HB57.o.size (Lib.bytesWorld_below _ _ _).size));skip;clear hb59 hb89 hb9 ho9)))
      go_ret2;obtain rfl:bq=false:=HBQF.o;refine ⟨[],.slice none 0 0,rfl,⟨World.ownsRow_nil _ _ _ _, ?_,fun z hz=>by cases hz⟩,fun q=>absurd (decide_eq_true q) (by rw [HBQ.o];simp),fun _=>rfl⟩;exact (hB0.o _ (HB3.o.trans (((HB35.o.trans (HB59.o.mono HB35.o.size)).trans ((ak _ _).mono (HB35.o.trans (HB59.o.mono HB35.o.size)).size)).mono HB3.o.size))).2
    ·obtain rfl:k=M.length:=by omega
     have HBT:=hid (HYES.o (by have:=HOK.o;rwa [List.take_of_length_le (Nat.le_refl _)] at this));go_wp2;go_ret2;obtain rfl:bq=true:=HBT.o;refine ⟨X,_,rfl,HX.o.of (HBW.o.trans (HB3.o.mono HBW.o.size)),fun _=> ?_,fun q=>absurd (of_decide_eq_true HBQ.o) q⟩;have:=HXP.o;rwa [List.take_of_length_le (Nat.le_refl _)] at this
  ·rw [decide_eq_false hIR] at cI;have hbq:decide (Fits v (forms F) I)=false:=decide_eq_false fun q=>hIR q.2.1
   have HNF:Hid (¬Fits v (forms F) I):=hid fun q=>hIR q.2.1
   unfold qJ;rw [hbq];clear h hF hI hn hk hR hIR bW0 S0 cM hbq;go_enter func21,ntmps21;go_wp2_with (first
    | (go_at_call 48;((with_reducible refine cR.mono ?_);rintro e w1 ⟨rfl,hb1⟩;rw [hW0.o] at hb1))
    | (go_at_call 50;((with_reducible refine (cI _ hb1).mono ?_);rintro e w2 ⟨rfl,hb2⟩;have hb12:=hb1.trans (hb2.mono hb1.size))))
   go_ret2;exact ⟨[],.slice none 0 0,rfl,⟨World.ownsRow_nil _ _ _ _,(hB0.o _ hb12).2,fun z hz=>by cases hz⟩,fun q=>absurd q HNF.o,fun _=>rfl⟩
 ·rw [decide_eq_false hR] at cR;have hbq:decide (Fits v (forms F) I)=false:=decide_eq_false fun q=>hR q.1
  have HNF:Hid (¬Fits v (forms F) I):=hid fun q=>hR q.1
  unfold qJ;rw [hbq];clear h hF hI hn hk hR bW0 S0 cM cI hbq;go_enter func21,ntmps21;go_wp2_with (first
   | (go_at_call 48;((with_reducible refine cR.mono ?_);rintro e w1 ⟨rfl,hb1⟩;rw [hW0.o] at hb1)))
  go_ret2;exact ⟨[],.slice none 0 0,rfl,⟨World.ownsRow_nil _ _ _ _,(hB0.o _ hb1).2,fun z hz=>by cases hz⟩,fun q=>absurd q HNF.o,fun _=>rfl⟩
end whole
namespace turn
open Go Go.RowKit schema typing
open record (qp wO dJ bZ lu Has aY)
open field (Va Gives ak)
open step (Sp va0 fd0)
set_option maxRecDepth 20000 in
set_option maxHeartbeats 1600000 in
theorem mP (i:Int) (fa:Option Addr) (fc:Nat) (L:List field.Fd) (s:Sp) (ta:Option Addr) (tc:Nat) (la:Option Addr) (lc:Nat) (j:Int) (b:Option Addr) (d:Nat) (V:List Va) (w:World) (hf:field.Fds w fa L) (hv:field.Vas w b V) (hH:Has i L j V) (h10:s.op=10):
  Calls prog 101 #[zS i fa L.length fc,zP s ta tc la lc,zS j b V.length d] w (wJ 0 [] true true (strOf (dJ L V)) w):=by
 obtain ⟨W4,hW4,hbw,hsz,hBX⟩:=aS w [(49,zS i fa L.length fc),(57,zP s ta tc la lc),(66,zS j b V.length d),(108,[.int .i64 0,.slice none 0 0,.bool false,.bool false,.string ⟨#[]⟩])];simp only [boxes] at hW4;have hl8:=record.pU hH.1;have hlen:=hH.2.2.length;have cL:=qp i fa fc L j b d V W4 (hf.below hbw) (hv.below hbw) (by unfold maxLen;omega) (by unfold maxLen;omega);have hlb:bZ i L j V=dJ L V:=by unfold bZ;rw [if_pos hH]
 rw [hlb] at cL;rw [<-hW4.o] at cL;have e10:(s.op == 10)=true:=by simp [h10]
 generalize dJ L V=ys at *;generalize lu i L j V=E at *;unfold wJ;unfold wO at cL;clear hf hv hH h10 hl8 hlen hlb hbw;go_enter func101,ntmps101;go_wp2_with (first
  | (go_at_call 80;((with_reducible refine cL.mono ?_);rintro e w1 ⟨v,rfl,ho1,hb1⟩;rw [hW4.o] at ho1 hb1;obtain ⟨x,c,rfl,_⟩:=aA ho1;obtain ⟨⟨k0,k1,k2,k3,_⟩,hbw1⟩:=hBX.o w1 hb1;have hcv:=(Reads.own (xs:=ys) ho1).str (P:=prog) 91 5 underlying91 underlying5 c 9 underlying9;have K3:=hid k3;have HBW:=hid hbw1;have HTH:Hid (w1.there (w.heap.size+1+1+1) 0 (#[.int .i64 0,.slice none 0 0,.bool true,.bool true,.string (strOf ys)]:Array Value).size):=hid (k3.there 0 5 si_);have HIS:Hid ((prog.info? 108).map (·.size)=some (#[.int .i64 0,.slice none 0 0,.bool true,.bool true,.string (strOf ys)]:Array Value).size):=hid aU.o;clear k0 k1 k2 k3 ho1 hb1 hbw1))
  | (with_reducible refine ah rfl 108 (.tmp 6) (.tmp 26) rfl (w.heap.size+1+1+1) 0 #[.int .i64 0,.slice none 0 0,.bool true,.bool true,.string (strOf ys)] rfl rfl HTH.o HIS.o (by simp [Value.oneCell']) ?_))
 intro wR hwR;have hB:=K3.o.setCells (vs:=[.int .i64 0,.slice none 0 0,.bool true,.bool true,.string (strOf ys)]) (o:=0);rw [dS _ _ (by rfl),show _=wR from hwR.o] at hB;have hbR:Below w.heap.size w wR:=by rw [<-hwR.o];exact below_setCells HBW.o om_ 0 _
 go_wp2;refine bodyPost_ret (aI (b:=w.heap.size+1+1+1) (o:=0) rfl rfl hB.whole underlying108 rfl aU.o) rfl ?_;exact ⟨none,0,rfl,World.ownsRow_nil _ _ _ _,hbR⟩
end turn
end Go.Proofs.YtogkgbnpodojjaaGreat
