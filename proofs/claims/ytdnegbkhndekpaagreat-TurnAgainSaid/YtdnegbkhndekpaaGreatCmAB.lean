/- Contracts and lemmas that claims of this seat share: RecordLay, TurnEnd, RecordRefSame. Each says its own conditions. -/
import Derived.Test.YtdnegbkhndekpaaGreatCmWord
import Derived.Laws.StructEq
import Derived.Test.YtdnegbkhndekpaaGreatCmC
import Derived.Test.YtdnegbkhndekpaaGreatCmE
import Derived.Test.YtdnegbkhndekpaaGreatCmZ
import Derived.Test.YtdnegbkhndekpaaGreatCmV
set_option linter.unusedVariables false
namespace Go.Proofs.YtdnegbkhndekpaaGreat
open Go.Proofs.Tryz
namespace record
open Go.RowKit
open field (Va Gives aC aj WV vw ru u8v kH mJ)
open schema (aY di Fine xC iY jS)
theorem vY (xs ys:List Nat):u8v (xs++ys)=u8v xs++u8v ys:=by simp [u8v]
theorem rZ (xs:List Nat):∀v∈u8v xs,v.oneCell'=true:=by intro v hv;obtain ⟨x,_,rfl⟩:=List.mem_map.1 hv;rfl
theorem Ai {w:World} {base e n cap:Nat} {a:Option Addr} {xs:List Value} (h:w.ownsRow base e 1 (.slice a n cap) n xs):n=0\/∃ad,a=some ad/\∀j u,xs[j]?=some u->w.cell? (ad.add j)=some u:=by
 obtain ⟨hl,hr⟩:=h;rcases hr with ⟨hv,h0⟩ | ⟨b,cap',cur,hv,_,hg,hcp,_,_,htake⟩
 ·exact .inl h0
 ·cases hv
  refine .inr ⟨_,rfl,fun j u hj=> ?_⟩;have hi:j<xs.length:=(List.getElem?_eq_some_iff.1 hj).1;rw [<-htake,List.getElem?_take,if_pos om_] at hj;rw [Addr.add_lit,cell_of_row w b _ cur _ _ hg,Nat.zero_add,<-hj,Array.getElem?_toList]
structure BS (w0:World) (B:Nat) (xs:List Nat) (u:Value) (w:World):Prop where
 f:Block w B 68 [u]
 row:w.ownsRow (B+1) 5 1 u xs.length (u8v xs)
 low:Below w0.heap.size w0 w
 at':w0.heap.size=B
theorem BS.later {w0 w w':World} {B:Nat} {xs:List Nat} {u:Value} (h:BS w0 B xs u w) (hb:Below w.heap.size w w'):BS w0 B xs u w':=
 ⟨h.f.later hb,aK h.row hb,h.low.trans (hb.mono h.low.size),h.at'⟩
theorem BS.held {w0 w w':World} {B:Nat} {xs:List Nat} {u:Value} (h:BS w0 B xs u w) (hg:w.grownBy w' u.ownBlock):Block w' B 68 [u]:=
 (hg.block B h.f.lt (by intro he;have:=World.ownsRow.lt h.row B he.symm;omega)).trans h.f
theorem BS.push {w0 w w':World} {B:Nat} {xs ys:List Nat} {u z:Value} (h:BS w0 B xs u w) (hg:w.grownBy w' u.ownBlock) (ho:w'.ownsRow (B+1) 5 1 z (xs.length+ys.length) (u8v xs++u8v ys)):BS w0 B (xs++ys) z (w'.setCell ⟨B,0,none⟩ z):=by
 have hF:=h.held hg;refine ⟨hF.setCell 0 z, ?_, ?_,h.at'⟩
 ·rw [List.length_append,vY];refine fK ho (fun g hg=> ?_);have:=World.ownsRow.lt ho g hg;exact Below.heap_setCell w' ⟨B,0,none⟩ z g (by show g≠B;omega)
 ·have hl:=h.low.grown hg (by have:=h.low.size;omega) (fun k hk=>by have:=World.ownsRow.lt h.row k hk;have:=h.at';omega);exact below_setCells hl (Nat.le_of_eq h.at') 0 [z]
theorem BS.start (w1:World):BS w1 w1.heap.size [] (.slice none 0 0) (w1.alloc (.cells #[.slice none 0 0] 68)):=
 ⟨Block.new w1 68 [.slice none 0 0],World.ownsRow_nil _ _ _ _,aC _ _,rfl⟩
theorem Fe (f:field.Fd) (v:Va):(f.oV v == 0)=decide (f.Has v):=by
 unfold field.Fd.oV;by_cases h:f.Has v
 ·rw [if_neg (fun k=>k h.1),if_neg (fun k=>k h),decide_eq_true h];rfl
 ·rw [decide_eq_false h];by_cases hr:f.Right
  ·rw [if_neg (fun k=>k hr),if_pos h];rfl
  ·rw [if_pos hr];rfl
theorem Dt (f:field.Fd) (v:Va) (w0:World) (B:Nat) (xs:List Nat) (u:Value) (w:World) (h:BS w0 B xs u w) (hx:xs.length<=1000000):
  Calls prog 91 #[zF f,zV v,.pointer (some ⟨B,0,none⟩)] w fun e w'=>e=.returned (.bool (decide (f.Has v)))/\∃u',BS w0 B (xs++f.dA v) u' w':=by
 have HW:=hid (WV.all f v w);have cl:=vw f v (WV f v w);have hl33:(f.dA v).length<=33:=Nat.le_trans (vK f v) f.size_le;have HS:=hid h;have HE:=hid (Fe f v);obtain ⟨r,hr⟩:∃r,Hid (decide (f.Has v)=r):=⟨_,hid rfl⟩;rw [hr.o] at HE ⊢;obtain ⟨i0,hi,hz0,hz1,hz2⟩:=info_parts mJ;unfold ru at cl;generalize f.dA v=Y at *;have heq:(f.oV v == 0)=r:=HE.o;generalize f.oV v=E at *;unfold WV at HW cl;clear h;obtain ⟨ua,uc,rfl,_⟩:=aB HS.o.row;go_enter func91,ntmps91;go_wp2_with (first
  | (go_at_call 52;((with_reducible refine cl.mono ?_);rintro e w2 ⟨z,rfl,ho2,hb2⟩;obtain ⟨hf2,hv2,hbw2⟩:=HW.o _ hb2;obtain ⟨za,zc,rfl,_⟩:=aB ho2;have HS2:=hid (HS.o.later hbw2);have hB0:=HS2.o.f.cell 0;have HN:=hid (Ai ho2);have HUL:=hid (kH Y)))
  | (at_builtin;refine fV rfl _ _ 68 rfl (B+1) 5 i0 (.int .u8 0) 1 underlying68 hi hz0 hz1 hz2 rfl _ xs.length (u8v xs) rfl HS2.o.row za Y.length zc (u8v Y) rfl HUL.o HN.o (rZ Y) (by unfold maxLen;omega) om_ HS2.o.f.lt ?_;intro z w3 ho3 hg3;have hF3:=HS2.o.held hg3;have hc3:=hF3.cell 0;have hz3:=hF3.frozen 0;have HS3:=hid (HS2.o.push hg3 ho3);obtain ⟨qa,qc,rfl,_⟩:=aB ho3;clear ho3 hg3 hF3))
 go_ret;exact ⟨by first | rfl | exact bP (by assumption),_,HS3.o⟩
theorem yV (L:List field.Fd) (V:List Va) (k:Nat) (h:L.length<=8):(eY (L.take k) (V.take k)).length<=1000000:=by
 have:=wF (L.take k) (V.take k);have:(L.take k).length<=L.length:=by rw [List.length_take];omega
 omega
theorem yL (L:List field.Fd) (V:List Va):eY (L.take 0) (V.take 0)=[]:=by simp [eY]
theorem uf (a:Option Addr) (ca:Nat) (L:List field.Fd) (b:Option Addr) (cb:Nat) (V:List Va) (w0:World) (B:Nat) (u:Value) (w:World) (h:field.Fds w0 a L) (h':field.Vas w0 b V) (hL:L.length<=8) (hV:V.length<=maxLen) (hS:BS w0 B [] u w):
  Calls prog 127 #[.slice a L.length ca,.slice b V.length cb,.func (.func 91) #[] #[.pointer (some ⟨B,0,none⟩)]] w fun e w'=>e=.returned (.bool (decide (cu L V)))/\∃xs u',BS w0 B xs u' w'/\(cu L V->xs=eY L V):=by
 have hml:(L.length:Int)<=9223372036854775807:=by omega
 have hmm:(V.length:Int)<=9223372036854775807:=by unfold maxLen at hV;omega
 have HF:=hid h;have HG:=hid h';have HS0:=hid hS;obtain ⟨r,hr⟩:∃r:Bool,Hid (decide (cu L V)=r):=⟨_,rfl⟩;rw [hr.o];have HBD:=hid (fun k=>yV L V k hL);clear h h' hV hS;by_cases hlen:L.length=V.length
 ·have HLEN:=hid hlen;rw [<-hlen];clear hlen hmm hL;go_enter func127,ntmps127;go_wp2;go_loopw [17] (fun n wr=>∃k:Nat,k<=L.length/\n=.int .i64 (k:Int)/\Hid (cu (L.take k) (V.take k))/\Hid (∃u,BS w0 B (eY (L.take k) (V.take k)) u wr)) (fun n _=>L.length - (intOf n).toNat);case atStart=>exact ⟨0,Nat.zero_le _,rfl,hid (by simp [cu]),hid ⟨u,by rw [yL];exact HS0.o⟩⟩
  case round=>
   obtain ⟨k,hk,rfl,HEQ,HS⟩:=hrel;obtain ⟨uk,hS⟩:=HS.o;by_cases hlt:k<L.length
   ·obtain ⟨g,off,p,rfl,hbl,hp,c0,c1,c2,c3,c4⟩:=di HF.o hS.low hlt;obtain ⟨g',off',q,rfl,hbl',hq,d0,d1⟩:=uj HG.o hS.low (k:=k) (by rw [<-HLEN.o];exact hlt);have i1:(k:Int)<L.length:=by omega
    have HSU:=hid (qF hp hq);have HNE:=hid (fun hpq=>rH hp hq hpq);have HLT:=hid (tZ hp hq);have cS:=Dt p q w0 B _ uk (WV p q wr) (hS.later (WV.all p q wr _ (Below.refl _ _)).2.2) (HBD.o k);unfold WV at cS;clear hp hq HS;have HSW:=hid hS;clear hS;by_cases hpq:p.Has q
    ·rw [decide_eq_true hpq] at cS;have HPQ:=hid hpq;clear hpq;go_wp2_with (go_at_call 91;((with_reducible refine cS.mono ?_);rintro e w2 ⟨rfl,u2,hs2⟩;have HS2:=hid hs2;clear hs2));exact ⟨⟨k+1,by omega,by go_num,hid (HSU.o.2 ⟨HEQ.o,HPQ.o⟩),hid ⟨u2,by rw [HLT.o];exact HS2.o⟩⟩,by simp [intOf];omega⟩
    ·rw [decide_eq_false hpq] at cS;obtain rfl:false=r:=by rw [<-hr.o];exact (decide_eq_false (HNE.o hpq)).symm
     have HNO:=hid (HNE.o hpq);clear hpq;go_wp2_with (go_at_call 91;((with_reducible refine cS.mono ?_);rintro e w2 ⟨rfl,u2,hs2⟩;have HS2:=hid hs2;clear hs2));go_ret;exact ⟨rfl,_,_,HS2.o,fun k=>absurd k HNO.o⟩
   ·obtain rfl:k=L.length:=by omega
    obtain rfl:true=r:=by rw [<-hr.o];exact (decide_eq_true (wW HLEN.o HEQ.o)).symm
    have HSW:=hid hS;clear hS HS;go_wp2;go_ret;exact ⟨rfl,_,_,HSW.o,fun _=>by rw [List.take_of_length_le (Nat.le_refl _),List.take_of_length_le (by rw [HLEN.o];exact Nat.le_refl _)]⟩
 ·obtain rfl:false=r:=by rw [<-hr.o];exact (decide_eq_false (fun e=>hlen e.length)).symm
  have hd:((L.length:Int) == (V.length:Int))=false:=by rw [beq_eq_false_iff_ne];omega
  have HLEN:=hid hlen;clear hlen;go_enter func127,ntmps127;go_wp2;go_ret;exact ⟨rfl,_,_,HS0.o,fun k=>absurd k.length HLEN.o⟩
theorem wE (i:Int) (a:Option Addr) (c:Nat) (L:List field.Fd) (j:Int) (b:Option Addr) (d:Nat) (V:List Va) (w0:World) (B:Nat) (u:Value) (w:World) (h:field.Fds w0 a L) (h':field.Vas w0 b V) (hL:L.length<=8) (hV:V.length<=maxLen) (hS:BS w0 B [] u w):
  Calls prog 90 #[zS i a L.length c,zS j b V.length d,.func (.func 91) #[] #[.pointer (some ⟨B,0,none⟩)]] w fun e w'=>e=.returned (.bool (decide (j=i/\cu L V)))/\∃xs u',BS w0 B xs u' w'/\(cu L V->j=i->xs=eY L V):=by
 have HX:=hid (WF.all i a L c j b V d w);have hw:=(WF.all i a L c j b V d w _ (Below.refl _ _)).2.2.2.2;have cE:=uf a c L b d V w0 B u (WF i a L c j b V d w) h h' hL hV (hS.later hw);have HW:=hid (hS.later hw);clear h h' hL hV hw hS;by_cases hij:j=i
 ·subst hij;rw [show decide (j=j/\cu L V)=decide (cu L V) by simp];obtain ⟨H,hH⟩:∃H:List Nat->Prop,Hid (∀xs,H xs↔(cu L V->xs=eY L V)):=⟨_,hid fun _=>Iff.rfl⟩;simp only [<-hH.o] at cE;generalize decide (cu L V)=r at *;unfold WF at HX cE HW;go_enter func90,ntmps90;go_wp2_with (go_at_call 127;((with_reducible refine cE.mono ?_);rintro e w2 ⟨rfl,xs2,u2,hs2,hx2⟩;have HS2:=hid hs2;have HX2:=hid hx2;clear hs2 hx2));go_ret;exact ⟨rfl,_,_,HS2.o,fun k _=>(hH.o _).1 HX2.o k⟩
 ·have hd:(j == i)=false:=by rw [beq_eq_false_iff_ne];exact hij
  rw [show decide (j=i/\cu L V)=false from decide_eq_false (fun e=>hij e.1)];have HIJ:=hid hij;clear hij cE;unfold WF at HX HW;go_enter func90,ntmps90;go_wp2;go_ret;exact ⟨rfl,_,_,HW.o,fun _ k=>absurd k HIJ.o⟩
theorem hmf (fn:Fn) (first cap:Array Value) (w:World):(Instr.makeFunc fn first cap).run prog w=.ok (.func fn first cap) w:=rfl
def DU (ys:List Nat) (E:Int) (w:World) (e:Ending) (w':World):Prop:=∃z,e=.returned (.tuple #[z,.int .i64 E])/\w'.ownsRow w.heap.size 5 1 z ys.length (u8v ys)/\Below w.heap.size w w'
theorem zW (i:Int) (a:Option Addr) (c:Nat) (L:List field.Fd) (j:Int) (b:Option Addr) (d:Nat) (V:List Va) (w:World) (h:field.Fds w a L) (h':field.Vas w b V) (hL:L.length<=maxLen) (hV:V.length<=maxLen):
  Calls prog 49 #[zS i a L.length c,zS j b V.length d] w (DU (dA i L j V) (oV i L j V) w):=by
 have HX:=hid (WF.all i a L c j b V d w);have hw:=(WF.all i a L c j b V d w _ (Below.refl _ _)).2.2.2.2;have cF:=iY i a c L (WF i a L c j b V d w) (h.below hw) hL;have HF:=hid (h.below hw);have HG:=hid (h'.below hw);unfold DU;unfold Gives at cF;have hm:=fun fn first cap w=>hmf fn first cap w
 by_cases hf:Fine (i,L)
 ·rw [decide_eq_true hf] at cF;have hL8:=nC hf;have cB:=fun w1 (hb:Below (WF i a L c j b V d w).heap.size (WF i a L c j b V d w) w1)=>wE i a c L j b d V w1 w1.heap.size (.slice none 0 0) (w1.alloc (.cells #[.slice none 0 0] 68)) ((h.below hw).below hb) ((h'.below hw).below hb) hL8 hV (BS.start w1)
  clear h h' hL hV hw;by_cases hh:j=i/\cu L V
  ·rw [show oV i L j V=0 from (if_neg (fun k=>k hf)).trans (if_neg (fun k=>k hh)),show dA i L j V=eY L V from if_pos ⟨hf,hh⟩];simp only [decide_eq_true hh] at cB;have HH:=hid hh;clear hh hf hL8;unfold WF at HX cF HF HG cB;obtain ⟨H,hH⟩:∃H:List Nat->Prop,Hid (∀xs,H xs↔(cu L V->j=i->xs=eY L V)):=⟨_,hid fun _=>Iff.rfl⟩;simp only [<-hH.o] at cB;go_enter func49,ntmps49;go_wp2_with (first
    | (go_at_call 60;((with_reducible refine cF.mono ?_);rintro e w1 ⟨rfl,hb1⟩;obtain ⟨z0,z1,z2,z3,hbo⟩:=HX.o _ hb1;have cB1:=cB _ hb1;have hsz:w.heap.size+1<w1.heap.size:=(by have:=hb1.size;simp at this;omega);have hsz0:w.heap.size<w1.heap.size:=om_;have HBO:=hid hbo;clear hbo))
    | (go_at_call 90;((with_reducible refine cB1.mono ?_);rintro e w2 ⟨rfl,xs2,u2,hs2,hx2⟩;have HS2:=hid hs2;have HX2:=hid hx2;have hc2:=hs2.f.cell 0;obtain ⟨ua,uc,rfl,_⟩:=aB hs2.row;clear hs2 hx2)))
   go_ret2;obtain rfl:=(hH.o _).1 HX2.o HH.o.2 HH.o.1;exact ⟨_,rfl,schema.dV HS2.o.row om_,HBO.o.trans (HS2.o.low.mono HBO.o.size)⟩
  ·rw [show oV i L j V=16 from (if_neg (fun k=>k hf)).trans (if_pos hh),show dA i L j V=[] from if_neg (fun k=>hh k.2)];simp only [decide_eq_false hh] at cB;clear hh hf hL8;unfold WF at HX cF HF HG cB;obtain ⟨H,hH⟩:∃H:List Nat->Prop,Hid (∀xs,H xs↔(cu L V->j=i->xs=eY L V)):=⟨_,hid fun _=>Iff.rfl⟩;simp only [<-hH.o] at cB;go_enter func49,ntmps49;go_wp2_with (first
    | (go_at_call 60;((with_reducible refine cF.mono ?_);rintro e w1 ⟨rfl,hb1⟩;obtain ⟨z0,z1,z2,z3,hbo⟩:=HX.o _ hb1;have cB1:=cB _ hb1;have hsz:w.heap.size+1<w1.heap.size:=(by have:=hb1.size;simp at this;omega);have hsz0:w.heap.size<w1.heap.size:=om_;have HBO:=hid hbo;clear hbo))
    | (go_at_call 90;((with_reducible refine cB1.mono ?_);rintro e w2 ⟨rfl,xs2,u2,hs2,hx2⟩;have HS2:=hid hs2;clear hs2 hx2)))
   go_ret2;exact ⟨_,rfl,World.ownsRow_nil _ _ _ _,HBO.o.trans (HS2.o.low.mono HBO.o.size)⟩
 ·rw [decide_eq_false hf] at cF;rw [show oV i L j V=2 from if_pos hf,show dA i L j V=[] from if_neg (fun k=>hf k.1)];clear h h' hL hV hw hf;unfold WF at HX cF;go_enter func49,ntmps49;go_wp2_with (go_at_call 60;((with_reducible refine cF.mono ?_);rintro e w1 ⟨rfl,hb1⟩;obtain ⟨z0,z1,z2,z3,hbo⟩:=HX.o _ hb1));go_ret2;exact ⟨_,rfl,World.ownsRow_nil _ _ _ _,hbo⟩
end record
namespace turn
open Go Go.RowKit schema typing
open record (zW DU eY dA oV Has cu)
open field (Va Gives aC)
open step (Sp va0 fd0)
set_option maxRecDepth 20000 in
set_option maxHeartbeats 1600000 in
theorem qx (i:Int) (fa:Option Addr) (fc:Nat) (L:List field.Fd) (s:Sp) (ta:Option Addr) (tc:Nat) (la:Option Addr) (lc:Nat) (j:Int) (b:Option Addr) (d:Nat) (V:List Va) (w:World) (hf:field.Fds w fa L) (hv:field.Vas w b V) (hH:Has i L j V) (h10:s.op=10):
  Calls prog 21 #[zS i fa L.length fc,zP s ta tc la lc,zS j b V.length d] w (yH 0 [] true true (strOf (eY L V)) w):=by
 obtain ⟨W4,hW4,hbw,hsz,hBX⟩:=aU w [(57,zS i fa L.length fc),(32,zP s ta tc la lc),(35,zS j b V.length d),(40,[.int .i64 0,.slice none 0 0,.bool false,.bool false,.string ⟨#[]⟩])];simp only [boxes] at hW4;have hl8:=record.nC hH.1;have hlen:=hH.2.2.length;have cL:=zW i fa fc L j b d V W4 (hf.below hbw) (hv.below hbw) (by unfold maxLen;omega) (by unfold maxLen;omega);have hlb:dA i L j V=eY L V:=by unfold dA;rw [if_pos hH]
 rw [hlb] at cL;rw [<-hW4.o] at cL;have e10:(s.op == 10)=true:=by simp [h10]
 generalize eY L V=ys at *;generalize oV i L j V=E at *;unfold yH;unfold DU at cL;clear hf hv hH h10 hl8 hlen hlb hbw;go_enter func21,ntmps21;go_wp2_with (first
  | (go_at_call 49;((with_reducible refine cL.mono ?_);rintro e w1 ⟨v,rfl,ho1,hb1⟩;rw [hW4.o] at ho1 hb1;obtain ⟨x,c,rfl,_⟩:=aB ho1;obtain ⟨⟨k0,k1,k2,k3,_⟩,hbw1⟩:=hBX.o w1 hb1;have hcv:=(Reads.own (xs:=ys) ho1).str (P:=prog) 68 5 underlying68 underlying5 c 9 underlying9;have K3:=hid k3;have HBW:=hid hbw1;have HTH:Hid (w1.there (w.heap.size+1+1+1) 0 (#[.int .i64 0,.slice none 0 0,.bool true,.bool true,.string (strOf ys)]:Array Value).size):=hid (k3.there 0 5 si_);have HIS:Hid ((prog.info? 40).map (·.size)=some (#[.int .i64 0,.slice none 0 0,.bool true,.bool true,.string (strOf ys)]:Array Value).size):=hid bV.o;clear k0 k1 k2 k3 ho1 hb1 hbw1))
  | (with_reducible refine ax rfl 40 (.tmp 6) (.tmp 26) rfl (w.heap.size+1+1+1) 0 #[.int .i64 0,.slice none 0 0,.bool true,.bool true,.string (strOf ys)] rfl rfl HTH.o HIS.o (by simp [Value.oneCell']) ?_))
 intro wR hwR;have hB:=K3.o.setCells (vs:=[.int .i64 0,.slice none 0 0,.bool true,.bool true,.string (strOf ys)]) (o:=0);rw [fZ _ _ (by rfl),show _=wR from hwR.o] at hB;have hbR:Below w.heap.size w wR:=by rw [<-hwR.o];exact below_setCells HBW.o om_ 0 _
 go_wp2;refine bodyPost_ret (aO (b:=w.heap.size+1+1+1) (o:=0) rfl rfl hB.whole underlying40 rfl bV.o) rfl ?_;exact ⟨none,0,rfl,World.ownsRow_nil _ _ _ _,hbR⟩
end turn
theorem t127{P:Prop}(h:P:=by
 unfold WR2 at HX HW;go_enter func12,ntmps12;go_wp2;go_ret;exact ⟨rfl,HW.o⟩):P:=h
namespace record
open Go.RowKit
open field (Va Gives aC aj)
open schema (aT aY)
theorem Ij (p q:Va) (w:World):(binOp .neq 28 (zV p) (zV q)).run prog w=.ok (.bool (!decide (p=q))) w:=by
 rw [run_neq_struct,show (10000:Nat)=9999+1 from rfl,run_equalIn_struct w 9999 28 _ _ kr_ Tryz.stoodInHeld28];go_simp;obtain ⟨n,s⟩:=p;obtain ⟨m,t⟩:=q;rw [show decide ((⟨n,s⟩:Va)=⟨m,t⟩)=decide (n=m/\s.toList=t.toList) from decide_eq_decide.2 FN];by_cases h1:n=m
 ·by_cases h2:s.toList=t.toList <;> simp [h1,h2]
 ·simp [h1]
theorem Iz (x y:Operand) (p q:Va) (w:World):(eqGuard .neq 28 x y (zV p) (zV q)).run prog w=.ok () w:=
 run_eqGuard_agg w .neq 28 x y _ _ Tryz.eqGuardType28
theorem jg {α:Type} {L M:List α} {k:Nat} {p q:α} (hp:L[k]?=some p) (hq:M[k]?=some q):L.take (k+1)=M.take (k+1)↔L.take k=M.take k/\p=q:=by
 rw [aT hp,aT hq];have h1:=(List.getElem?_eq_some_iff.1 hp).1;have h2:=(List.getElem?_eq_some_iff.1 hq).1;constructor
 ·intro h;have:=List.append_inj' h rfl;exact ⟨this.1,by simpa using this.2⟩
 ·rintro ⟨h,rfl⟩;rw [h]
def WR2 (i:Int) (a:Option Addr) (L:List Va) (c:Nat) (j:Int) (b:Option Addr) (M:List Va) (d:Nat) (w:World):World:=(w.alloc (.cells (zS i a L.length c) 35)).alloc (.cells (zS j b M.length d) 35)
theorem WR2.all (i:Int) (a:Option Addr) (L:List Va) (c:Nat) (j:Int) (b:Option Addr) (M:List Va) (d:Nat) (w w':World) (hb:Below (WR2 i a L c j b M d w).heap.size (WR2 i a L c j b M d w) w'):
  w'.cell? ⟨w.heap.size,0,none⟩=some (.int .i64 i)/\w'.cell? ⟨w.heap.size,1,none⟩=some (.slice a L.length c)/\w'.cell? ⟨w.heap.size+1,0,none⟩=some (.int .i64 j)/\w'.cell? ⟨w.heap.size+1,1,none⟩=some (.slice b M.length d)/\Below w.heap.size w w':=by
 obtain ⟨h1,h2,h3⟩:=Gn i a L c w w' (aY hb);obtain ⟨h4,h5,_⟩:=Gn j b M d (w.alloc (.cells (zS i a L.length c) 35)) w' hb;exact ⟨h1,h2,by simpa using h4,by simpa using h5,h3⟩
theorem kX (i:Int) (a:Option Addr) (c:Nat) (L:List Va) (j:Int) (b:Option Addr) (d:Nat) (M:List Va) (w:World) (h:field.Vas w a L) (h':field.Vas w b M) (hL:L.length<=maxLen) (hM:M.length<=maxLen):
  Calls prog 12 #[zS i a L.length c,zS j b M.length d] w (Gives (.bool (decide (i=j/\L=M))) w):=by
 have hml:(L.length:Int)<=9223372036854775807:=by unfold maxLen at hL;omega
 have hmm:(M.length:Int)<=9223372036854775807:=by unfold maxLen at hM;omega
 have HX:=hid (WR2.all i a L c j b M d w);have hw:=(WR2.all i a L c j b M d w _ (Below.refl _ _)).2.2.2.2;have HF:=hid (h.below hw);have HG:=hid (h'.below hw);have HW:=hid hw;obtain ⟨r,hr⟩:∃r:Bool,Hid (decide (i=j/\L=M)=r):=⟨_,rfl⟩;rw [hr.o];unfold Gives;clear h h' hL hM hw;by_cases hij:i=j
 ·subst hij;replace hr:Hid (decide (L=M)=r):=hid (by rw [<-hr.o];simp);by_cases hlen:L.length=M.length
  ·have HLEN:=hid hlen;have hd1:((L.length:Int) == (M.length:Int))=true:=by rw [beq_iff_eq,hlen]
   unfold WR2 at HX HF HG HW;rw [<-hlen] at HX ⊢;clear hlen hmm hd1;go_enter func12,ntmps12;go_wp2;obtain ⟨w1,hw1⟩:∃x,Hid ((w.alloc (.cells (zS i a L.length c) 35)).alloc (.cells (zS i b L.length d) 35)=x):=⟨_,hid rfl⟩;rw [<-HLEN.o] at HF HG HW;rw [hw1.o] at HX HF HG HW ⊢;go_loopw [5] (fun n wr=>∃k:Nat,k<=L.length/\n=.int .i64 (k:Int)/\Hid (L.take k=M.take k)/\Hid (Below w1.heap.size w1 wr)) (fun n _=>L.length - (intOf n).toNat);case atStart=>exact ⟨0,Nat.zero_le _,rfl,hid rfl,hid (Below.refl _ _)⟩
   case round=>
    obtain ⟨k,hk,rfl,HEQ,HB⟩:=hrel;obtain ⟨z0,z1,z2,z3,hbo⟩:=HX.o _ HB.o;by_cases hlt:k<L.length
    ·obtain ⟨g,off,p,rfl,hbl,hp,c0,c1⟩:=uj HF.o HB.o hlt;obtain ⟨g',off',q,rfl,hbl',hq,d0,d1⟩:=uj HG.o HB.o (k:=k) (by rw [<-HLEN.o];exact hlt);have i1:(k:Int)<L.length:=by omega
     have HS:=hid (jg hp hq);have hne:=fun W=>Ij p q W
     have hng:=fun x y W=>Iz x y p q W
     have HNE:=hid (fun (hpq:¬p=q)=>show ¬L=M from fun e=>by rw [e] at hp;exact hpq (Option.some.inj (hp.symm.trans hq)));clear hp hq;by_cases hpq:p=q
     ·rw [decide_eq_true hpq] at hne;have HPQ:=hid hpq;clear hpq;go_wp2;go_quiet (fail);go_wp2;exact ⟨⟨k+1,by omega,by go_num,hid (HS.o.2 ⟨HEQ.o,HPQ.o⟩),hid (below_drewN HB.o _)⟩,by simp [intOf];omega⟩
     ·rw [decide_eq_false hpq] at hne;obtain rfl:false=r:=by rw [<-hr.o];exact (decide_eq_false (HNE.o hpq)).symm
      clear hpq;go_wp2;go_quiet (fail);go_wp2;go_ret;exact ⟨rfl,below_drewN hbo _⟩
    ·obtain rfl:k=L.length:=by omega
     obtain rfl:true=r:=by
      rw [<-hr.o];have:=HEQ.o;rw [List.take_of_length_le (Nat.le_refl _),List.take_of_length_le (by rw [HLEN.o];exact Nat.le_refl _)] at this;exact (decide_eq_true this).symm
     go_wp2;go_ret;exact ⟨rfl,hbo⟩
  ·obtain rfl:false=r:=by rw [<-hr.o];exact (decide_eq_false (fun e=>hlen (by rw [e]))).symm
   have hd:((L.length:Int) == (M.length:Int))=false:=by rw [beq_eq_false_iff_ne];omega
   clear hlen
   exact t127
 ·have hd:(i == j)=false:=by rw [beq_eq_false_iff_ne];exact hij
  obtain rfl:false=r:=by rw [<-hr.o];exact (decide_eq_false (fun e=>hij e.1)).symm
  clear hij
  exact t127
end record
end Go.Proofs.YtdnegbkhndekpaaGreat
