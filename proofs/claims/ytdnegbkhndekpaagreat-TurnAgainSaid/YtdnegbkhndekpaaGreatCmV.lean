/- Contracts and lemmas that claims of this seat share: StepGreat, RecordHas, FieldLay, TurnBackMath. Each says its own conditions. -/
import Derived.Test.YtdnegbkhndekpaaGreatCmWord
import Derived.Test.YtdnegbkhndekpaaGreatCmC
import Derived.Test.YtdnegbkhndekpaaGreatCmE
import Derived.Test.YtdnegbkhndekpaaGreatCmJ
import Derived.Test.YtdnegbkhndekpaaGreatCmM
import Derived.Test.YtdnegbkhndekpaaGreatCmU
import Derived.Test.YtdnegbkhndekpaaGreatCmT
set_option linter.unusedVariables false
namespace Go.Proofs.YtdnegbkhndekpaaGreat
open Go.Proofs.Tryz
namespace step
open Go.RowKit
open field (Gives aC aj)
open schema (aY aT)
structure StL (w:World) (a:Option Addr) (L:List St):Prop where
 row:Sts w a L
 each:∀p∈L,Lists w p.s p.ta p.la
theorem StL.below {w w':World} {a:Option Addr} {L:List St} (h:StL w a L) (hb:Below w.heap.size w w'):StL w' a L:=⟨h.row.below hb,fun p hp=>(h.each p hp).below hb⟩
theorem StL.nil (w:World):StL w none []:=⟨.inl rfl,by simp⟩
def sps (L:List St):List Sp:=L.map St.s
theorem Dk (L:List St):(sps L).length=L.length:=List.length_map _
theorem I7 {L:List St} {k:Nat} {p:St} (h:L[k]?=some p):(sps L)[k]?=some p.s:=by simp [sps,h]
theorem Jj {w w':World} {a:Option Addr} {L:List St} (h:StL w a L) (hb:Below w.heap.size w w') {k:Nat} (hk:k<L.length):
  ∃b off p,a=some ⟨b,off,none⟩/\b<w'.heap.size/\L[k]?=some p/\Lists w' p.s p.ta p.la/\(w'.cell? ⟨b,off+k*16,none⟩=some (.int .i64 p.s.op)/\w'.cell? ⟨b,off+k*16+1,none⟩=some (.int .i64 p.s.fm)/\w'.cell? ⟨b,off+k*16+2,none⟩=some (.int .i64 p.s.fd)/\w'.cell? ⟨b,off+k*16+3,none⟩=some (.int .i64 p.s.pl)/\w'.cell? ⟨b,off+k*16+4,none⟩=some (.int .i64 p.s.tt)/\w'.cell? ⟨b,off+k*16+5,none⟩=some (.int .i64 p.s.a)/\w'.cell? ⟨b,off+k*16+6,none⟩=some (.int .i64 p.s.b)/\w'.cell? ⟨b,off+k*16+7,none⟩=some (.int .i64 p.s.f.id)/\w'.cell? ⟨b,off+k*16+8,none⟩=some (.int .i64 p.s.f.kind)/\w'.cell? ⟨b,off+k*16+9,none⟩=some (.int .i64 p.s.f.lo)/\w'.cell? ⟨b,off+k*16+10,none⟩=some (.int .i64 p.s.f.hi)/\w'.cell? ⟨b,off+k*16+11,none⟩=some (.int .i64 p.s.f.most)/\w'.cell? ⟨b,off+k*16+12,none⟩=some (.int .i64 p.s.v.n)/\w'.cell? ⟨b,off+k*16+13,none⟩=some (.string p.s.v.s)/\w'.cell? ⟨b,off+k*16+14,none⟩=some (.slice p.ta p.s.t.length p.tc)/\w'.cell? ⟨b,off+k*16+15,none⟩=some (.slice p.la p.s.l.length p.lc)):=by
 have h':=h.below hb;rcases h'.row with rfl | ⟨b,off,ha,hlt,hc⟩
 ·simp at hk
 ·have hp:=List.getElem?_eq_getElem hk;have hx:=hc k _ hp;exact ⟨b,off,_,ha,hlt,hp,h'.each _ (List.mem_of_getElem? hp),hx 0 _ rfl,hx 1 _ rfl,hx 2 _ rfl,hx 3 _ rfl,hx 4 _ rfl,hx 5 _ rfl,hx 6 _ rfl,hx 7 _ rfl,hx 8 _ rfl,hx 9 _ rfl,hx 10 _ rfl,hx 11 _ rfl,hx 12 _ rfl,hx 13 _ rfl,hx 14 _ rfl,hx 15 _ rfl⟩
def uU (s:Sp):Prop:=100<s.t.length\/40<s.l.length
instance (s:Sp):Decidable (uU s):=by unfold uU;infer_instance
def kz (L:List Sp):Prop:=(∃s∈L.take 61,uU s)\/60<L.length
instance (L:List Sp):Decidable (kz L):=by unfold kz;infer_instance
theorem ul {L:List Sp} (h:¬kz L):L.length<=60/\∀s∈L,s.t.length<=100/\s.l.length<=40:=by
 have h1:L.length<=60:=by
  have:¬60<L.length:=fun e=>h (.inr e)
  omega
 refine ⟨h1,fun s hs=> ?_⟩;have:¬uU s:=fun e=>h (.inl ⟨s,by rw [List.take_of_length_le om_];exact hs,e⟩)
 unfold uU at this;omega
theorem FH {L:List Sp} {k:Nat} {s:Sp} (h:L[k]?=some s) (hn:∀q∈L.take k,¬uU q) (hs:¬uU s):∀q∈L.take (k+1),¬uU q:=by
 rw [aT h];intro q hq;rcases List.mem_append.1 hq with h | h
 ·exact hn q h
 ·rw [List.mem_singleton.1 h];exact hs
theorem FT {L:List Sp} {k:Nat} {s:Sp} (h:L[k]?=some s) (hk:k<61) (hs:uU s):kz L:=
 .inl ⟨s,List.mem_of_getElem? ((List.getElem?_take_of_lt hk).trans h),hs⟩
set_option maxRecDepth 20000 in
theorem gu (a:Option Addr) (c:Nat) (L:List St) (w:World) (h:StL w a L) (hL:L.length<=maxLen):Calls prog 17 #[.slice a L.length c] w (Gives (.bool (decide (kz (sps L)))) w):=by
 have hml:(L.length:Int)<=9223372036854775807:=by unfold maxLen at hL;omega
 obtain ⟨r,hr⟩:∃r:Bool,Hid (decide (kz (sps L))=r):=⟨_,rfl⟩;rw [hr.o];unfold Gives;have HF:=hid h;have HLN:=hid (Dk L);clear h hL;go_enter func17,ntmps17;go_wp2;go_loopw [3] (fun n wr=>∃k:Nat,k<=L.length/\k<=61/\n=.int .i64 (k:Int)/\Hid (∀q∈(sps L).take k,¬uU q)/\Hid (Below w.heap.size w wr)) (fun n _=>L.length - (intOf n).toNat);case atStart=>exact ⟨0,Nat.zero_le _,by omega,rfl,hid si_,hid (Below.refl _ _)⟩
 case round=>
  obtain ⟨k,hk,hk61,rfl,HOK,HB⟩:=hrel;by_cases hlt:k<L.length
  ·have i1:(k:Int)<L.length:=by omega
   by_cases h61:k<61
   ·have i2:(k:Int)<61:=by omega
    obtain ⟨b,off,p,rfl,hbl,hp,hls,z0,z1,z2,z3,z4,z5,z6,z7,z8,z9,z10,z11,z12,z13,z14,z15⟩:=Jj HF.o HB.o hlt;have HSUC:=hid (FH (I7 hp) HOK.o);have HYES:=hid (FT (I7 hp) h61);obtain ⟨s,ta,tc,la,lc⟩:=p;simp only at z14 z15 hls HSUC HYES;have m1:(s.t.length:Int)<=9223372036854775807:=by have:=hls.mt;unfold maxLen at this;omega
    have m2:(s.l.length:Int)<=9223372036854775807:=by have:=hls.ml;unfold maxLen at this;omega
    clear hp hls z0 z1 z2 z3 z4 z5 z6 z7 z8 z9 z10 z11 z12 z13;by_cases h1:100<s.t.length
    ·have hd:decide ((s.t.length:Int)>100)=true:=decide_eq_true om_;obtain rfl:true=r:=by rw [<-hr.o];exact (decide_eq_true (HYES.o (.inl h1))).symm
     clear h1;go_wp2;go_ret;exact ⟨rfl,HB.o⟩
    ·have hd:decide ((s.t.length:Int)>100)=false:=decide_eq_false om_;by_cases h2:40<s.l.length
     ·have hd2:decide ((s.l.length:Int)>40)=true:=decide_eq_true om_;obtain rfl:true=r:=by rw [<-hr.o];exact (decide_eq_true (HYES.o (.inr h2))).symm
      clear h1 h2;go_wp2;go_ret;exact ⟨rfl,HB.o⟩
     ·have hd2:decide ((s.l.length:Int)>40)=false:=decide_eq_false om_;have HW:Hid (¬uU s):=hid (by unfold uU;omega);clear h1 h2;go_wp2;exact ⟨⟨k+1,by omega,by omega,by go_num,hid (HSUC.o HW.o),HB⟩,by simp [intOf];omega⟩
   ·obtain rfl:k=61:=by omega
    obtain rfl:true=r:=by rw [<-hr.o];exact (decide_eq_true (.inr (by rw [HLN.o];omega))).symm
    have hd:decide ((L.length:Int)>60)=true:=decide_eq_true om_;have j1:(60:Int)<L.length:=by omega
    go_wp2;go_ret;exact ⟨rfl,HB.o⟩
  ·obtain rfl:k=L.length:=by omega
   have HQ:Hid (kz (sps L)↔60<L.length):=hid ⟨fun h=>by
     rcases h with ⟨s,hs,hw⟩ | h
     ·exfalso;have:=HOK.o;rw [List.take_of_length_le (by rw [HLN.o];exact Nat.le_refl _)] at this;exact this s (List.mem_of_mem_take hs) hw
     ·rw [HLN.o] at h;exact h,fun h=>.inr (by rw [HLN.o];exact h)⟩
   by_cases h60:60<L.length
   ·obtain rfl:true=r:=by rw [<-hr.o];exact (decide_eq_true (HQ.o.2 h60)).symm
    have hd:decide ((L.length:Int)>60)=true:=decide_eq_true om_;have j1:(60:Int)<L.length:=by omega
    clear h60;go_wp2;go_ret;exact ⟨rfl,HB.o⟩
   ·obtain rfl:false=r:=by rw [<-hr.o];exact (decide_eq_false (fun e=>h60 (HQ.o.1 e))).symm
    have hd:decide ((L.length:Int)>60)=false:=decide_eq_false om_;have j1:¬(60:Int)<L.length:=by omega
    clear h60;go_wp2;go_ret;exact ⟨rfl,HB.o⟩
end step
theorem t45{P:Prop}(h:P:=by
 unfold WF at HX HW cF;go_enter func15,ntmps15;go_wp2_with (go_at_call 37;((with_reducible refine cF.mono ?_);rintro e w1 ⟨rfl,hb1⟩;obtain ⟨z0,z1,z2,z3,hbo⟩:=HX.o _ hb1));go_ret;exact ⟨rfl,hbo⟩):P:=h
namespace record
open Go.RowKit
open field (Va Gives aC aj WV dI nZ)
open schema (aY di Fine xC iY mM)
theorem rH {L:List field.Fd} {V:List Va} {k:Nat} {f:field.Fd} {v:Va} (hf:L[k]?=some f) (hv:V[k]?=some v) (h:¬f.Has v):¬cu L V:=fun h'=>h (h'.at hf hv)
theorem wW {L:List field.Fd} {V:List Va} (hl:L.length=V.length) (h:cu (L.take L.length) (V.take L.length)):cu L V:=by
 rwa [List.take_of_length_le (Nat.le_refl _),List.take_of_length_le om_] at h
theorem tK (a:Option Addr) (ca:Nat) (L:List field.Fd) (b:Option Addr) (cb:Nat) (V:List Va) (w:World) (h:field.Fds w a L) (h':field.Vas w b V) (hL:L.length<=maxLen) (hV:V.length<=maxLen):
  Calls prog 127 #[.slice a L.length ca,.slice b V.length cb,.func (.func 72) #[] #[]] w (Gives (.bool (decide (cu L V))) w):=by
 have hml:(L.length:Int)<=9223372036854775807:=by unfold maxLen at hL;omega
 have hmm:(V.length:Int)<=9223372036854775807:=by unfold maxLen at hV;omega
 have HF:=hid h;have HG:=hid h';obtain ⟨r,hr⟩:∃r:Bool,Hid (decide (cu L V)=r):=⟨_,rfl⟩;rw [hr.o];unfold Gives;clear h h' hL hV;by_cases hlen:L.length=V.length
 ·have HLEN:=hid hlen;rw [<-hlen];clear hlen hmm;go_enter func127,ntmps127;go_wp2;go_loopw [17] (fun n wr=>∃k:Nat,k<=L.length/\n=.int .i64 (k:Int)/\Hid (cu (L.take k) (V.take k))/\Hid (Below w.heap.size w wr)) (fun n _=>L.length - (intOf n).toNat);case atStart=>exact ⟨0,Nat.zero_le _,rfl,hid (by simp [cu]),hid (Below.refl _ _)⟩
  case round=>
   obtain ⟨k,hk,rfl,HEQ,HB⟩:=hrel;by_cases hlt:k<L.length
   ·obtain ⟨g,off,p,rfl,hbl,hp,c0,c1,c2,c3,c4⟩:=di HF.o HB.o hlt;obtain ⟨g',off',q,rfl,hbl',hq,d0,d1⟩:=uj HG.o HB.o (k:=k) (by rw [<-HLEN.o];exact hlt);have i1:(k:Int)<L.length:=by omega
    have HS:=hid (qF hp hq);have HNE:=hid (fun hpq=>rH hp hq hpq);have cS:=dI p q (WV p q wr);have HX:=hid (WV.all p q wr);unfold WV at cS HX;clear hp hq;by_cases hpq:p.Has q
    ·rw [decide_eq_true hpq] at cS;have HPQ:=hid hpq;clear hpq;go_wp2_with (go_at_call 72;((with_reducible refine cS.mono ?_);rintro e w2 ⟨rfl,hb2⟩;obtain ⟨z0,z1,hbo⟩:=HX.o _ hb2));exact ⟨⟨k+1,by omega,by go_num,hid (HS.o.2 ⟨HEQ.o,HPQ.o⟩),hid (HB.o.trans (hbo.mono HB.o.size))⟩,by simp [intOf];omega⟩
    ·rw [decide_eq_false hpq] at cS;obtain rfl:false=r:=by rw [<-hr.o];exact (decide_eq_false (HNE.o hpq)).symm
     clear hpq;go_wp2_with (go_at_call 72;((with_reducible refine cS.mono ?_);rintro e w2 ⟨rfl,hb2⟩;obtain ⟨z0,z1,hbo⟩:=HX.o _ hb2));go_ret;exact ⟨rfl,HB.o.trans (hbo.mono HB.o.size)⟩
   ·obtain rfl:k=L.length:=by omega
    obtain rfl:true=r:=by rw [<-hr.o];exact (decide_eq_true (wW HLEN.o HEQ.o)).symm
    go_wp2;go_ret;exact ⟨rfl,HB.o⟩
 ·obtain rfl:false=r:=by rw [<-hr.o];exact (decide_eq_false (fun e=>hlen e.length)).symm
  have hd:((L.length:Int) == (V.length:Int))=false:=by rw [beq_eq_false_iff_ne];omega
  clear hlen;go_enter func127,ntmps127
  exact t23
def WF (i:Int) (a:Option Addr) (L:List field.Fd) (c:Nat) (j:Int) (b:Option Addr) (V:List Va) (d:Nat) (w:World):World:=(w.alloc (.cells (zS i a L.length c) 57)).alloc (.cells (zS j b V.length d) 35)
theorem WF.all (i:Int) (a:Option Addr) (L:List field.Fd) (c:Nat) (j:Int) (b:Option Addr) (V:List Va) (d:Nat) (w w':World) (hb:Below (WF i a L c j b V d w).heap.size (WF i a L c j b V d w) w'):
  w'.cell? ⟨w.heap.size,0,none⟩=some (.int .i64 i)/\w'.cell? ⟨w.heap.size,1,none⟩=some (.slice a L.length c)/\w'.cell? ⟨w.heap.size+1,0,none⟩=some (.int .i64 j)/\w'.cell? ⟨w.heap.size+1,1,none⟩=some (.slice b V.length d)/\Below w.heap.size w w':=by
 obtain ⟨h1,h2,h3⟩:=xC i a L c w w' (aY hb);obtain ⟨h4,h5,_⟩:=Gn j b V d (w.alloc (.cells (zS i a L.length c) 57)) w' hb;exact ⟨h1,h2,by simpa using h4,by simpa using h5,h3⟩
theorem wS (i:Int) (a:Option Addr) (c:Nat) (L:List field.Fd) (j:Int) (b:Option Addr) (d:Nat) (V:List Va) (w:World) (h:field.Fds w a L) (h':field.Vas w b V) (hL:L.length<=maxLen) (hV:V.length<=maxLen):
  Calls prog 90 #[zS i a L.length c,zS j b V.length d,.func (.func 72) #[] #[]] w (Gives (.bool (decide (j=i/\cu L V))) w):=by
 have HX:=hid (WF.all i a L c j b V d w);have hw:=(WF.all i a L c j b V d w _ (Below.refl _ _)).2.2.2.2;have cE:=tK a c L b d V (WF i a L c j b V d w) (h.below hw) (h'.below hw) hL hV;have HW:=hid hw;clear h h' hL hV hw;unfold Gives;by_cases hij:j=i
 ·subst hij;rw [show decide (j=j/\cu L V)=decide (cu L V) by simp];generalize decide (cu L V)=r at *;unfold WF at HX cE HW;go_enter func90,ntmps90;go_wp2_with (go_at_call 127;((with_reducible refine cE.mono ?_);rintro e w2 ⟨rfl,hb2⟩;obtain ⟨z0,z1,z2,z3,hbo⟩:=HX.o _ hb2));go_ret;exact ⟨rfl,hbo⟩
 ·have hd:(j == i)=false:=by rw [beq_eq_false_iff_ne];exact hij
  rw [show decide (j=i/\cu L V)=false from decide_eq_false (fun e=>hij e.1)];clear hij cE;unfold WF at HX HW;go_enter func90,ntmps90;go_wp2;go_ret;exact ⟨rfl,HW.o⟩
theorem Bo (i:Int) (a:Option Addr) (c:Nat) (L:List field.Fd) (j:Int) (b:Option Addr) (d:Nat) (V:List Va) (w:World) (h:field.Fds w a L) (h':field.Vas w b V) (hL:L.length<=maxLen) (hV:V.length<=maxLen):
  Calls prog 47 #[zS i a L.length c,zS j b V.length d] w (Gives (.bool (decide (Has i L j V))) w):=by
 have HX:=hid (WF.all i a L c j b V d w);have hw:=(WF.all i a L c j b V d w _ (Below.refl _ _)).2.2.2.2;have cF:=iY i a c L (WF i a L c j b V d w) (h.below hw) hL;have cB:=fun w' (hb:Below (WF i a L c j b V d w).heap.size (WF i a L c j b V d w) w')=>wS i a c L j b d V w' ((h.below hw).below hb) ((h'.below hw).below hb) hL hV
 have HW:=hid hw;clear h h' hL hV hw;unfold Gives at cF cB ⊢;by_cases hf:Fine (i,L)
 ·rw [decide_eq_true hf] at cF;rw [show decide (Has i L j V)=decide (j=i/\cu L V) from decide_eq_decide.2 ⟨fun k=>k.2,fun k=>⟨hf,k⟩⟩];generalize decide (j=i/\cu L V)=r at *;clear hf;unfold WF at HX cF cB HW;go_enter func47,ntmps47;go_wp2_with (first
   | (go_at_call 60;((with_reducible refine cF.mono ?_);rintro e w2 ⟨rfl,hb2⟩;obtain ⟨z0,z1,z2,z3,hbo⟩:=HX.o _ hb2))
   | (go_at_call 90;((with_reducible refine (cB _ hb2).mono ?_);rintro e w3 ⟨rfl,hb3⟩)))
  go_ret;exact ⟨rfl,hbo.trans (hb3.mono hbo.size)⟩
 ·rw [decide_eq_false hf] at cF;rw [show decide (Has i L j V)=false from decide_eq_false (fun e=>hf e.1)];clear hf cB;unfold WF at HX cF HW;go_enter func47,ntmps47;go_wp2_with (go_at_call 60;((with_reducible refine cF.mono ?_);rintro e w2 ⟨rfl,hb2⟩;obtain ⟨z0,z1,z2,z3,hbo⟩:=HX.o _ hb2));go_ret;exact ⟨rfl,hbo⟩
theorem gG (i:Int) (a:Option Addr) (c:Nat) (L:List field.Fd) (j:Int) (b:Option Addr) (d:Nat) (V:List Va) (w:World) (h:field.Fds w a L) (h':field.Vas w b V) (hL:L.length<=maxLen) (hV:V.length<=maxLen):
  Calls prog 15 #[zS i a L.length c,zS j b V.length d] w (Gives (.bool (decide (Has i L j V))) w):=by
 have hml:(L.length:Int)<=9223372036854775807:=by unfold maxLen at hL;omega
 have hmm:(V.length:Int)<=9223372036854775807:=by unfold maxLen at hV;omega
 have HX:=hid (WF.all i a L c j b V d w);have hw:=(WF.all i a L c j b V d w _ (Below.refl _ _)).2.2.2.2;have cF:=mM i a c L (WF i a L c j b V d w) (h.below hw) hL;have HF:=hid (h.below hw);have HG:=hid (h'.below hw);have HW:=hid hw;obtain ⟨r,hr⟩:∃r:Bool,Hid (decide (Has i L j V)=r):=⟨_,rfl⟩;rw [hr.o];clear h h' hL hV hw;unfold Gives at cF ⊢;by_cases hf:Fine (i,L)
 ·rw [decide_eq_true hf] at cF;by_cases hij:j=i
  ·subst hij;replace hr:Hid (decide (cu L V)=r):=hid (by rw [<-hr.o];exact decide_eq_decide.2 ⟨fun k=>⟨hf,rfl,k⟩,fun k=>k.2.2⟩);clear hf;by_cases hlen:L.length=V.length
   ·have HLEN:=hid hlen;unfold WF at HX HF HG HW cF;rw [<-hlen] at HX HF HG HW cF ⊢;clear hlen hmm;go_enter func15,ntmps15;go_wp2_with (go_at_call 37;((with_reducible refine cF.mono ?_);rintro e w1 ⟨rfl,hb1⟩;obtain ⟨z0,z1,z2,z3,hbo⟩:=HX.o _ hb1));have HB1:=hid hb1;clear cF hb1 z0 z1 z2 z3 hbo;go_loopw [5] (fun n wr=>∃k:Nat,k<=L.length/\n=.int .i64 (k:Int)/\Hid (cu (L.take k) (V.take k))/\Hid (Below w1.heap.size w1 wr)) (fun n _=>L.length - (intOf n).toNat);case atStart=>exact ⟨0,Nat.zero_le _,rfl,hid (by simp [cu]),hid (Below.refl _ _)⟩
    case round=>
     obtain ⟨k,hk,rfl,HEQ,HB⟩:=hrel;have HBR:=hid (HB1.o.trans (HB.o.mono HB1.o.size));obtain ⟨z0,z1,z2,z3,hbo⟩:=HX.o _ HBR.o;have HBO:=hid hbo;by_cases hlt:k<L.length
     ·obtain ⟨g,off,p,rfl,hbl,hp,c0,c1,c2,c3,c4⟩:=di HF.o HBR.o hlt;obtain ⟨g',off',q,rfl,hbl',hq,d0,d1⟩:=uj HG.o HBR.o (k:=k) (by rw [<-HLEN.o];exact hlt);have i1:(k:Int)<L.length:=by omega
      have HS:=hid (qF hp hq);have HNE:=hid (fun hpq=>rH hp hq hpq);have cS:=fun W=>nZ p q W
      clear hp hq hbo;by_cases hpq:p.Has q
      ·simp only [decide_eq_true hpq] at cS;have HPQ:=hid hpq;clear hpq;go_wp2;refine tail.region 10 kr_ kr_ ?_;simp only [List.take_succ_cons,List.take_zero,List.drop_succ_cons,List.drop_zero];repeat (go_big_quiet_step (fail))
       refine wpQuiet_nil ?_;rintro _ ⟨nq,rfl⟩;go_wp2_with (go_at_call 38;((with_reducible refine (cS _).mono ?_);rintro e w2 ⟨rfl,hb2⟩));exact ⟨⟨k+1,by omega,by go_num,hid (HS.o.2 ⟨HEQ.o,HPQ.o⟩),hid ((below_drewN HB.o nq).trans (hb2.mono (by simpa using HB.o.size)))⟩,by simp [intOf];omega⟩
      ·simp only [decide_eq_false hpq] at cS;obtain rfl:false=r:=by rw [<-hr.o];exact (decide_eq_false (HNE.o hpq)).symm
       clear hpq;go_wp2;refine tail.region 10 kr_ kr_ ?_;simp only [List.take_succ_cons,List.take_zero,List.drop_succ_cons,List.drop_zero];repeat (go_big_quiet_step (fail))
       refine wpQuiet_nil ?_;rintro _ ⟨nq,rfl⟩;go_wp2_with (go_at_call 38;((with_reducible refine (cS _).mono ?_);rintro e w2 ⟨rfl,hb2⟩));go_ret;exact ⟨rfl,(below_drewN HBO.o nq).trans (hb2.mono (by simpa using HBO.o.size))⟩
     ·obtain rfl:k=L.length:=by omega
      obtain rfl:true=r:=by rw [<-hr.o];exact (decide_eq_true (wW HLEN.o HEQ.o)).symm
      go_wp2;go_ret;exact ⟨rfl,hbo⟩
   ·obtain rfl:false=r:=by rw [<-hr.o];exact (decide_eq_false (fun e=>hlen e.length)).symm
    have hd:((V.length:Int) == (L.length:Int))=false:=by rw [beq_eq_false_iff_ne];omega
    clear hlen
    exact t45
  ·have hd:(j == i)=false:=by rw [beq_eq_false_iff_ne];exact hij
   obtain rfl:false=r:=by rw [<-hr.o];exact (decide_eq_false (fun e=>hij e.2.1)).symm
   clear hij hf
   exact t45
 ·rw [decide_eq_false hf] at cF;obtain rfl:false=r:=by rw [<-hr.o];exact (decide_eq_false (fun e=>hf e.1)).symm
  clear hf
  exact t45
end record
namespace field
open Go.RowKit cut
theorem aI {B:Nat} {a w:World} (h:Below B a w):Below B a w.drew:=below_drewN h 1
theorem own_base {w:World} {B base e size n:Nat} {v:Value} {xs:List Value} (h:w.ownsRow base e size v n xs) (hB:B<=base):w.ownsRow B e size v n xs:=by
 refine ⟨h.1, ?_⟩;rcases h.2 with h0 | ⟨g,cap,cur,h1,h2,h3⟩
 ·exact .inl h0
 ·exact .inr ⟨g,cap,cur,h1,by omega,h3⟩
def ru (xs:List Nat) (E:Int) (w:World) (e:Ending) (w':World):Prop:=∃u,e=.returned (.tuple #[u,.int .i64 E])/\w'.ownsRow w.heap.size 5 1 u xs.length (u8v xs)/\Below w.heap.size w w'
theorem vw (f:Fd) (v:Va) (w:World):Calls prog 52 #[zF f,zV v] w (ru (f.dA v) (f.oV v) w):=by
 have HW:=hid (WV.all f v w);have cr:=aj (dL f (WV f v w)) (w0:=WV f v w) (Below.refl _ _);have ch:=fun W (hb:Below (WV f v w).heap.size (WV f v w) W)=>aj (dI f v W) hb
 unfold ru;by_cases h:f.Right
 ·rw [decide_eq_true h] at cr;by_cases hh:f.Has v
  ·simp only [decide_eq_true hh] at ch;have hE:f.oV v=0:=by unfold Fd.oV;rw [if_neg (show ¬¬f.Right from fun k=>k h),if_neg (show ¬¬f.Has v from fun k=>k hh)]
   rw [hE];have hL:f.dA v=if f.kind=4 then v.s.size :: bytesOf v.s else digits f.size (v.n - f.lo).toNat:=by unfold Fd.dA;rw [if_neg (show ¬¬f.Has v from fun k=>k hh)]
   rw [hL];have hsp:=h.span;by_cases h4:f.kind=4
   ·rw [if_pos h4];have hs32:v.s.size<=32:=by obtain ⟨_,_,k⟩:=hh;omega
    have e4:(f.kind == 4)=true:=by rw [beq_iff_eq];exact h4
    have hbl:(v.s.size :: bytesOf v.s).length=1+v.s.size:=by rw [List.length_cons,bytesOf_length];omega
    have hbv:u8v (v.s.size :: bytesOf v.s)=[Value.int .u8 (v.s.size:Int)]++Lib.strCells v.s:=by rw [vO];rfl
    rw [hbl,hbv];obtain ⟨i0,hi,hz0,hz1,hz2⟩:=info_parts mJ;have hwr:IntKind.u8.wrap (v.s.size:Int)=(v.s.size:Int):=IntWalk.u8_in _ om_;unfold WV at HW cr ch;clear h hh hE hL hsp h4 hbl hbv;go_enter func52,ntmps52;go_wp2_with (first
     | (go_at_call 96;(with_reducible refine cr.mono ?_);rintro e w1 ⟨rfl,hb1⟩;obtain ⟨hf1,hv1,hbw1⟩:=HW.o _ hb1)
     | (go_at_call 72;(with_reducible refine (ch _ hb1).mono ?_);rintro e w2 ⟨rfl,hb2⟩;obtain ⟨hf2,hv2,hbw2⟩:=HW.o _ hb2;have hlt:w.heap.size+1<w2.heap.size:=(by have:=hb2.size;simp at this;omega);have hrow:=World.ownsRow_lit (base:=w.heap.size) (e:=5) (size:=1) w2 #[.int .u8 (v.s.size:Int)] 1 hbw2.size (by unfold maxLen;omega) rfl)
     | (at_builtin;refine Lib.wpList_append_own_string _ rfl _ _ 68 9 rfl w.heap.size 5 i0 underlying68 underlying9 hi hz0 hz1 hz2 (.slice (some ⟨w2.heap.size,0,none⟩) 1 1) 1 [.int .u8 (v.s.size:Int)] rfl hrow v.s rfl (by unfold maxLen;omega) om_ (by simp;omega) ?_))
    intro u w3 ho hg hne;have hb3:Below w.heap.size w w3:=(hbw2.alloc hbw2.size _).grown hg (by simp;omega) (fun k hk=>by cases hk;exact hbw2.size);go_wp2;go_ret2;exact ⟨_,rfl,ho,hb3⟩
   ·rw [if_neg h4];have hs6:=Fd.wP h h4;obtain ⟨_,⟨k1,k2⟩,_⟩:=hh;obtain ⟨N,hN⟩:∃N:Nat,v.n - f.lo=(N:Int):=⟨(v.n - f.lo).toNat,by omega⟩;have hNb:N<281474976710656:=by omega
    have hwN:IntKind.i64.wrap (v.n - f.lo)=(N:Int):=by rw [IntWalk.i64_in _ om_,hN]
    have e4:(f.kind == 4)=false:=by rw [beq_eq_false_iff_ne];exact h4
    have cs:=fun W (hb:Below (WV f v w).heap.size (WV f v w) W)=>aj (size_any f W) hb
    rw [hN,show ((N:Int)).toNat=N from rfl,digits_length];generalize f.size=sz at *;have cl:∀W,Below w.heap.size w W->Calls prog 97 #[.int .i64 (IntKind.i64.wrap (v.n - f.lo)),.int .i64 (sz:Int)] W (fun e w'=>∃u,e=.returned u/\w'.ownsRow w.heap.size 5 1 u sz (u8v (digits sz N))/\Below W.heap.size W w'):=fun W hb=>by
     rw [hwN];exact (xX N sz hNb hs6 W).mono fun _ _ ⟨u,h1,h2,h3⟩=>⟨u,h1,own_base h2 hb.size,h3⟩
    unfold WV at HW cr ch cs;clear h hE hL hsp h4 k1 k2 hwN hN;go_enter func52,ntmps52;go_wp2_with (first
     | (go_at_call 96;(with_reducible refine cr.mono ?_);rintro e w1 ⟨rfl,hb1⟩;obtain ⟨hf1,hv1,hbw1⟩:=HW.o _ hb1)
     | (go_at_call 72;(with_reducible refine (ch _ hb1).mono ?_);rintro e w2 ⟨rfl,hb2⟩;obtain ⟨hf2,hv2,hbw2⟩:=HW.o _ hb2))
    have hb2d:=aI hb2;have hkd:=HW.o w2.drew hb2d;obtain ⟨hfd,hvd,hbwd⟩:=hkd;go_region_held3 (fun w'=>(w'.cell? ⟨w.heap.size,0,none⟩=some (.int .i64 f.id)/\w'.cell? ⟨w.heap.size,1,none⟩=some (.int .i64 f.kind)/\w'.cell? ⟨w.heap.size,2,none⟩=some (.int .i64 f.lo)/\w'.cell? ⟨w.heap.size,3,none⟩=some (.int .i64 f.hi)/\w'.cell? ⟨w.heap.size,4,none⟩=some (.int .i64 f.most))/\(w'.cell? ⟨w.heap.size+1,0,none⟩=some (.int .i64 v.n)/\w'.cell? ⟨w.heap.size+1,1,none⟩=some (.string v.s))) (first | assumption | go_keep) (first
     | (go_at_call 98;(with_reducible refine (cs _ hb2d).mono ?_);rintro e w3 ⟨rfl,hb3⟩;obtain ⟨hf3,hv3,hbw3⟩:=HW.o _ hb3)
     | (go_at_call 97;(with_reducible refine (cl _ hbw3).mono ?_);rintro e w4 ⟨u,rfl,ho,hb4⟩;have hb4':=hb3.trans (hb4.mono hb3.size);obtain ⟨hf4,hv4,hbw4⟩:=HW.o _ hb4'))
    go_wp2;go_ret2;exact ⟨_,rfl,ho,hbw4⟩
  ·simp only [decide_eq_false hh] at ch;have hE:f.oV v=16:=by unfold Fd.oV;rw [if_neg (show ¬¬f.Right from fun k=>k h),if_pos hh]
   have hL:f.dA v=[]:=by unfold Fd.dA;rw [if_pos hh]
   rw [hE,hL];unfold WV at HW cr ch;clear h hh hE hL;go_enter func52,ntmps52;go_wp2_with (first
    | (go_at_call 96;(with_reducible refine cr.mono ?_);rintro e w1 ⟨rfl,hb1⟩;obtain ⟨hf1,hv1,hbw1⟩:=HW.o _ hb1)
    | (go_at_call 72;(with_reducible refine (ch _ hb1).mono ?_);rintro e w2 ⟨rfl,hb2⟩;obtain ⟨hf2,hv2,hbw2⟩:=HW.o _ hb2))
   go_ret2;exact ⟨_,rfl,World.ownsRow_nil _ _ _ _,hbw2⟩
 ·rw [decide_eq_false h] at cr;have hE:f.oV v=2:=by unfold Fd.oV;rw [if_pos h]
  have hL:f.dA v=[]:=by unfold Fd.dA;rw [if_pos (fun k=>h k.1)]
  rw [hE,hL];unfold WV at HW cr ch;clear h hE hL;go_enter func52,ntmps52;go_wp2_with (go_at_call 96;(with_reducible refine cr.mono ?_);rintro e w1 ⟨rfl,hb1⟩;obtain ⟨hf1,hv1,hbw1⟩:=HW.o _ hb1);go_ret2;exact ⟨_,rfl,World.ownsRow_nil _ _ _ _,hbw1⟩
end field
namespace turn
open Go.RowKit schema step typing
open pair (inv)
open field (Va bytesOf)
open record (cu Has)
def oD (f:field.Fd) (lost:ByteArray):Va×Int:=if (f.take (bytesOf lost)).e=0/\(f.take (bytesOf lost)).c=(bytesOf lost).length then (⟨(f.take (bytesOf lost)).n,strOf (f.take (bytesOf lost)).s⟩,0) else (va0,12)
def Kw (j:Int) (q:List Va×Int):Int×List Va×Int:=(if q.2=0 then j else 0,q.1,q.2)
theorem He {r:Sp} {k:Nat} {V:List Va} (h:(iq r k V).2≠0):(iq r k V).1=[]:=by
 unfold iq at h ⊢;split at h <;> rename_i h1
 ·simp at h
 rw [if_neg h1];split at h <;> rename_i h2
 ·simp at h
 rw [if_neg h2];split at h <;> rename_i h3
 ·simp at h
 rw [if_neg h3];by_cases h4:r.op=23
 ·rw [if_pos h4] at h ⊢;split at h <;> rename_i q <;> simp_all
 rw [if_neg h4] at h ⊢;by_cases h5:r.op=24
 ·rw [if_pos h5] at h ⊢;by_cases q:((V.getD k va0).n - r.b).tmod r.a=0/\r.f.Has (vn (((V.getD k va0).n - r.b).tdiv r.a))
  ·rw [if_pos q] at h;exact absurd rfl h
  ·rw [if_neg q]
 rw [if_neg h5] at h ⊢;by_cases h6:r.op=25
 ·rw [if_pos h6] at h ⊢;split at h <;> rename_i q <;> simp_all
 rw [if_neg h6] at h ⊢;by_cases h7:r.op=26
 ·rw [if_pos h7] at h ⊢;split at h <;> rename_i q <;> simp_all
 rw [if_neg h7] at h ⊢;by_cases h8:r.op=29
 ·rw [if_pos h8]
 ·rw [if_neg h8] at h;simp at h
def pJ (F:List schema.Form) (s:Sp) (z:Va):Sp:={ inv F s with v:=if s.op=2 then z else (inv F s).v}
theorem Em {F:List schema.Form} {s:Sp} (h:s.op=2):(inv F s).v=s.v/\(inv F s).op=22/\(inv F s).f=kU F s:=by
 have hf:pair.dW F s.fm=fieldsOf F s.fm:=rfl;unfold inv;rw [if_neg om_,if_neg om_,if_neg om_,if_pos h];exact ⟨rfl,rfl,by unfold kU atI;rw [hf]⟩
theorem Kq {F:List schema.Form} {s:Sp} (h:1<=s.op/\s.op<=10):(inv F s).op=s.op+20:=by
 unfold inv;by_cases h9:s.op=9
 ·rw [if_pos h9,h9];rfl
 rw [if_neg h9];by_cases h10:s.op=10
 ·rw [if_pos h10,h10];rfl
 rw [if_neg h10];by_cases h1:s.op=1
 ·rw [if_pos h1,h1];rfl
 rw [if_neg h1];by_cases h2:s.op=2
 ·rw [if_pos h2,h2];rfl
 rw [if_neg h2];by_cases h3:s.op=3
 ·rw [if_pos h3,h3];rfl
 rw [if_neg h3];by_cases h4:s.op=4
 ·rw [if_pos h4,h4];rfl
 rw [if_neg h4];by_cases h5:s.op=5
 ·rw [if_pos h5,h5];rfl
 rw [if_neg h5];by_cases h6:s.op=6
 ·rw [if_pos h6,h6];rfl
 rw [if_neg h6];by_cases h7:s.op=7
 ·rw [if_pos h7,h7];rfl
 rw [if_neg h7,show s.op=8 by omega];rfl
theorem BX {v:Int} {F:List schema.Form} {s:Sp} {j:Int} {V:List Va} (h:(on v F s).2.2=0) (hr:iG (on v F s).2.1 j V) (hj:j=s.fm) (lost:ByteArray) (has:Bool):
  (s.op=2->has=true->(oD (kU F s) lost).2≠0->backR v F s j V lost has=(0,[],(oD (kU F s) lost).2))/\
  ∀z,(s.op=2->has=true->oD (kU F s) lost=(z,0))->(s.op=2->has=false->z=s.v)->
   ∃k,CanU (pJ F s z) (fieldsOf (on v F s).2.1 j) V k (V.getD k va0)/\backR v F s j V lost has=Kw j (iq (pJ F s z) k V):=by
 obtain ⟨L',hn,hh⟩:=hr;have hr:iG (on v F s).2.1 j V:=⟨L',hn,hh⟩;have hf':=bZ hn;have hb:backR v F s j V lost has=if (bwd v F s V lost has).2≠0 then (0,[],(bwd v F s V lost has).2) else (j,(bwd v F s V lost has).1,0):=by
  unfold backR;rw [if_neg (by simpa using h),if_neg (by simpa using hr),if_neg (by simpa using hj)]
 have hlen:=hh.2.2.length;have h10:s.op≠10:=fun e=>by
  obtain ⟨_,_,q⟩:=sH h e;rw [<-hj,hn] at q;cases q
 by_cases h9:s.op=9
 ·refine ⟨fun e=>by omega,fun z _ _=>⟨0, ?_, ?_⟩⟩
  ·have hi:inv F s=⟨29,s.fm,0,0,0,0,0,fd0,va0,[],[]⟩:=by unfold inv;rw [if_pos h9]
   unfold pJ;rw [if_neg om_,hi,hf'];exact ⟨hlen.symm,hh.1.2.1,rfl,by simp,xA hh.2.2 0,by simp,by simp,by simp,by simp⟩
  ·have hi:inv F s=⟨29,s.fm,0,0,0,0,0,fd0,va0,[],[]⟩:=by unfold inv;rw [if_pos h9]
   have hbs:pJ F s z=⟨29,s.fm,0,0,0,0,0,fd0,va0,[],[]⟩:=by unfold pJ;rw [if_neg om_,hi]
   have hw:bwd v F s V lost has=([],20):=by unfold bwd;rw [if_pos h9]
   rw [hb,hbs,DY rfl,hw];rfl
 obtain ⟨L,hF⟩:=Ef h h9 h10;have hL:L'=fields (aJ F s):=by have:=hF.there;rw [<-hj,hn] at this;cases this;rfl
 subst hL;have hbv:∀G,s.op=2->has=true->ig s (kU F s) G lost has=oD (kU F s) lost:=fun G e1 e2=>by
  unfold ig oD;rw [if_pos e1,if_pos e2]
 refine ⟨fun e1 e2 e3=> ?_,fun z hz1 hz2=> ?_⟩
 ·rw [hb];have:(bwd v F s V lost has).2=(oD (kU F s) lost).2:=by
   unfold bwd;rw [if_neg h9,if_neg om_,if_neg om_,hbv _ e1 e2,if_pos e3]
  rw [this,if_pos e3]
 ·obtain ⟨k,C,hu⟩:=IE h hF h9 h10 hh.2.2 lost has z (fun e1 G=>by
   cases hq:has with
   | true=>rw [<-hq,hbv G e1 hq,hz1 e1 hq]
   | false=>unfold ig;rw [if_pos e1,if_neg si_,hz2 e1 hq])
  refine ⟨k,by rw [hf'];exact C, ?_⟩
  rw [hb,hu]
  show _=Kw j (iq (pJ F s z) k V)
  unfold Kw pJ
  by_cases hE:(iq { inv F s with v:=if s.op=2 then z else (inv F s).v} k V).2=0
  ·rw [if_neg (by simpa using hE),if_pos hE,hE]
  ·rw [if_pos hE,if_neg hE,He hE]
end turn
end Go.Proofs.YtdnegbkhndekpaaGreat
