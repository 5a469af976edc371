/- Contracts and lemmas that claims of this seat share: StepGreat, StepAll. Each says its own conditions. -/
import Derived.Test.YtogfefdlffmioaaCmWord
import Derived.Test.YtogfefdlffmioaaCmAN
import Derived.Test.YtogfefdlffmioaaCmAS
set_option linter.unusedVariables false
namespace Go.Proofs.Ytogfefdlffmioaa
open Go.Proofs.Try
namespace step
open Go.RowKit
open field (Gives aI ay)
open ak (aX aH)
structure StL (w:World) (a:Option Addr) (L:List St):Prop where
 row:Sts w a L
 each:∀p∈L,Lists w p.s p.ta p.la
theorem StL.below{w w':World}{a:Option Addr}{L:List St}(h:StL w a L)(hb:Below w.heap.size w w'):StL w' a L:=⟨h.row.below hb,fun p hp=>(h.each p hp).below hb⟩
theorem StL.nil(w:World):StL w none []:=⟨.inl rfl,by simp⟩
def bV(L:List St):List Sp:=L.map St.s
theorem dI(L:List St):(bV L).length=L.length:=List.length_map _
theorem gU{L:List St}{k:Nat}{p:St}(h:L[k]?=some p):(bV L)[k]?=some p.s:=by simp[bV,h]
theorem mW{w w':World}{a:Option Addr}{L:List St}(h:StL w a L)(hb:Below w.heap.size w w'){k:Nat}(hk:k<L.length):
  ∃b off p,a=some ⟨b,off,none⟩/\b<w'.heap.size/\L[k]?=some p/\Lists w' p.s p.ta p.la/\(w'.cell? ⟨b,off+k*16,none⟩=some (.int .i64 p.s.op)/\w'.cell? ⟨b,off+k*16+1,none⟩=some (.int .i64 p.s.fm)/\w'.cell? ⟨b,off+k*16+2,none⟩=some (.int .i64 p.s.fd)/\w'.cell? ⟨b,off+k*16+3,none⟩=some (.int .i64 p.s.pl)/\w'.cell? ⟨b,off+k*16+4,none⟩=some (.int .i64 p.s.tt)/\w'.cell? ⟨b,off+k*16+5,none⟩=some (.int .i64 p.s.a)/\w'.cell? ⟨b,off+k*16+6,none⟩=some (.int .i64 p.s.b)/\w'.cell? ⟨b,off+k*16+7,none⟩=some (.int .i64 p.s.f.id)/\w'.cell? ⟨b,off+k*16+8,none⟩=some (.int .i64 p.s.f.kind)/\w'.cell? ⟨b,off+k*16+9,none⟩=some (.int .i64 p.s.f.lo)/\w'.cell? ⟨b,off+k*16+10,none⟩=some (.int .i64 p.s.f.hi)/\w'.cell? ⟨b,off+k*16+11,none⟩=some (.int .i64 p.s.f.most)/\w'.cell? ⟨b,off+k*16+12,none⟩=some (.int .i64 p.s.v.n)/\w'.cell? ⟨b,off+k*16+13,none⟩=some (.string p.s.v.s)/\w'.cell? ⟨b,off+k*16+14,none⟩=some (.slice p.ta p.s.t.length p.tc)/\w'.cell? ⟨b,off+k*16+15,none⟩=some (.slice p.la p.s.l.length p.lc)):=by
 have h':=h.below hb;rcases h'.row with rfl | ⟨b,off,ha,bI,hc⟩
 ·simp at hk
 ·have hp:=List.getElem?_eq_getElem hk;have hx:=hc k _ hp;exact⟨b,off,_,ha,bI,hp,h'.each _ (List.mem_of_getElem? hp),hx 0 _ rfl,hx 1 _ rfl,hx 2 _ rfl,hx 3 _ rfl,hx 4 _ rfl,hx 5 _ rfl,hx 6 _ rfl,hx 7 _ rfl,hx 8 _ rfl,hx 9 _ rfl,hx 10 _ rfl,hx 11 _ rfl,hx 12 _ rfl,hx 13 _ rfl,hx 14 _ rfl,hx 15 _ rfl⟩
theorem kY{L:List Sp}{k:Nat}{s:Sp}(h:L[k]?=some s):Rights (L.take (k+1))↔Rights (L.take k)/\s.Right:=by
 rw[aH h];unfold Rights;constructor
 ·intro h;exact⟨fun q hq=>h q (by simp[hq]),h s si_⟩
 ·rintro⟨h1,h2⟩ q hq;rcases List.mem_append.1 hq with h | h
  ·exact h1 q h
  ·rw[List.mem_singleton.1 h];exact h2
theorem oO{L:List Sp}{k:Nat}{s:Sp}(h:L[k]?=some s)(hs:¬s.Right):¬Rights L:=fun e=>hs (e s (List.mem_of_getElem? h))
def vU(s:Sp):Prop:=100<s.t.length\/40<s.l.length
instance (s:Sp):Decidable (vU s):=by unfold vU;infer_instance
def nN(L:List Sp):Prop:=(∃s∈L.take 61,vU s)\/60<L.length
instance (L:List Sp):Decidable (nN L):=by unfold nN;infer_instance
theorem DR{L:List Sp}{k:Nat}{s:Sp}(h:L[k]?=some s)(hn:∀q∈L.take k,¬vU q)(hs:¬vU s):∀q∈L.take (k+1),¬vU q:=by
 rw[aH h];intro q hq;rcases List.mem_append.1 hq with h | h
 ·exact hn q h
 ·rw[List.mem_singleton.1 h];exact hs
theorem FX{L:List Sp}{k:Nat}{s:Sp}(h:L[k]?=some s)(hk:k<61)(hs:vU s):nN L:=
 .inl ⟨s,List.mem_of_getElem? ((List.getElem?_take_of_lt hk).trans h),hs⟩
set_option maxRecDepth 20000 in
theorem jY(a:Option Addr)(c:Nat)(L:List St)(w:World)(h:StL w a L)(hL:L.length<=maxLen):Calls prog 13 #[.slice a L.length c] w (Gives (.bool (decide (nN (bV L)))) w):=by
 have hml:(L.length:Int)<=9223372036854775807:=by unfold maxLen at hL;omega
 obtain⟨r,hr⟩:∃r:Bool,Hid (decide (nN (bV L))=r):=⟨_,rfl⟩;rw[hr.o];unfold Gives;have HF:=hid h;have qQ:=hid (dI L);clear h hL;go_enter func13,ntmps13;go_wp2;go_loopw [3] (fun n wr=>∃k:Nat,k<=L.length/\k<=61/\n=.int .i64 (k:Int)/\Hid (∀q∈(bV L).take k,¬vU q)/\Hid (Below w.heap.size w wr)) (fun n _=>L.length - (intOf n).toNat);case atStart=>exact⟨0,Nat.zero_le _,by omega,rfl,hid si_,hid (Below.refl _ _)⟩
 case round=>
  obtain⟨k,hk,Ur,rfl,nK,HB⟩:=hrel;by_cases bI:k<L.length
  ·have i1:(k:Int)<L.length:=by omega
   by_cases h61:k<61
   ·have i2:(k:Int)<61:=by omega
    obtain⟨b,off,p,rfl,jV,hp,xU,z0,z1,z2,z3,z4,z5,z6,z7,z8,z9,z10,z11,z12,z13,lm,lU⟩:=mW HF.o HB.o bI;have iM:=hid (DR (gU hp) nK.o);have II:=hid (FX (gU hp) h61);obtain⟨s,ta,tc,la,lc⟩:=p;simp only at lm lU xU iM II;have m1:(s.t.length:Int)<=9223372036854775807:=by have:=xU.mt;unfold maxLen at this;omega
    have m2:(s.l.length:Int)<=9223372036854775807:=by have:=xU.ml;unfold maxLen at this;omega
    clear hp xU z0 z1 z2 z3 z4 z5 z6 z7 z8 z9 z10 z11 z12 z13;by_cases h1:100<s.t.length
    ·have hd:decide ((s.t.length:Int)>100)=true:=decide_eq_true om_;obtain rfl:true=r:=by rw[<-hr.o];exact(decide_eq_true (II.o (.inl h1))).symm
     clear h1;go_wp2;go_ret;exact⟨rfl,HB.o⟩
    ·have hd:decide ((s.t.length:Int)>100)=false:=decide_eq_false om_;by_cases h2:40<s.l.length
     ·have hd2:decide ((s.l.length:Int)>40)=true:=decide_eq_true om_;obtain rfl:true=r:=by rw[<-hr.o];exact(decide_eq_true (II.o (.inr h2))).symm
      clear h1 h2;go_wp2;go_ret;exact⟨rfl,HB.o⟩
     ·have hd2:decide ((s.l.length:Int)>40)=false:=decide_eq_false om_;have HW:Hid (¬vU s):=hid (by unfold vU;omega);clear h1 h2;go_wp2;exact⟨⟨k+1,by omega,by omega,by go_num,hid (iM.o HW.o),HB⟩,by simp[intOf];omega⟩
   ·obtain rfl:k=61:=by omega
    obtain rfl:true=r:=by rw[<-hr.o];exact(decide_eq_true (.inr (by rw[qQ.o];omega))).symm
    have hd:decide ((L.length:Int)>60)=true:=decide_eq_true om_;have j1:(60:Int)<L.length:=by omega
    go_wp2;go_ret;exact⟨rfl,HB.o⟩
  ·obtain rfl:k=L.length:=by omega
   have HQ:Hid (nN (bV L)↔60<L.length):=hid ⟨fun h=>by
     rcases h with ⟨s,hs,hw⟩ | h
     ·exfalso;have:=nK.o;rw[List.take_of_length_le (by rw[qQ.o];exact Nat.le_refl _)] at this;exact this s (List.mem_of_mem_take hs) hw
     ·rw[qQ.o] at h;exact h,fun h=>.inr (by rw[qQ.o];exact h)⟩
   by_cases h60:60<L.length
   ·obtain rfl:true=r:=by rw[<-hr.o];exact(decide_eq_true (HQ.o.2 h60)).symm
    have hd:decide ((L.length:Int)>60)=true:=decide_eq_true om_;have j1:(60:Int)<L.length:=by omega
    clear h60;go_wp2;go_ret;exact⟨rfl,HB.o⟩
   ·obtain rfl:false=r:=by rw[<-hr.o];exact(decide_eq_false (fun e=>h60 (HQ.o.1 e))).symm
    have hd:decide ((L.length:Int)>60)=false:=decide_eq_false om_;have j1:¬(60:Int)<L.length:=by omega
    clear h60;go_wp2;go_ret;exact⟨rfl,HB.o⟩
end step
theorem t102{P:Prop}(h:P:=by
 go_ret;exact⟨rfl,HB.o.trans (HB2.o.mono HB.o.size)⟩):P:=h
theorem t33{P:Prop}(h:P:=by
 exact⟨⟨k+1,by omega,by go_num,hid (iM.o.2 ⟨nK.o,HS.o⟩),hid (HB.o.trans (HB2.o.mono HB.o.size))⟩,by simp[intOf];omega⟩):P:=h
namespace step
open Go.RowKit
open field (Gives aI ay)
open ak (aX aH)
set_option maxRecDepth 20000 in
theorem lV(a:Option Addr)(c:Nat)(L:List St)(w:World)(h:StL w a L)(hL:L.length<=maxLen):Calls prog 57 #[.slice a L.length c] w (Gives (.bool (decide (Rights (bV L)))) w):=by
 have hml:(L.length:Int)<=9223372036854775807:=by unfold maxLen at hL;omega
 obtain⟨r,hr⟩:∃r:Bool,Hid (decide (Rights (bV L))=r):=⟨_,rfl⟩;rw[hr.o];unfold Gives;have HF:=hid h;have qQ:=hid (dI L);clear h hL;go_enter func57,ntmps57;go_wp2;go_loopw [7] (fun n wr=>∃k:Nat,k<=L.length/\n=.int .i64 (k:Int)/\Hid (Rights ((bV L).take k))/\Hid (Below w.heap.size w wr)) (fun n _=>L.length - (intOf n).toNat);case atStart=>exact⟨0,Nat.zero_le _,rfl,hid (by intro q hq;simp at hq),hid (Below.refl _ _)⟩
 case round=>
  obtain⟨k,hk,rfl,nK,HB⟩:=hrel;by_cases bI:k<L.length
  ·obtain⟨b,off,p,rfl,jV,hp,xU,z0,z1,z2,z3,z4,z5,z6,z7,z8,z9,z10,z11,z12,z13,lm,lU⟩:=mW HF.o HB.o bI;have i1:(k:Int)<L.length:=by omega
   have iM:=hid (kY (gU hp));have oP:=hid (oO (gU hp));obtain⟨s,ta,tc,la,lc⟩:=p;simp only at z0 z1 z2 z3 z4 z5 z6 z7 z8 z9 z10 z11 z12 z13 lm lU xU iM oP;have cR:=dB s ta tc la lc (wr.alloc (.cells (zP s ta tc la lc) 52)) (xU.below (aI _ _));have HX:=hid (oQ s ta tc la lc wr);unfold Gives at cR;clear hp xU;by_cases hs:s.Right
   ·rw[decide_eq_true hs] at cR;have HS:=hid hs;clear hs;go_wp2_with (go_at_call 36;((with_reducible refine cR.mono ?_);rintro e w2 ⟨rfl,aQ⟩;have HB2:=hid (aX aQ)))
    exact t33
   ·rw[decide_eq_false hs] at cR;obtain rfl:false=r:=by rw[<-hr.o];exact(decide_eq_false (oP.o hs)).symm
    clear hs;go_wp2_with (go_at_call 36;((with_reducible refine cR.mono ?_);rintro e w2 ⟨rfl,aQ⟩;have HB2:=hid (aX aQ)))
    exact t102
  ·obtain rfl:k=L.length:=by omega
   obtain rfl:true=r:=by rw[<-hr.o];have:=nK.o;rw[List.take_of_length_le (by rw[qQ.o];exact Nat.le_refl _)] at this;exact(decide_eq_true this).symm
   go_wp2;go_ret;exact⟨rfl,HB.o⟩
set_option maxRecDepth 20000 in
theorem pz(a:Option Addr)(c:Nat)(L:List St)(w:World)(h:StL w a L)(hL:L.length<=maxLen):Calls prog 17 #[.slice a L.length c] w (Gives (.int .i64 (bP (bV L):Int)) w):=by
 have hml:(L.length:Int)<=9223372036854775807:=by unfold maxLen at hL;omega
 obtain⟨r,hr⟩:∃r:Nat,Hid (bP (bV L)=r):=⟨_,rfl⟩;rw[hr.o];unfold Gives;have HF:=hid h;have qQ:=hid (dI L);clear h hL;by_cases DX:40<L.length
 ·obtain rfl:7=r:=by rw[<-hr.o];unfold bP;rw[if_pos (by rw[qQ.o];exact DX)]
  have hd:decide ((L.length:Int)>40)=true:=decide_eq_true om_;have j1:(40:Int)<L.length:=by omega
  go_enter func17,ntmps17
  exact t12
 ·have hd:decide ((L.length:Int)>40)=false:=decide_eq_false om_;have j1:¬(40:Int)<L.length:=by omega
  have Sl:Hid (bP (bV L)=if Rights (bV L) then 0 else 2):=hid (by unfold bP;rw[if_neg (by rw[qQ.o];exact DX)]);clear DX;go_enter func17,ntmps17;go_wp2;go_loopw [3] (fun n wr=>∃k:Nat,k<=L.length/\n=.int .i64 (k:Int)/\Hid (Rights ((bV L).take k))/\Hid (Below w.heap.size w wr)) (fun n _=>L.length - (intOf n).toNat);case atStart=>exact⟨0,Nat.zero_le _,rfl,hid (by intro q hq;simp at hq),hid (Below.refl _ _)⟩
  case round=>
   obtain⟨k,hk,rfl,nK,HB⟩:=hrel;by_cases bI:k<L.length
   ·obtain⟨b,off,p,rfl,jV,hp,xU,z0,z1,z2,z3,z4,z5,z6,z7,z8,z9,z10,z11,z12,z13,lm,lU⟩:=mW HF.o HB.o bI;have i1:(k:Int)<L.length:=by omega
    have iM:=hid (kY (gU hp));have oP:=hid (oO (gU hp));obtain⟨s,ta,tc,la,lc⟩:=p;simp only at z0 z1 z2 z3 z4 z5 z6 z7 z8 z9 z10 z11 z12 z13 lm lU xU iM oP;have cR:=fB s ta tc la lc wr xU;unfold Gives at cR;clear hp xU;by_cases hs:s.Right
    ·rw[decide_eq_true hs] at cR;have HS:=hid hs;clear hs;go_wp2_with (go_at_call 38;((with_reducible refine cR.mono ?_);rintro e w2 ⟨rfl,aQ⟩;have HB2:=hid aQ))
     exact t33
    ·rw[decide_eq_false hs] at cR;obtain rfl:2=r:=by rw[<-hr.o,Sl.o,if_neg (oP.o hs)]
     clear hs;go_wp2_with (go_at_call 38;((with_reducible refine cR.mono ?_);rintro e w2 ⟨rfl,aQ⟩;have HB2:=hid aQ))
     exact t102
   ·obtain rfl:k=L.length:=by omega
    obtain rfl:0=r:=by rw[<-hr.o,Sl.o];have:=nK.o;rw[List.take_of_length_le (by rw[qQ.o];exact Nat.le_refl _)] at this;rw[if_pos this]
    go_wp2;go_ret;exact⟨rfl,HB.o⟩
end step
end Go.Proofs.Ytogfefdlffmioaa
