/- Contracts and lemmas that claims of this seat share: StepRefRight, StepRightB, StepGreat. Each says its own conditions. -/
import Derived.Test.YtogkgbnpodojjaaGreatCmWord
import Derived.Test.YtogkgbnpodojjaaGreatCmL
import Derived.Test.YtogkgbnpodojjaaGreatCmAA
import Derived.Test.YtogkgbnpodojjaaGreatCmV
import Derived.Test.YtogkgbnpodojjaaGreatCmAD
set_option linter.unusedSimpArgs false
set_option linter.unusedVariables false
namespace Go.Proofs.YtogkgbnpodojjaaGreat
open Go.Proofs.Tryz
namespace step
open Go.RowKit
open field (Gives ak aj)
open schema (aP dM ax bI aB dI)
end step
namespace step
open Go.RowKit
open field (Gives)
end step
namespace step
open Go.RowKit
open field (Gives ak aj)
open schema (aP aH)
structure StL (w:World) (a:Option Addr) (L:List St):Prop where
 row:Sts w a L
 each:∀p∈L,Lists w p.s p.ta p.la
theorem StL.below {w w':World} {a:Option Addr} {L:List St} (h:StL w a L) (hb:Below w.heap.size w w'):StL w' a L:=⟨h.row.below hb,fun p hp=>(h.each p hp).below hb⟩
theorem StL.nil (w:World):StL w none []:=⟨.inl rfl,by simp⟩
def sps (L:List St):List Sp:=L.map St.s
theorem CO (L:List St):(sps L).length=L.length:=List.length_map _
theorem Hu {L:List St} {k:Nat} {p:St} (h:L[k]?=some p):(sps L)[k]?=some p.s:=by simp [sps,h]
theorem mr {w w':World} {a:Option Addr} {L:List St} (h:StL w a L) (hb:Below w.heap.size w w') {k:Nat} (hk:k<L.length):
  ∃b off p,a=some ⟨b,off,none⟩/\b<w'.heap.size/\L[k]?=some p/\Lists w' p.s p.ta p.la/\(w'.cell? ⟨b,off+k*16,none⟩=some (.int .i64 p.s.op)/\w'.cell? ⟨b,off+k*16+1,none⟩=some (.int .i64 p.s.fm)/\w'.cell? ⟨b,off+k*16+2,none⟩=some (.int .i64 p.s.fd)/\w'.cell? ⟨b,off+k*16+3,none⟩=some (.int .i64 p.s.pl)/\w'.cell? ⟨b,off+k*16+4,none⟩=some (.int .i64 p.s.tt)/\w'.cell? ⟨b,off+k*16+5,none⟩=some (.int .i64 p.s.a)/\w'.cell? ⟨b,off+k*16+6,none⟩=some (.int .i64 p.s.b)/\w'.cell? ⟨b,off+k*16+7,none⟩=some (.int .i64 p.s.f.id)/\w'.cell? ⟨b,off+k*16+8,none⟩=some (.int .i64 p.s.f.kind)/\w'.cell? ⟨b,off+k*16+9,none⟩=some (.int .i64 p.s.f.lo)/\w'.cell? ⟨b,off+k*16+10,none⟩=some (.int .i64 p.s.f.hi)/\w'.cell? ⟨b,off+k*16+11,none⟩=some (.int .i64 p.s.f.most)/\w'.cell? ⟨b,off+k*16+12,none⟩=some (.int .i64 p.s.v.n)/\w'.cell? ⟨b,off+k*16+13,none⟩=some (.string p.s.v.s)/\w'.cell? ⟨b,off+k*16+14,none⟩=some (.slice p.ta p.s.t.length p.tc)/\w'.cell? ⟨b,off+k*16+15,none⟩=some (.slice p.la p.s.l.length p.lc)):=by
 have h':=h.below hb;rcases h'.row with rfl | ⟨b,off,ha,hlt,hc⟩
 ·simp at hk
 ·have hp:=List.getElem?_eq_getElem hk;have hx:=hc k _ hp;exact ⟨b,off,_,ha,hlt,hp,h'.each _ (List.mem_of_getElem? hp),hx 0 _ rfl,hx 1 _ rfl,hx 2 _ rfl,hx 3 _ rfl,hx 4 _ rfl,hx 5 _ rfl,hx 6 _ rfl,hx 7 _ rfl,hx 8 _ rfl,hx 9 _ rfl,hx 10 _ rfl,hx 11 _ rfl,hx 12 _ rfl,hx 13 _ rfl,hx 14 _ rfl,hx 15 _ rfl⟩
def sJ (s:Sp):Prop:=100<s.t.length\/40<s.l.length
instance (s:Sp):Decidable (sJ s):=by unfold sJ;infer_instance
def jA (L:List Sp):Prop:=(∃s∈L.take 61,sJ s)\/60<L.length
instance (L:List Sp):Decidable (jA L):=by unfold jA;infer_instance
theorem nV {L:List Sp} (h:¬jA L):L.length<=60/\∀s∈L,s.t.length<=100/\s.l.length<=40:=by
 have h1:L.length<=60:=by
  have:¬60<L.length:=fun e=>h (.inr e)
  omega
 refine ⟨h1,fun s hs=> ?_⟩;have:¬sJ s:=fun e=>h (.inl ⟨s,by rw [List.take_of_length_le om_];exact hs,e⟩)
 unfold sJ at this;omega
theorem Fg {L:List Sp} {k:Nat} {s:Sp} (h:L[k]?=some s) (hn:∀q∈L.take k,¬sJ q) (hs:¬sJ s):∀q∈L.take (k+1),¬sJ q:=by
 rw [aH h];intro q hq;rcases List.mem_append.1 hq with h | h
 ·exact hn q h
 ·rw [List.mem_singleton.1 h];exact hs
theorem Ik {L:List Sp} {k:Nat} {s:Sp} (h:L[k]?=some s) (hk:k<61) (hs:sJ s):jA L:=
 .inl ⟨s,List.mem_of_getElem? ((List.getElem?_take_of_lt hk).trans h),hs⟩
set_option maxRecDepth 20000 in
theorem qP (a:Option Addr) (c:Nat) (L:List St) (w:World) (h:StL w a L) (hL:L.length<=maxLen):Calls prog 19 #[.slice a L.length c] w (Gives (.bool (decide (jA (sps L)))) w):=by
 have hml:(L.length:Int)<=9223372036854775807:=by unfold maxLen at hL;omega
 obtain ⟨r,hr⟩:∃r:Bool,Hid (decide (jA (sps L))=r):=⟨_,rfl⟩;rw [hr.o];unfold Gives;have HF:=hid h;have HLN:=hid (CO L);clear h hL;go_enter func19,ntmps19;go_wp2;go_loopw [3] (fun n wr=>∃k:Nat,k<=L.length/\k<=61/\n=.int .i64 (k:Int)/\Hid (∀q∈(sps L).take k,¬sJ q)/\Hid (Below w.heap.size w wr)) (fun n _=>L.length - (intOf n).toNat);case atStart=>exact ⟨0,Nat.zero_le _,by omega,rfl,hid si_,hid (Below.refl _ _)⟩
 case round=>
  obtain ⟨k,hk,hk61,rfl,HOK,HB⟩:=hrel;by_cases hlt:k<L.length
  ·have i1:(k:Int)<L.length:=by omega
   by_cases h61:k<61
   ·have i2:(k:Int)<61:=by omega
    obtain ⟨b,off,p,rfl,hbl,hp,hls,z0,z1,z2,z3,z4,z5,z6,z7,z8,z9,z10,z11,z12,z13,z14,z15⟩:=mr HF.o HB.o hlt;have HSUC:=hid (Fg (Hu hp) HOK.o);have HYES:=hid (Ik (Hu hp) h61);obtain ⟨s,ta,tc,la,lc⟩:=p;simp only at z14 z15 hls HSUC HYES;have m1:(s.t.length:Int)<=9223372036854775807:=by have:=hls.mt;unfold maxLen at this;omega
    have m2:(s.l.length:Int)<=9223372036854775807:=by have:=hls.ml;unfold maxLen at this;omega
    clear hp hls z0 z1 z2 z3 z4 z5 z6 z7 z8 z9 z10 z11 z12 z13;by_cases h1:100<s.t.length
    ·have hd:decide ((s.t.length:Int)>100)=true:=decide_eq_true om_;obtain rfl:true=r:=by rw [<-hr.o];exact (decide_eq_true (HYES.o (.inl h1))).symm
     clear h1;go_wp2;go_ret;exact ⟨rfl,HB.o⟩
    ·have hd:decide ((s.t.length:Int)>100)=false:=decide_eq_false om_;by_cases h2:40<s.l.length
     ·have hd2:decide ((s.l.length:Int)>40)=true:=decide_eq_true om_;obtain rfl:true=r:=by rw [<-hr.o];exact (decide_eq_true (HYES.o (.inr h2))).symm
      clear h1 h2;go_wp2;go_ret;exact ⟨rfl,HB.o⟩
     ·have hd2:decide ((s.l.length:Int)>40)=false:=decide_eq_false om_;have HW:Hid (¬sJ s):=hid (by unfold sJ;omega);clear h1 h2;go_wp2;exact ⟨⟨k+1,by omega,by omega,by go_num,hid (HSUC.o HW.o),HB⟩,by simp [intOf];omega⟩
   ·obtain rfl:k=61:=by omega
    obtain rfl:true=r:=by rw [<-hr.o];exact (decide_eq_true (.inr (by rw [HLN.o];omega))).symm
    have hd:decide ((L.length:Int)>60)=true:=decide_eq_true om_;have j1:(60:Int)<L.length:=by omega
    go_wp2;go_ret;exact ⟨rfl,HB.o⟩
  ·obtain rfl:k=L.length:=by omega
   have HQ:Hid (jA (sps L)↔60<L.length):=hid ⟨fun h=>by
     rcases h with ⟨s,hs,hw⟩ | h
     ·exfalso;have:=HOK.o;rw [List.take_of_length_le (by rw [HLN.o];exact Nat.le_refl _)] at this;exact this s (List.mem_of_mem_take hs) hw
     ·rw [HLN.o] at h;exact h,fun h=>.inr (by rw [HLN.o];exact h)⟩
   by_cases h60:60<L.length
   ·obtain rfl:true=r:=by rw [<-hr.o];exact (decide_eq_true (HQ.o.2 h60)).symm
    have hd:decide ((L.length:Int)>60)=true:=decide_eq_true om_;have j1:(60:Int)<L.length:=by omega
    clear h60;go_wp2;go_ret;exact ⟨rfl,HB.o⟩
   ·obtain rfl:false=r:=by rw [<-hr.o];exact (decide_eq_false (fun e=>h60 (HQ.o.1 e))).symm
    have hd:decide ((L.length:Int)>60)=false:=decide_eq_false om_;have j1:¬(60:Int)<L.length:=by omega
    clear h60;go_wp2;go_ret;exact ⟨rfl,HB.o⟩
end step
end Go.Proofs.YtogkgbnpodojjaaGreat
