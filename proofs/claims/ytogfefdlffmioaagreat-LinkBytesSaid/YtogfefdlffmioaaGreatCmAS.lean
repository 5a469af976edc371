/- Contracts and lemmas that claims of this seat share: StepGreat, StepAll, StepTakeS, StepLS. Each says its own conditions. -/
import Derived.Test.YtogfefdlffmioaaGreatCmWord
import Derived.Test.YtogfefdlffmioaaGreatCmAL
import Derived.Test.YtogfefdlffmioaaGreatCmJ
import Derived.Test.YtogfefdlffmioaaGreatCmAP
import Derived.Test.YtogfefdlffmioaaGreatCmAB
import Derived.Test.YtogfefdlffmioaaGreatCmAE
import Derived.Test.YtogfefdlffmioaaGreatCmAR
set_option linter.unusedVariables false
namespace Go.Proofs.YtogfefdlffmioaaGreat
open Go.Proofs.Tryz
namespace step
open Go.RowKit
open field (Gives newB gives_from)
open schema (below_out take_succ_at)
structure StL (w:World) (a:Option Addr) (L:List St):Prop where
 row:Sts w a L
 each:∀p∈L,Lists w p.s p.ta p.la
theorem StL.below{w w':World}{a:Option Addr}{L:List St}(h:StL w a L)(hb:Below w.heap.size w w'):StL w' a L:=⟨h.row.below hb,fun p hp=>(h.each p hp).below hb⟩
theorem StL.nil(w:World):StL w none []:=⟨.inl rfl,by simp⟩
def sps(L:List St):List Sp:=L.map St.s
theorem sps_length(L:List St):(sps L).length=L.length:=List.length_map _
theorem sps_at{L:List St}{k:Nat}{p:St}(h:L[k]?=some p):(sps L)[k]?=some p.s:=by simp[sps,h]
theorem step_at{w w':World}{a:Option Addr}{L:List St}(h:StL w a L)(hb:Below w.heap.size w w'){k:Nat}(hk:k<L.length):
  ∃b off p,a=some ⟨b,off,none⟩/\b<w'.heap.size/\L[k]?=some p/\Lists w' p.s p.ta p.la/\(w'.cell? ⟨b,off+k*16,none⟩=some (.int .i64 p.s.op)/\w'.cell? ⟨b,off+k*16+1,none⟩=some (.int .i64 p.s.fm)/\w'.cell? ⟨b,off+k*16+2,none⟩=some (.int .i64 p.s.fd)/\w'.cell? ⟨b,off+k*16+3,none⟩=some (.int .i64 p.s.pl)/\w'.cell? ⟨b,off+k*16+4,none⟩=some (.int .i64 p.s.tt)/\w'.cell? ⟨b,off+k*16+5,none⟩=some (.int .i64 p.s.a)/\w'.cell? ⟨b,off+k*16+6,none⟩=some (.int .i64 p.s.b)/\w'.cell? ⟨b,off+k*16+7,none⟩=some (.int .i64 p.s.f.id)/\w'.cell? ⟨b,off+k*16+8,none⟩=some (.int .i64 p.s.f.kind)/\w'.cell? ⟨b,off+k*16+9,none⟩=some (.int .i64 p.s.f.lo)/\w'.cell? ⟨b,off+k*16+10,none⟩=some (.int .i64 p.s.f.hi)/\w'.cell? ⟨b,off+k*16+11,none⟩=some (.int .i64 p.s.f.most)/\w'.cell? ⟨b,off+k*16+12,none⟩=some (.int .i64 p.s.v.n)/\w'.cell? ⟨b,off+k*16+13,none⟩=some (.string p.s.v.s)/\w'.cell? ⟨b,off+k*16+14,none⟩=some (.slice p.ta p.s.t.length p.tc)/\w'.cell? ⟨b,off+k*16+15,none⟩=some (.slice p.la p.s.l.length p.lc)):=by
 have h':=h.below hb;rcases h'.row with rfl | ⟨b,off,ha,au,hc⟩
 ·simp at hk
 ·have hp:=List.getElem?_eq_getElem hk;have hx:=hc k _ hp;exact⟨b,off,_,ha,au,hp,h'.each _ (List.mem_of_getElem? hp),hx 0 _ rfl,hx 1 _ rfl,hx 2 _ rfl,hx 3 _ rfl,hx 4 _ rfl,hx 5 _ rfl,hx 6 _ rfl,hx 7 _ rfl,hx 8 _ rfl,hx 9 _ rfl,hx 10 _ rfl,hx 11 _ rfl,hx 12 _ rfl,hx 13 _ rfl,hx 14 _ rfl,hx 15 _ rfl⟩
theorem rights_succ{L:List Sp}{k:Nat}{s:Sp}(h:L[k]?=some s):Rights (L.take (k+1))↔Rights (L.take k)/\s.Right:=by
 rw[take_succ_at h];unfold Rights;constructor
 ·intro h;exact⟨fun q hq=>h q (by simp[hq]),h s si_⟩
 ·rintro⟨h1,h2⟩ q hq;rcases List.mem_append.1 hq with h | h
  ·exact h1 q h
  ·rw[List.mem_singleton.1 h];exact h2
theorem rights_no{L:List Sp}{k:Nat}{s:Sp}(h:L[k]?=some s)(hs:¬s.Right):¬Rights L:=fun e=>hs (e s (List.mem_of_getElem? h))
def Wide(s:Sp):Prop:=100<s.t.length\/40<s.l.length
instance (s:Sp):Decidable (Wide s):=by unfold Wide;infer_instance
def GreatL(L:List Sp):Prop:=(∃s∈L.take 61,Wide s)\/60<L.length
instance (L:List Sp):Decidable (GreatL L):=by unfold GreatL;infer_instance
theorem wide_succ{L:List Sp}{k:Nat}{s:Sp}(h:L[k]?=some s)(hn:∀q∈L.take k,¬Wide q)(hs:¬Wide s):∀q∈L.take (k+1),¬Wide q:=by
 rw[take_succ_at h];intro q hq;rcases List.mem_append.1 hq with h | h
 ·exact hn q h
 ·rw[List.mem_singleton.1 h];exact hs
theorem wide_yes{L:List Sp}{k:Nat}{s:Sp}(h:L[k]?=some s)(hk:k<61)(hs:Wide s):GreatL L:=
 .inl ⟨s,List.mem_of_getElem? ((List.getElem?_take_of_lt hk).trans h),hs⟩
set_option maxRecDepth 20000 in
theorem great_any(a:Option Addr)(c:Nat)(L:List St)(w:World)(h:StL w a L)(hL:L.length<=maxLen):Calls prog 12 #[.slice a L.length c] w (Gives (.bool (decide (GreatL (sps L)))) w):=by
 have hml:(L.length:Int)<=9223372036854775807:=by unfold maxLen at hL;omega
 obtain⟨r,hr⟩:∃r:Bool,Hid (decide (GreatL (sps L))=r):=⟨_,rfl⟩;rw[hr.o];unfold Gives;have HF:=hid h;have HLN:=hid (sps_length L);clear h hL;go_enter func12,ntmps12;go_wp2;go_loopw [3] (fun n wr=>∃k:Nat,k<=L.length/\k<=61/\n=.int .i64 (k:Int)/\Hid (∀q∈(sps L).take k,¬Wide q)/\Hid (Below w.heap.size w wr)) (fun n _=>L.length - (intOf n).toNat);case atStart=>exact⟨0,Nat.zero_le _,by omega,rfl,hid si_,hid (Below.refl _ _)⟩
 case round=>
  obtain⟨k,hk,qY,rfl,HOK,HB⟩:=hrel;by_cases au:k<L.length
  ·have i1:(k:Int)<L.length:=by omega
   by_cases h61:k<61
   ·have i2:(k:Int)<61:=by omega
    obtain⟨b,off,p,rfl,bQ,hp,eU,z0,z1,z2,z3,z4,z5,z6,z7,z8,z9,z10,z11,z12,z13,z14,z15⟩:=step_at HF.o HB.o au;have HSUC:=hid (wide_succ (sps_at hp) HOK.o);have HYES:=hid (wide_yes (sps_at hp) h61);obtain⟨s,ta,tc,la,lc⟩:=p;simp only at z14 z15 eU HSUC HYES;have m1:(s.t.length:Int)<=9223372036854775807:=by have:=eU.mt;unfold maxLen at this;omega
    have m2:(s.l.length:Int)<=9223372036854775807:=by have:=eU.ml;unfold maxLen at this;omega
    clear hp eU z0 z1 z2 z3 z4 z5 z6 z7 z8 z9 z10 z11 z12 z13;by_cases h1:100<s.t.length
    ·have hd:decide ((s.t.length:Int)>100)=true:=decide_eq_true om_;obtain rfl:true=r:=by rw[<-hr.o];exact(decide_eq_true (HYES.o (.inl h1))).symm
     clear h1;go_wp2;go_ret;exact⟨rfl,HB.o⟩
    ·have hd:decide ((s.t.length:Int)>100)=false:=decide_eq_false om_;by_cases h2:40<s.l.length
     ·have hd2:decide ((s.l.length:Int)>40)=true:=decide_eq_true om_;obtain rfl:true=r:=by rw[<-hr.o];exact(decide_eq_true (HYES.o (.inr h2))).symm
      clear h1 h2;go_wp2;go_ret;exact⟨rfl,HB.o⟩
     ·have hd2:decide ((s.l.length:Int)>40)=false:=decide_eq_false om_;have HW:Hid (¬Wide s):=hid (by unfold Wide;omega);clear h1 h2;go_wp2;exact⟨⟨k+1,by omega,by omega,by go_num,hid (HSUC.o HW.o),HB⟩,by simp[intOf];omega⟩
   ·obtain rfl:k=61:=by omega
    obtain rfl:true=r:=by rw[<-hr.o];exact(decide_eq_true (.inr (by rw[HLN.o];omega))).symm
    have hd:decide ((L.length:Int)>60)=true:=decide_eq_true om_;have j1:(60:Int)<L.length:=by omega
    go_wp2;go_ret;exact⟨rfl,HB.o⟩
  ·obtain rfl:k=L.length:=by omega
   have HQ:Hid (GreatL (sps L)↔60<L.length):=hid ⟨fun h=>by
     rcases h with ⟨s,hs,hw⟩ | h
     ·exfalso;have:=HOK.o;rw[List.take_of_length_le (by rw[HLN.o];exact Nat.le_refl _)] at this;exact this s (List.mem_of_mem_take hs) hw
     ·rw[HLN.o] at h;exact h,fun h=>.inr (by rw[HLN.o];exact h)⟩
   by_cases h60:60<L.length
   ·obtain rfl:true=r:=by rw[<-hr.o];exact(decide_eq_true (HQ.o.2 h60)).symm
    have hd:decide ((L.length:Int)>60)=true:=decide_eq_true om_;have j1:(60:Int)<L.length:=by omega
    clear h60;go_wp2;go_ret;exact⟨rfl,HB.o⟩
   ·obtain rfl:false=r:=by rw[<-hr.o];exact(decide_eq_false (fun e=>h60 (HQ.o.1 e))).symm
    have hd:decide ((L.length:Int)>60)=false:=decide_eq_false om_;have j1:¬(60:Int)<L.length:=by omega
    clear h60;go_wp2;go_ret;exact⟨rfl,HB.o⟩
end step
theorem t114{P:Prop}(h:P:=by
 go_ret;exact⟨rfl,HB.o.trans (HB2.o.mono HB.o.size)⟩):P:=h
theorem t38{P:Prop}(h:P:=by
 exact⟨⟨k+1,by omega,by go_num,hid (HSUC.o.2 ⟨HOK.o,HS.o⟩),hid (HB.o.trans (HB2.o.mono HB.o.size))⟩,by simp[intOf];omega⟩):P:=h
namespace step
open Go.RowKit
open field (Gives newB gives_from)
open schema (below_out take_succ_at)
set_option maxRecDepth 20000 in
theorem allRight_any(a:Option Addr)(c:Nat)(L:List St)(w:World)(h:StL w a L)(hL:L.length<=maxLen):Calls prog 54 #[.slice a L.length c] w (Gives (.bool (decide (Rights (sps L)))) w):=by
 have hml:(L.length:Int)<=9223372036854775807:=by unfold maxLen at hL;omega
 obtain⟨r,hr⟩:∃r:Bool,Hid (decide (Rights (sps L))=r):=⟨_,rfl⟩;rw[hr.o];unfold Gives;have HF:=hid h;have HLN:=hid (sps_length L);clear h hL;go_enter func54,ntmps54;go_wp2;go_loopw [7] (fun n wr=>∃k:Nat,k<=L.length/\n=.int .i64 (k:Int)/\Hid (Rights ((sps L).take k))/\Hid (Below w.heap.size w wr)) (fun n _=>L.length - (intOf n).toNat);case atStart=>exact⟨0,Nat.zero_le _,rfl,hid (by intro q hq;simp at hq),hid (Below.refl _ _)⟩
 case round=>
  obtain⟨k,hk,rfl,HOK,HB⟩:=hrel;by_cases au:k<L.length
  ·obtain⟨b,off,p,rfl,bQ,hp,eU,z0,z1,z2,z3,z4,z5,z6,z7,z8,z9,z10,z11,z12,z13,z14,z15⟩:=step_at HF.o HB.o au;have i1:(k:Int)<L.length:=by omega
   have HSUC:=hid (rights_succ (sps_at hp));have HNO:=hid (rights_no (sps_at hp));obtain⟨s,ta,tc,la,lc⟩:=p;simp only at z0 z1 z2 z3 z4 z5 z6 z7 z8 z9 z10 z11 z12 z13 z14 z15 eU HSUC HNO;have cR:=right_any s ta tc la lc (wr.alloc (.cells (zP s ta tc la lc) 84)) (eU.below (newB _ _));have HX:=hid (boxP s ta tc la lc wr);unfold Gives at cR;clear hp eU;by_cases hs:s.Right
   ·rw[decide_eq_true hs] at cR;have HS:=hid hs;clear hs;go_wp2_with (go_at_call 65;((with_reducible refine cR.mono ?_);rintro e w2 ⟨rfl,aj⟩;have HB2:=hid (below_out aj)))
    exact t38
   ·rw[decide_eq_false hs] at cR;obtain rfl:false=r:=by rw[<-hr.o];exact(decide_eq_false (HNO.o hs)).symm
    clear hs;go_wp2_with (go_at_call 65;((with_reducible refine cR.mono ?_);rintro e w2 ⟨rfl,aj⟩;have HB2:=hid (below_out aj)))
    exact t114
  ·obtain rfl:k=L.length:=by omega
   obtain rfl:true=r:=by rw[<-hr.o];have:=HOK.o;rw[List.take_of_length_le (by rw[HLN.o];exact Nat.le_refl _)] at this;exact(decide_eq_true this).symm
   go_wp2;go_ret;exact⟨rfl,HB.o⟩
set_option maxRecDepth 20000 in
theorem refRights_any(a:Option Addr)(c:Nat)(L:List St)(w:World)(h:StL w a L)(hL:L.length<=maxLen):Calls prog 20 #[.slice a L.length c] w (Gives (.int .i64 (rightsE (sps L):Int)) w):=by
 have hml:(L.length:Int)<=9223372036854775807:=by unfold maxLen at hL;omega
 obtain⟨r,hr⟩:∃r:Nat,Hid (rightsE (sps L)=r):=⟨_,rfl⟩;rw[hr.o];unfold Gives;have HF:=hid h;have HLN:=hid (sps_length L);clear h hL;by_cases jb:40<L.length
 ·obtain rfl:7=r:=by rw[<-hr.o];unfold rightsE;rw[if_pos (by rw[HLN.o];exact jb)]
  have hd:decide ((L.length:Int)>40)=true:=decide_eq_true om_;have j1:(40:Int)<L.length:=by omega
  go_enter func20,ntmps20
  exact t13
 ·have hd:decide ((L.length:Int)>40)=false:=decide_eq_false om_;have j1:¬(40:Int)<L.length:=by omega
  have HRE:Hid (rightsE (sps L)=if Rights (sps L) then 0 else 2):=hid (by unfold rightsE;rw[if_neg (by rw[HLN.o];exact jb)]);clear jb;go_enter func20,ntmps20;go_wp2;go_loopw [3] (fun n wr=>∃k:Nat,k<=L.length/\n=.int .i64 (k:Int)/\Hid (Rights ((sps L).take k))/\Hid (Below w.heap.size w wr)) (fun n _=>L.length - (intOf n).toNat);case atStart=>exact⟨0,Nat.zero_le _,rfl,hid (by intro q hq;simp at hq),hid (Below.refl _ _)⟩
  case round=>
   obtain⟨k,hk,rfl,HOK,HB⟩:=hrel;by_cases au:k<L.length
   ·obtain⟨b,off,p,rfl,bQ,hp,eU,z0,z1,z2,z3,z4,z5,z6,z7,z8,z9,z10,z11,z12,z13,z14,z15⟩:=step_at HF.o HB.o au;have i1:(k:Int)<L.length:=by omega
    have HSUC:=hid (rights_succ (sps_at hp));have HNO:=hid (rights_no (sps_at hp));obtain⟨s,ta,tc,la,lc⟩:=p;simp only at z0 z1 z2 z3 z4 z5 z6 z7 z8 z9 z10 z11 z12 z13 z14 z15 eU HSUC HNO;have cR:=refRight_any s ta tc la lc wr eU;unfold Gives at cR;clear hp eU;by_cases hs:s.Right
    ·rw[decide_eq_true hs] at cR;have HS:=hid hs;clear hs;go_wp2_with (go_at_call 44;((with_reducible refine cR.mono ?_);rintro e w2 ⟨rfl,aj⟩;have HB2:=hid aj))
     exact t38
    ·rw[decide_eq_false hs] at cR;obtain rfl:2=r:=by rw[<-hr.o,HRE.o,if_neg (HNO.o hs)]
     clear hs;go_wp2_with (go_at_call 44;((with_reducible refine cR.mono ?_);rintro e w2 ⟨rfl,aj⟩;have HB2:=hid aj))
     exact t114
   ·obtain rfl:k=L.length:=by omega
    obtain rfl:0=r:=by rw[<-hr.o,HRE.o];have:=HOK.o;rw[List.take_of_length_le (by rw[HLN.o];exact Nat.le_refl _)] at this;rw[if_pos this]
    go_wp2;go_ret;exact⟨rfl,HB.o⟩
end step
theorem t33{P:Prop}(h:P:=by
 go_wp2;obtain⟨k1,k2,k3,k4⟩:=takeS_end HS2.o HR2.o HB1.o au HSZ.o;exact bodyPost_ret (results_cell (b:=w.heap.size) (o:=0) rfl rfl k1.whole underlying84 rfl (st_info16 _ _ _ _ _ _ _ _ _ _ _ _ _ _ _ _)) rfl ⟨⟨s,ta,tc,la,lc⟩,rfl,by rw[HTT.o];exact hs.o.symm,k2,by rw[HTT.o];exact k3,k4⟩):P:=h
theorem t30{P:Prop}(h:P:=by
 exact⟨Nat.le_add_right _ _,Nat.le_add_right _ _⟩):P:=h
namespace step
open Go.RowKit pen
open field (newB)
open schema (eCount_le blk_but but_store eye_past own_low own_fds own_cap fdV take_succ_at)
theorem takeL_long{c:UInt8}(hc:Letter c)(s:Sp)(e:Sight):(takeL c s e).1.t.length<=s.t.length+64/\(takeL c s e).1.l.length<=s.l.length+64:=by
 rcases hc with rfl | rfl | rfl | rfl | rfl | rfl | rfl | rfl | rfl | rfl
 ·exact t30
 ·exact t30
 ·exact t30
 ·exact t30
 ·exact t30
 ·exact t30
 ·exact t30
 ·exact t30
 ·refine⟨?_,Nat.le_add_right _ _⟩;show(s.t++(takeNs (eCount 64 e).1 (eCount 64 e).2).1).length<=_
  rw[List.length_append,takeNs_len];have:=eCount_le 64 e;have h2:(eCount 64 e).1<=64:=this;omega
 ·refine⟨Nat.le_add_right _ _, ?_⟩;show(s.l++(takeAs (eCount 8 e).1 (eCount 8 e).2).1).length<=_
  rw[List.length_append,takeAs_len];have:=eCount_le 8 e;have h2:(eCount 8 e).1<=8:=this;omega
theorem run_long:∀(cs:List UInt8) (s:Sp) (e:Sight),(∀c∈cs,Letter c)->(run cs (s,e)).1.t.length<=s.t.length+64*cs.length/\(run cs (s,e)).1.l.length<=s.l.length+64*cs.length
 | [],s,e,_=>⟨Nat.le_refl _,Nat.le_refl _⟩
 | c :: cs,s,e,h=>by
  have h1:=takeL_long (h c si_) s e;have h2:=run_long cs (takeL c s e).1 (takeL c s e).2 (fun d hd=>h d (by simp[hd]));have h3:run (c :: cs) (s,e)=run cs ((takeL c s e).1,(takeL c s e).2):=rfl;rw[h3];simp only[List.length_cons];omega
def runK(op:Int)(e:Sight)(k:Nat):Sp×Sight:=run (((mem op).take k).map lets).flatten (startS op,e)
theorem runK_succ{op:Int}{e:Sight}{k m:Nat}(h:(mem op)[k]?=some m):runK op e (k+1)=run (lets m) ((runK op e k).1,(runK op e k).2):=by
 unfold runK;rw[take_succ_at h,List.map_append,List.flatten_append,run_app];simp
theorem runK_all(op:Int)(e:Sight):runK op e (mem op).length=run (uses op) (startS op,e):=by
 unfold runK;rw[List.take_of_length_le (Nat.le_refl _),<-uses_mem]
theorem lets_letter:∀m,m<12->∀c∈lets m,Letter c:=by decide
theorem runK_long(op:Int)(e:Sight)(k:Nat):(runK op e k).1.t.length<=900/\(runK op e k).1.l.length<=900:=by
 have hL:∀c∈(((mem op).take k).map lets).flatten,Letter c:=by
  intro c hc;obtain⟨l,hl,hcl⟩:=List.mem_flatten.1 hc;obtain⟨m,hm,rfl⟩:=List.mem_map.1 hl;exact lets_letter m (mem_lt op m (List.mem_of_mem_take hm)) c hcl
 have h1:=run_long _ (startS op) e hL;have h2:((((mem op).take k).map lets).flatten).length<=2*((mem op).take k).length:=by
  have h0:∀M:List Nat,(∀m∈M,m<12)->((M.map lets).flatten).length<=2*M.length:=by
   intro M;induction M with
   | nil=>intro _;simp
   | cons m M ih=>
    intro h;have h3:∀m,m<12->(lets m).length<=2:=by decide
    have h4:=h3 m (h m si_);have h5:=ih (fun q hq=>h q (by simp[hq]));simp only[List.map_cons,List.flatten_cons,List.length_append,List.length_cons];omega
  exact h0 _ (fun m hm=>mem_lt op m (List.mem_of_mem_take hm))
 have h3:((mem op).take k).length<=5:=by have:=mem_len op;simp;omega
 have h4:(startS op).t.length=0:=rfl;have h5:(startS op).l.length=0:=rfl;unfold runK;omega
theorem MRow.stayM{w w':World}{a:Option Addr}{op:Int}(h:MRow w a op)(hs:StayM w w'):MRow w' a op:=by
 rcases h with h | ⟨q,rfl,hB⟩
 ·exact .inl h
 ·exact .inr ⟨q,rfl,hs.block hB⟩
theorem past_setCells{S:Nat}(Q:World->Prop)(hq:∀w o v,Q w->Q (w.setCell ⟨S,o,none⟩ v)):∀(vs:List Value) (o:Nat) (w:World),Q w->Q (w.setCells S o vs)
 | [],_,_,h=>h
 | v :: vs,o,w,h=>past_setCells Q hq vs (o+1) _ (hq w o v h)
theorem OwnS.past{B S:Nat}{w:World}{p:St}(h:OwnS B w p)(hS:S<B)(o:Nat)(vs:List Value):OwnS B (w.setCells S o vs) p:=
 past_setCells (fun w=>OwnS B w p) (fun w o v h=>⟨own_past h.1 hS,own_past h.2 hS⟩) vs o w h
theorem eye_setCells{Ty:TypeId}{b S:Nat}{e:Sight}{w:World}(h:EyeAt Ty b e w)(hS:b<S)(o:Nat)(vs:List Value):EyeAt Ty b e (w.setCells S o vs):=
 past_setCells (fun w=>EyeAt Ty b e w) (fun w o v h=>eye_past h hS ((But.refl _ S w).setCell o v)) vs o w h
theorem but_setCells{B b S:Nat}{a w:World}(h:But B b a w)(hS:B<=S)(o:Nat)(vs:List Value):But B b a (w.setCells S o vs):=
 past_setCells (fun w=>But B b a w) (fun w o v h=>but_store h hS o v) vs o w h
theorem st_info16(v0 v1 v2 v3 v4 v5 v6 v7 v8 v9 v10 v11 v12 v13 v14 v15:Value):(prog.info? 84).map (·.size)=some [v0,v1,v2,v3,v4,v5,v6,v7,v8,v9,v10,v11,v12,v13,v14,v15].length:=by kernel_rfl
def TakesS(b:Nat)(e:Sight)(Ty:TypeId)(w:World)(en:Ending)(w':World):Prop:=
 ∃p:St,en=.returned p.val/\p.s=(takeS e).1/\OwnS w.heap.size w' p/\EyeAt Ty b (takeS e).2 w'/\But w.heap.size b w w'
theorem takeS_end{Ty:TypeId}{b T:Nat}{w w1 wr:World}{s:Sp}{e:Sight}{ta la:Option Addr}{tc lc:Nat}(h:TS Ty b T w1 s e ta tc la lc wr)(hR:Block wr w.heap.size 84 Z16)(ak:But w.heap.size b w w1)(au:b<w.heap.size)(hRT:w.heap.size<T):
  Block (wr.setCells w.heap.size 0 (zP s ta tc la lc)) w.heap.size 84 (zP s ta tc la lc)/\OwnS w.heap.size (wr.setCells w.heap.size 0 (zP s ta tc la lc)) ⟨s,ta,tc,la,lc⟩/\EyeAt Ty b e (wr.setCells w.heap.size 0 (zP s ta tc la lc))/\But w.heap.size b w (wr.setCells w.heap.size 0 (zP s ta tc la lc)):=
 ⟨hR.setCells,((show OwnS (T+1) wr ⟨s,ta,tc,la,lc⟩ from ⟨h.rt,h.rl⟩).past om_ 0 _).low om_,eye_setCells h.eye au 0 _,but_setCells (ak.trans (h.but.mono (Nat.le_of_lt hRT))) (Nat.le_refl _) 0 _⟩
set_option maxRecDepth 20000 in
set_option maxHeartbeats 3200000 in
theorem parseStep_any(b:Nat)(e:Sight)(w:World)(h:EyeAt 123 b e w):Calls prog 53 #[.pointer (some ⟨b,0,none⟩)] w (TakesS b e 123 w):=by
 obtain⟨A,e1,hA⟩:∃A q,eCount 30 e=(A,q):=⟨_,_,rfl⟩;have hT:takeS e=runK (A:Int) e1 (mem (A:Int)).length:=by rw[runK_all];unfold takeS;rw[hA]
 have au:=h.lt;have bT:=newB w (.cells zZ 84);have c1:=eyeCount_any b e _ (h.later bT) 30 om_ om_;rw[hA] at c1;have HR0:=hid (Block.new w 84 Z16);have HB0:=hid bT;have aH:w.heap.size≠b:=by omega
 have cM:=fun w'=>members_any (A:Int) w'
 have HTT:=hid hT;unfold TakesS;clear hT hA h bT;unfold Saw at c1;unfold Members at cM;go_enter func53,ntmps53;go_wp2_with (first
  | (go_at_call 49;((with_reducible refine c1.mono ?_);clear c1;rintro en w1 ⟨rfl,hE1,hu1⟩;have HR1:=hid (blk_but HR0.o hu1 aH);have HTS:=hid (TS.start hE1 (A:Int));have HU1:=hid hu1;clear hE1 hu1))
  | (go_at_call 67;((with_reducible refine(cM _).mono ?_);rintro en w2 ⟨aM,cMx,rfl,hM,aj⟩;have HTS2:=hid (HTS.o.later aj);have HM:=hid hM;clear hM aj)))
 clear cM;have HB1:=hid ((Below.but HB0.o).trans (HU1.o.mono HB0.o.size));have HSZ:=hid (show w.heap.size<w1.heap.size from HR1.o.lt);obtain⟨T,hTe⟩:∃T,Hid (w1.heap.size=T):=⟨_,hid rfl⟩;rw[hTe.o] at HTS2 HSZ ⊢;obtain⟨N,hN⟩:∃N:Nat,Hid ((mem (A:Int)).length=N):=⟨_,hid rfl⟩;have hN5:N<=5:=by rw[<-hN.o];exact mem_len _
 rw[hN.o] at HTT ⊢;go_loopw [13] (fun m wr=>∃k:Nat,k<=N/\m=.int .i64 (k:Int)/\Hid (∃ta tc la lc,TS 123 b T w1 (runK (A:Int) e1 k).1 (runK (A:Int) e1 k).2 ta tc la lc wr)/\Hid (MRow wr aM (A:Int))) (fun m _=>N - (intOf m).toNat);case atStart=>exact⟨0,Nat.zero_le _,rfl,hid ⟨_,_,_,_,HTS2.o⟩,HM⟩
 case round=>
  obtain⟨k,hk,rfl,HS,HMK⟩:=hrel;obtain⟨ta,tc,la,lc,hS⟩:=HS.o;by_cases hltk:k<N
  ·obtain⟨b2,off2,m,rfl,jq,hm,hm12,e0⟩:=memI_cell HMK.o.ins (Below.refl _ _) (k:=k) (by rw[hN.o];exact hltk);have i1:(k:Int)<N:=by omega
   have HSUC:=hid (runK_succ (e:=e1) hm);have jJ:=runK_long (A:Int) e1 k;have cP:=parseMember_any m hm12 _ jJ.1 jJ.2 hS;unfold TakesM at cP;clear hm jJ hS HS;go_wp2_with (go_at_call 85;((with_reducible refine cP.mono ?_);clear cP;rintro en w3 ⟨rfl,hT3,hK3⟩;have HT3:=hid hT3;have HK3:=hid hK3;clear hT3 hK3));exact⟨⟨k+1,by omega,by go_num,hid (by rw[HSUC.o];exact HT3.o),hid (HMK.o.stayM HK3.o)⟩,by simp[intOf];omega⟩
  ·obtain rfl:k=N:=by omega
   have HR2:=hid (HR1.o.but hS.but HSZ.o aH);obtain⟨s,hs⟩:∃s,Hid ((runK (A:Int) e1 k).1=s):=⟨_,hid rfl⟩;rw[hs.o] at hS;have HS2:=hid hS;have hR2:=HR2.o;have hf:=hS.f;have x0:=hR2.cell 0;have p0:=hR2.frozen 0;have y0:=hf.cell 0;have x1:=hR2.cell 1;have p1:=hR2.frozen 1;have y1:=hf.cell 1;have x2:=hR2.cell 2;have p2:=hR2.frozen 2;have y2:=hf.cell 2;have x3:=hR2.cell 3;have p3:=hR2.frozen 3;have y3:=hf.cell 3;have x4:=hR2.cell 4;have p4:=hR2.frozen 4;have y4:=hf.cell 4;have x5:=hR2.cell 5;have p5:=hR2.frozen 5;have y5:=hf.cell 5;have x6:=hR2.cell 6;have p6:=hR2.frozen 6;have y6:=hf.cell 6;have x7:=hR2.cell 7;have p7:=hR2.frozen 7;have y7:=hf.cell 7;have x8:=hR2.cell 8;have p8:=hR2.frozen 8;have y8:=hf.cell 8;have x9:=hR2.cell 9;have p9:=hR2.frozen 9;have y9:=hf.cell 9;have x10:=hR2.cell 10;have p10:=hR2.frozen 10;have y10:=hf.cell 10;have x11:=hR2.cell 11;have p11:=hR2.frozen 11;have y11:=hf.cell 11;have x12:=hR2.cell 12;have p12:=hR2.frozen 12;have y12:=hf.cell 12;have x13:=hR2.cell 13;have p13:=hR2.frozen 13;have y13:=hf.cell 13;have x14:=hR2.cell 14;have p14:=hR2.frozen 14;have y14:=hf.cell 14;have x15:=hR2.cell 15;have p15:=hR2.frozen 15;have y15:=hf.cell 15;clear hS HS hR2 hf
   exact t33
end step
namespace step
open Go.RowKit pen
open field (newB)
open schema (StayT stay_grown own_low own_cap exec_push eye_grown but_grown)
structure LS (Ty:TypeId) (b B:Nat) (w0:World) (P:List St) (e:Sight) (ua:Option Addr) (uc:Nat) (wr:World):Prop where
 row:wr.ownsRow B 84 16 (.slice ua P.length uc) P.length (stV P)
 each:∀p∈P,OwnS B wr p
 eye:EyeAt Ty b e wr
 but:But B b w0 wr
 low:b<B
 size:B<=wr.heap.size
variable {Ty:TypeId} {b B:Nat} {w0:World} {P:List St} {e:Sight} {ua:Option Addr} {uc:Nat}
theorem OwnS.but{w w':World}{p:St}(h:OwnS B w p)(hu:But w.heap.size b w w')(hb:b<B):OwnS B w' p:=⟨own_but h.1 hu hb,own_but h.2 hu hb⟩
theorem LS.later{w w':World}(h:LS Ty b B w0 P e ua uc w)(hb:Below w.heap.size w w'):LS Ty b B w0 P e ua uc w':=
 ⟨ownsRow_later h.row hb,fun p hp=>(h.each p hp).later hb,h.eye.later hb,h.but.trans ((Below.but hb).mono h.size),h.low,Nat.le_trans h.size hb.size⟩
theorem LS.call{w w':World}{e':Sight}(h:LS Ty b B w0 P e ua uc w)(hE:EyeAt Ty b e' w')(hu:But w.heap.size b w w'):LS Ty b B w0 P e' ua uc w':=
 ⟨own_but h.row hu h.low,fun p hp=>(h.each p hp).but hu h.low,hE,h.but.trans (hu.mono h.size),h.low,Nat.le_trans h.size hu.2.2.2.1⟩
theorem LS.push{w w':World}{p:St}{q:Option Addr}{qc:Nat}(h:LS Ty b B w0 P e ua uc w)(hp:OwnS B w p)(hg:w.grownBy w' (Value.slice ua P.length uc).ownBlock)(ho:w'.ownsRow B 84 16 (.slice q (P.length+1) qc) (P.length+1) (stV (P++[p]))):
  LS Ty b B w0 (P++[p]) e q qc w':=by
 have hs1:=stay_grown 3 h.row hg st_int;have hs2:=stay_grown 79 h.row hg st_fd;have lU:(P++[p]).length=P.length+1:=by simp
 refine⟨by rw[lU];exact ho,fun r hr=> ?_,eye_grown h.eye h.row hg h.low,but_grown h.but h.row hg h.size,h.low,Nat.le_trans h.size hg.size⟩;rcases List.mem_append.1 hr with h1 | h1
 ·exact⟨hs1.row (h.each r h1).1,hs2.row (h.each r h1).2⟩
 ·rw[List.mem_singleton.1 h1];exact⟨hs1.row hp.1,hs2.row hp.2⟩
theorem LS.start{w:World}(hE:EyeAt Ty b e w):LS Ty b w.heap.size w [] e none 0 w:=
 ⟨World.ownsRow_nil _ _ _ _,by simp,hE,But.refl _ _ _,hE.lt,Nat.le_refl _⟩
theorem LS.list{w:World}(h:LS Ty b B w0 P e ua uc w):StL w ua P:=⟨own_sts h.row,fun p hp=>(h.each p hp).lists⟩
theorem LS.upon{w:World}{B':Nat}(h:LS Ty b B w0 P e ua uc w)(hB:B'<=B):Upon B' w (fun v=>StL v ua P):=fun v h1 h2=>by
 have hw:∀ {e sz n:Nat} {u:Value} {xs:List Value},w.ownsRow B e sz u n xs->v.ownsRow B e sz u n xs:=fun ho=>ownsRow_heap ho fun g hg=>by have:=World.ownsRow.lt ho g hg;exact h2 g om_ this.2
 exact⟨own_sts (hw h.row),fun p hp=>OwnS.lists ⟨hw (h.each p hp).1,hw (h.each p hp).2⟩⟩
def ParsedAs(xs:List Nat)(w:World)(en:Ending)(w':World):Prop:=
 ∃(a:Option Addr) (c:Nat) (P:List St),en=.returned (.tuple #[.slice a P.length c,.int .i64 ((parsed xs).2:Int)])/\sps P=(parsed xs).1/\Upon w.heap.size w' (fun v=>StL v a P)/\P.length<=40/\Below w.heap.size w w'
theorem parse_none{xs:List Nat}{w w5:World}{E:Nat}(h:parsed xs=([],E))(hb:Below w.heap.size w w5):ParsedAs xs w (.returned (.tuple #[.slice none 0 0,.int .i64 (E:Int)])) w5:=by
 unfold ParsedAs;rw[h];exact⟨none,0,[],rfl,rfl,fun v _ _=>StL.nil v,by simp,hb⟩
end step
end Go.Proofs.YtogfefdlffmioaaGreat
