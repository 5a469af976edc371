/- Contracts and lemmas that claims of this seat share: StepRefTable. Each says its own conditions. -/
import Derived.Test.YtogfefdlffmioaaGreatCmWord
import Derived.Test.YtogfefdlffmioaaGreatCmS
set_option linter.unusedVariables false
namespace Go.Proofs.YtogfefdlffmioaaGreat
open Go.Proofs.Tryz
namespace step
open Go.RowKit
open field (Gives newB gives_from)
open schema (take_succ_at below_out)
theorem not_take{L:List Int}{k:Nat}{x q:Int}(h:L[k]?=some q)(hn:x∉L.take k)(hq:¬q=x):x∉L.take (k+1):=by
 rw[take_succ_at h];intro hm;rcases List.mem_append.1 hm with h1 | h1
 ·exact hn h1
 ·exact hq (List.mem_singleton.1 h1).symm
theorem mem_take{L:List Int}{j k:Nat}{q:Int}(h:L[j]?=some q)(hj:j<k):q∈L.take k:=by
 have:=(List.getElem?_take_of_lt (l:=L) hj).trans h;exact List.mem_of_getElem? this
theorem int_cell{w w':World}{b off k:Nat}{p:Int}{L:List Int}(h:Ins w (some ⟨b,off,none⟩) L)(hb:Below w.heap.size w w')(hp:L[k]?=some p):w'.cell? ⟨b,off+k,none⟩=some (.int .i64 p):=by
 rcases h.below hb with rfl | ⟨b',off',he,au,hc⟩
 ·simp at hp
 ·injection he with e
  injection e with e1 e2
  subst e1 e2;exact hc k p hp
theorem int_block{w w':World}{b off k:Nat}{p:Int}{L:List Int}(h:Ins w (some ⟨b,off,none⟩) L)(hb:Below w.heap.size w w')(hp:L[k]?=some p):b<w'.heap.size:=by
 rcases h.below hb with rfl | ⟨b',off',he,au,hc⟩
 ·simp at hp
 ·injection he with e
  injection e with e1 e2
  subst e1 e2;exact au
set_option maxRecDepth 20000 in
theorem refTable_any(a:Option Addr)(cap:Nat)(L:List Int)(lim:Int)(h1:1<=lim)(h2:lim<=1000)(w:World)(h:Ins w a L)(hL:L.length<=maxLen):
  Calls prog 98 #[.slice a L.length cap,.int .i64 lim] w (Gives (.bool (decide (Table L lim))) w):=by
 have hml:(L.length:Int)<=9223372036854775807:=by unfold maxLen at hL;omega
 obtain⟨v,hv⟩:∃v:Bool,Hid (decide (Table L lim)=v):=⟨_,rfl⟩;rw[hv.o];have cV:=fun n (w':World)=>between_any n 0 (lim - 1) w'
 unfold Gives at cV ⊢;have HF:=hid h;clear h hL;go_enter func98,ntmps98;go_wp2;go_loopw [5] (fun n wr=>∃k:Nat,k<=L.length/\n=.int .i64 (k:Int)/\Hid (TabOk lim (L.take k))/\Hid (Below w.heap.size w wr)) (fun n _=>L.length - (intOf n).toNat);case atStart=>exact⟨0,Nat.zero_le _,rfl,hid ⟨by simp,by simp⟩,hid (Below.refl _ _)⟩
 case round=>
  obtain⟨k,hk,rfl,HOK,HB⟩:=hrel;by_cases au:k<L.length
  ·obtain⟨b,off,p,rfl,bQ,hp,c0⟩:=int_at HF.o HB.o au;have i1:(k:Int)<L.length:=by omega
   have HP:=hid hp;have HNO:=hid (tab_no (lim:=lim) hp);have HSUC:=hid (tab_succ (lim:=lim) hp);have cs:=fun w'=>cV p w'
   clear hp;by_cases hr:0<=p/\p<=lim - 1
   ·rw[decide_eq_true hr] at cs;have HR:=hid hr;clear hr;go_wp2_with (go_at_call 74;((with_reducible refine(cs _).mono ?_);rintro e w3 ⟨rfl,aK⟩;have HB3:=hid (HB.o.trans (aK.mono HB.o.size));clear aK));clear c0 bQ;go_loopw [6] (fun n wr=>∃j:Nat,j<=k/\n=.int .i64 (j:Int)/\Hid (p∉L.take j)/\Hid (Below w.heap.size w wr)) (fun n _=>k - (intOf n).toNat);case atStart=>exact⟨0,Nat.zero_le _,rfl,hid si_,HB3⟩
    case round=>
     obtain⟨j,hj,rfl,HNI,HB4⟩:=hrel;by_cases hlt2:j<k
     ·have hq0:=List.getElem?_eq_getElem (show j<L.length by omega);generalize L[j]'(show j<L.length by omega)=q at hq0;have d0:=int_cell HF.o HB4.o hq0;have c1:=int_cell HF.o HB4.o HP.o;have bQ:=int_block HF.o HB4.o hq0;have i2:(j:Int)<k:=by omega
      have i3:(j:Int)<L.length:=by omega
      have hq:=hq0;clear hq0;have HQ:=hid hq;clear hq;by_cases aS:q=p
      ·obtain rfl:false=v:=by
        rw[<-hv.o];exact(decide_eq_false (fun h=>(HSUC.o.1 (tab_take h.2 _)).2.2 (by rw[<-aS];exact mem_take HQ.o hlt2))).symm
       subst aS
       go_wp2
       go_quiet (fail)
       go_wp2
       go_ret
       exact⟨rfl,below_drewN HB4.o _⟩
      ·have hd:(q == p)=false:=by rw[beq_eq_false_iff_ne];exact aS
       have HPQ:=hid aS;clear aS;go_wp2;go_quiet (fail);go_wp2;exact⟨⟨j+1,by omega,by go_num,hid (not_take HQ.o HNI.o HPQ.o),hid (below_drewN HB4.o _)⟩,by simp[intOf];omega⟩
     ·obtain rfl:j=k:=by omega
      go_wp2;exact⟨⟨j+1,by omega,by go_num,hid (HSUC.o.2 ⟨HOK.o,HR.o,HNI.o⟩),hid HB4.o⟩,by simp[intOf];omega⟩
   ·obtain rfl:false=v:=by rw[<-hv.o];exact(decide_eq_false (fun h=>HNO.o (fun h=>hr h.1) h.2)).symm
    rw[decide_eq_false hr] at cs;clear hr;go_wp2_with (go_at_call 74;((with_reducible refine(cs _).mono ?_);rintro e w3 ⟨rfl,aK⟩));go_ret;exact⟨rfl,HB.o.trans (aK.mono HB.o.size)⟩
  ·obtain rfl:k=L.length:=by omega
   have HT:=HOK.o;rw[List.take_of_length_le (Nat.le_refl _)] at HT;have HT:=hid HT;by_cases h3:1<=L.length
   ·have hd3:decide ((L.length:Int)≥1)=true:=decide_eq_true om_;by_cases h4:L.length<=64
    ·have hd4:decide ((L.length:Int)<=64)=true:=decide_eq_true om_;obtain rfl:true=v:=by rw[<-hv.o];exact(decide_eq_true ⟨⟨h3,h4⟩,HT.o⟩).symm
     go_wp2;go_ret;exact⟨rfl,HB.o⟩
    ·have hd4:decide ((L.length:Int)<=64)=false:=decide_eq_false om_;obtain rfl:false=v:=by rw[<-hv.o];exact(decide_eq_false (fun h=>h4 h.1.2)).symm
     go_wp2;go_ret;exact⟨rfl,HB.o⟩
   ·have hd3:decide ((L.length:Int)≥1)=false:=decide_eq_false om_;obtain rfl:false=v:=by rw[<-hv.o];exact(decide_eq_false (fun h=>h3 h.1.1)).symm
    go_wp2;go_ret;exact⟨rfl,HB.o⟩
end step
end Go.Proofs.YtogfefdlffmioaaGreat
