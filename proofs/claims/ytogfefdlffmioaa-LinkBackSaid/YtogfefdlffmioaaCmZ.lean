/- Contracts and lemmas that claims of this seat share: StepRefTable. Each says its own conditions. -/
import Derived.Test.YtogfefdlffmioaaCmWord
import Derived.Test.YtogfefdlffmioaaCmY
set_option linter.unusedVariables false
namespace Go.Proofs.Ytogfefdlffmioaa
open Go.Proofs.Try
namespace step
open Go.RowKit
open field (Gives aI ay)
open ak (aH aX)
theorem Ff{L:List Int}{k:Nat}{x q:Int}(h:L[k]?=some q)(hn:x∉L.take k)(hq:¬q=x):x∉L.take (k+1):=by
 rw[aH h];intro hm;rcases List.mem_append.1 hm with h1 | h1
 ·exact hn h1
 ·exact hq (List.mem_singleton.1 h1).symm
theorem Fe{L:List Int}{j k:Nat}{q:Int}(h:L[j]?=some q)(hj:j<k):q∈L.take k:=by
 have:=(List.getElem?_take_of_lt (l:=L) hj).trans h;exact List.mem_of_getElem? this
theorem yV{w w':World}{b off k:Nat}{p:Int}{L:List Int}(h:Ins w (some ⟨b,off,none⟩) L)(hb:Below w.heap.size w w')(hp:L[k]?=some p):w'.cell? ⟨b,off+k,none⟩=some (.int .i64 p):=by
 rcases h.below hb with rfl | ⟨b',off',he,bI,hc⟩
 ·simp at hp
 ·injection he with e
  injection e with e1 e2
  subst e1 e2;exact hc k p hp
theorem Dh{w w':World}{b off k:Nat}{p:Int}{L:List Int}(h:Ins w (some ⟨b,off,none⟩) L)(hb:Below w.heap.size w w')(hp:L[k]?=some p):b<w'.heap.size:=by
 rcases h.below hb with rfl | ⟨b',off',he,bI,hc⟩
 ·simp at hp
 ·injection he with e
  injection e with e1 e2
  subst e1 e2;exact bI
set_option maxRecDepth 20000 in
theorem qL(a:Option Addr)(cap:Nat)(L:List Int)(lim:Int)(h1:1<=lim)(h2:lim<=1000)(w:World)(h:Ins w a L)(hL:L.length<=maxLen):
  Calls prog 88 #[.slice a L.length cap,.int .i64 lim] w (Gives (.bool (decide (Table L lim))) w):=by
 have hml:(L.length:Int)<=9223372036854775807:=by unfold maxLen at hL;omega
 obtain⟨v,hv⟩:∃v:Bool,Hid (decide (Table L lim)=v):=⟨_,rfl⟩;rw[hv.o];have cV:=fun n (w':World)=>fC n 0 (lim - 1) w'
 unfold Gives at cV ⊢;have HF:=hid h;clear h hL;go_enter func88,ntmps88;go_wp2;go_loopw [5] (fun n wr=>∃k:Nat,k<=L.length/\n=.int .i64 (k:Int)/\Hid (qp lim (L.take k))/\Hid (Below w.heap.size w wr)) (fun n _=>L.length - (intOf n).toNat);case atStart=>exact⟨0,Nat.zero_le _,rfl,hid ⟨by simp,by simp⟩,hid (Below.refl _ _)⟩
 case round=>
  obtain⟨k,hk,rfl,nK,HB⟩:=hrel;by_cases bI:k<L.length
  ·obtain⟨b,off,p,rfl,jV,hp,c0⟩:=mM HF.o HB.o bI;have i1:(k:Int)<L.length:=by omega
   have HP:=hid hp;have oP:=hid (FP (lim:=lim) hp);have iM:=hid (vk (lim:=lim) hp);have cs:=fun w'=>cV p w'
   clear hp;by_cases hr:0<=p/\p<=lim - 1
   ·rw[decide_eq_true hr] at cs;have HR:=hid hr;clear hr;go_wp2_with (go_at_call 69;((with_reducible refine(cs _).mono ?_);rintro e w3 ⟨rfl,fD⟩;have HB3:=hid (HB.o.trans (fD.mono HB.o.size));clear fD));clear c0 jV;go_loopw [6] (fun n wr=>∃j:Nat,j<=k/\n=.int .i64 (j:Int)/\Hid (p∉L.take j)/\Hid (Below w.heap.size w wr)) (fun n _=>k - (intOf n).toNat);case atStart=>exact⟨0,Nat.zero_le _,rfl,hid si_,HB3⟩
    case round=>
     obtain⟨j,hj,rfl,RY,HB4⟩:=hrel;by_cases hlt2:j<k
     ·have hq0:=List.getElem?_eq_getElem (show j<L.length by omega);generalize L[j]'(show j<L.length by omega)=q at hq0;have d0:=yV HF.o HB4.o hq0;have c1:=yV HF.o HB4.o HP.o;have jV:=Dh HF.o HB4.o hq0;have i2:(j:Int)<k:=by omega
      have i3:(j:Int)<L.length:=by omega
      have hq:=hq0;clear hq0;have HQ:=hid hq;clear hq;by_cases fQ:q=p
      ·obtain rfl:false=v:=by
        rw[<-hv.o];exact(decide_eq_false (fun h=>(iM.o.1 (zK h.2 _)).2.2 (by rw[<-fQ];exact Fe HQ.o hlt2))).symm
       subst fQ
       go_wp2
       go_quiet (fail)
       go_wp2
       go_ret
       exact⟨rfl,below_drewN HB4.o _⟩
      ·have hd:(q == p)=false:=by rw[beq_eq_false_iff_ne];exact fQ
       have HPQ:=hid fQ;clear fQ;go_wp2;go_quiet (fail);go_wp2;exact⟨⟨j+1,by omega,by go_num,hid (Ff HQ.o RY.o HPQ.o),hid (below_drewN HB4.o _)⟩,by simp[intOf];omega⟩
     ·obtain rfl:j=k:=by omega
      go_wp2;exact⟨⟨j+1,by omega,by go_num,hid (iM.o.2 ⟨nK.o,HR.o,RY.o⟩),hid HB4.o⟩,by simp[intOf];omega⟩
   ·obtain rfl:false=v:=by rw[<-hv.o];exact(decide_eq_false (fun h=>oP.o (fun h=>hr h.1) h.2)).symm
    rw[decide_eq_false hr] at cs;clear hr;go_wp2_with (go_at_call 69;((with_reducible refine(cs _).mono ?_);rintro e w3 ⟨rfl,fD⟩));go_ret;exact⟨rfl,HB.o.trans (fD.mono HB.o.size)⟩
  ·obtain rfl:k=L.length:=by omega
   have HT:=nK.o;rw[List.take_of_length_le (Nat.le_refl _)] at HT;have HT:=hid HT;by_cases h3:1<=L.length
   ·have hd3:decide ((L.length:Int)≥1)=true:=decide_eq_true om_;by_cases h4:L.length<=64
    ·have hd4:decide ((L.length:Int)<=64)=true:=decide_eq_true om_;obtain rfl:true=v:=by rw[<-hv.o];exact(decide_eq_true ⟨⟨h3,h4⟩,HT.o⟩).symm
     go_wp2;go_ret;exact⟨rfl,HB.o⟩
    ·have hd4:decide ((L.length:Int)<=64)=false:=decide_eq_false om_;obtain rfl:false=v:=by rw[<-hv.o];exact(decide_eq_false (fun h=>h4 h.1.2)).symm
     go_wp2;go_ret;exact⟨rfl,HB.o⟩
   ·have hd3:decide ((L.length:Int)≥1)=false:=decide_eq_false om_;obtain rfl:false=v:=by rw[<-hv.o];exact(decide_eq_false (fun h=>h3 h.1.1)).symm
    go_wp2;go_ret;exact⟨rfl,HB.o⟩
end step
end Go.Proofs.Ytogfefdlffmioaa
