/- Contracts and lemmas that claims of this seat share: SchemaRight. Each says its own conditions. -/
import Derived.Test.YtogfefdlffmioaaCmWord
import Derived.Test.YtogfefdlffmioaaCmS
set_option linter.unusedVariables false
namespace Go.Proofs.Ytogfefdlffmioaa
open Go.Proofs.Try
theorem t41{P:Prop}(h:P:=by
 go_enter func14,ntmps14;go_wp2_with (go_at_call 32;((with_reducible refine(cA _ br_).mono ?_);rintro e w1 ⟨rfl,bQ⟩;obtain⟨z0,z1,dP⟩:=HX.o _ bQ));go_ret;exact⟨rfl,by assumption⟩):P:=h
theorem t37{P:Prop}(h:P:=by
 go_wp2_with (go_at_call 33;((with_reducible refine cF.mono ?_);rintro e w2 ⟨rfl,aQ⟩;obtain⟨z0,z1,dP⟩:=OG.o _ aQ));go_ret;exact⟨rfl,HO.o.trans ((HB.o.trans (dP.mono HB.o.size)).mono HO.o.size)⟩):P:=h
namespace ak
open Go.RowKit
open field (Gives aI ay)
theorem boxS(i:Int)(a:Option Addr)(L:List Fm)(cap:Nat)(w w':World)(hb:Below (w.alloc (.cells (zS i a L.length cap) 24)).heap.size (w.alloc (.cells (zS i a L.length cap) 24)) w'):w'.cell? ⟨w.heap.size,0,none⟩=some (.int .i64 i)/\w'.cell? ⟨w.heap.size,1,none⟩=some (.slice a L.length cap)/\Below w.heap.size w w':=by
 have hB:=(Block.new w 24 (zS i a L.length cap)).later hb;exact⟨hB.cell 0,hB.cell 1,aX hb⟩
structure Fm.Ok (w:World) (p:Fm):Prop where
 rf:field.Fds w p.f p.fL
 cf:p.fL.length<=p.jB
 df:p.jB<=maxLen
theorem Fm.Ok.below{w w':World}{p:Fm}(h:p.Ok w)(hb:Below w.heap.size w w'):p.Ok w':=⟨h.rf.below hb,h.cf,h.df⟩
theorem Fm.Good.ok{w:World}{p:Fm}(h:p.Good w):p.Ok w:=⟨h.rf,h.cf,h.df⟩
def FmL(w:World)(a:Option Addr)(F:List Fm):Prop:=Fms w a F/\∀p∈F,p.Ok w
theorem FmL.below{w w':World}{a:Option Addr}{F:List Fm}(h:FmL w a F)(hb:Below w.heap.size w w'):FmL w' a F:=⟨h.1.below hb,fun p hp=>(h.2 p hp).below hb⟩
theorem jH{w w':World}{a:Option Addr}{F:List Fm}(h:FmL w a F)(hb:Below w.heap.size w w'){k:Nat}(hk:k<F.length):
  ∃b off p,a=some ⟨b,off,none⟩/\b<w'.heap.size/\F[k]?=some p/\w'.cell? ⟨b,off+k*2,none⟩=some (.int .i64 p.id)/\w'.cell? ⟨b,off+k*2+1,none⟩=some (.slice p.f p.fL.length p.jB)/\field.Fds w' p.f p.fL/\p.fL.length<=maxLen:=by
 obtain⟨b,off,p,h1,h2,h3,h4,h5⟩:=(h.below hb).1.at hk;have hg:=(h.below hb).2 p (List.mem_of_getElem? h3);exact⟨b,off,p,h1,h2,h3,h4,h5,hg.rf,Nat.le_trans hg.cf hg.df⟩
def lastOf(F:List Form)(k:Nat):Int:=if k=0 then -1 else((F[k - 1]?).map (·.1)).getD 0
theorem rW{F:List Form}{k:Nat}{x:Form}(h:F[k]?=some x):lastOf F (k+1)=x.1:=by simp[lastOf,h]
theorem ES{F:List Form}{k:Nat}{x:Form}(hk:iW (F.take k))(hx:F[k]?=some x)(hf:Fine x):(∀p∈F.take k,p.1<x.1)↔¬(x.1<=lastOf F k):=by
 cases k with
 | zero=>simp[lastOf];have:=hf.1.1;omega
 | succ k=>
  have hl:k+1<F.length:=(List.getElem?_eq_some_iff.1 hx).1;have hy:F[k]?=some F[k]:=List.getElem?_eq_getElem om_;rw[rise hy hk,rW hy];omega
theorem dB(v:Int)(a:Option Addr)(cap:Nat)(F:List Fm)(w:World)(h:FmL w a F)(hF:F.length<=maxLen):
  Calls prog 14 #[zS v a F.length cap] w (Gives (.bool (decide (Right v (forms F)))) w):=by
 have HX:=hid (boxS v a F cap w);have HF:=hid (h.below (aI w (.cells (zS v a F.length cap) 24)));have hml:(F.length:Int)<=9223372036854775807:=by unfold maxLen at hF;omega
 obtain⟨r,hr⟩:∃r:Bool,Hid (decide (Right v (forms F))=r):=⟨_,rfl⟩;rw[hr.o];unfold Gives;have cA:=fun t h=>oC v 1 65535 (w.alloc (.cells (zS v a F.length cap) 24)) t h
 have HL:=hid (bg F);clear h hF;by_cases h1:1<=v/\v<=65535
 ·replace cA:=cA true (decide_eq_true h1);by_cases h2:F.length<=8
  ·have hd:decide ((F.length:Int)>8)=false:=decide_eq_false om_;have CP:Hid (Right v (forms F)↔iW (forms F)):=hid ⟨fun h=>h.2.2,fun h=>⟨h1,by rw[bg];exact h2,h⟩⟩;clear h1;go_enter func14,ntmps14;go_wp2_with (go_at_call 32;((with_reducible refine(cA _ br_).mono ?_);rintro e w1 ⟨rfl,bQ⟩;obtain⟨z0,z1,dP⟩:=HX.o _ bQ));have Oo:=hid (HF.o.below bQ);have HO:=hid dP;clear HF HX cA bQ z0 z1 dP hd;go_loopw [3,19] (fun l n wr=>∃k:Nat,k<=F.length/\l=.int .i64 (lastOf (forms F) k)/\n=.int .i64 (k:Int)/\Hid (iW ((forms F).take k))/\Hid (Below w1.heap.size w1 wr)) (fun _ n _=>F.length - (intOf n).toNat);case atStart=>exact⟨0,Nat.zero_le _,rfl,rfl,hid iW.nil,hid (Below.refl _ _)⟩
   case round=>
    obtain⟨k,hk,rfl,rfl,nK,HB⟩:=hrel;by_cases bI:k<F.length
    ·obtain⟨b,off,p,rfl,jV,hp,c0,c1,D8,GL⟩:=jH Oo.o HB.o bI;have i1:(k:Int)<F.length:=by omega
     have HP:=hid (dW hp);have iM:=hid (mr (dW hp));have oP:=hid (yM (dW hp));have Ou:=hid (fun hf=>ES nK.o (dW hp) hf);have Iy:=hid (rW (dW hp));obtain⟨i,q,qc,L⟩:=p;simp only[Fm.p] at HP iM oP Ou Iy c0 c1 D8 GL;have cF:=kJ i q qc L (wr.alloc (.cells (zS i q L.length qc) 40)) (D8.below (aI _ _)) GL;have OG:=hid (Ac i q L qc wr);clear hp D8;generalize hla:lastOf (forms F) k=la at *;clear hla;by_cases hf:Fine (i,L)
     ·rw[decide_eq_true hf] at cF;have Ea:=hid hf;clear hf;by_cases hl:i<=la
      ·obtain rfl:false=r:=by rw[<-hr.o];exact(decide_eq_false (fun h=>oP.o (fun h2=>(Ou.o Ea.o).1 h2.2 hl) (CP.o.1 h))).symm
       exact t37
      ·have hd2:decide (i<=la)=false:=decide_eq_false hl;have TK:=hid hl;clear hl;go_wp2_with (go_at_call 33;((with_reducible refine cF.mono ?_);rintro e w2 ⟨rfl,aQ⟩;obtain⟨z0,z1,dP⟩:=OG.o _ aQ));exact⟨⟨k+1,by omega,by rw[Iy.o],by go_num,hid (iM.o.2 ⟨nK.o,Ea.o,(Ou.o Ea.o).2 TK.o⟩),hid (HB.o.trans (dP.mono HB.o.size))⟩,by simp[intOf];omega⟩
     ·rw[decide_eq_false hf] at cF;obtain rfl:false=r:=by rw[<-hr.o];exact(decide_eq_false (fun h=>oP.o (fun h2=>hf h2.1) (CP.o.1 h))).symm
      clear hf
      exact t37
    ·obtain rfl:k=F.length:=by omega
     obtain rfl:true=r:=by rw[<-hr.o];have:=nK.o;rw[List.take_of_length_le (by rw[HL.o];exact Nat.le_refl _)] at this;exact(decide_eq_true (CP.o.2 this)).symm
     go_wp2;go_ret;exact⟨rfl,HO.o.trans (HB.o.mono HO.o.size)⟩
  ·have hd:decide ((F.length:Int)>8)=true:=decide_eq_true om_;obtain rfl:false=r:=by rw[<-hr.o];exact(decide_eq_false (fun h=>h2 (by have:=h.2.1;rw[bg] at this;exact this))).symm
   clear h2
   exact t41
 ·replace cA:=cA false (decide_eq_false h1);obtain rfl:false=r:=by rw[<-hr.o];exact(decide_eq_false (fun h=>h1 h.1)).symm
  exact t41
end ak
end Go.Proofs.Ytogfefdlffmioaa
