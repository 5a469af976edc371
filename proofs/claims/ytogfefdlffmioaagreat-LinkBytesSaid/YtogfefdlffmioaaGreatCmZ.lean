/- Contracts and lemmas that claims of this seat share: SchemaRight. Each says its own conditions. -/
import Derived.Test.YtogfefdlffmioaaGreatCmWord
import Derived.Test.YtogfefdlffmioaaGreatCmY
set_option linter.unusedVariables false
namespace Go.Proofs.YtogfefdlffmioaaGreat
open Go.Proofs.Tryz
theorem t48{P:Prop}(h:P:=by
 go_enter func36,ntmps36;go_wp2_with (go_at_call 61;((with_reducible refine(cA _ br_).mono ?_);rintro e w1 ⟨rfl,ak⟩;obtain⟨z0,z1,aN⟩:=HX.o _ ak));go_ret;exact⟨rfl,by assumption⟩):P:=h
theorem t45{P:Prop}(h:P:=by
 go_wp2_with (go_at_call 62;((with_reducible refine cF.mono ?_);rintro e w2 ⟨rfl,aj⟩;obtain⟨z0,z1,aN⟩:=HX2.o _ aj));go_ret;exact⟨rfl,HO.o.trans ((HB.o.trans (aN.mono HB.o.size)).mono HO.o.size)⟩):P:=h
namespace schema
open Go.RowKit
open field (Gives newB gives_from)
theorem boxS(i:Int)(a:Option Addr)(L:List Fm)(cap:Nat)(w w':World)(hb:Below (w.alloc (.cells (zS i a L.length cap) 24)).heap.size (w.alloc (.cells (zS i a L.length cap) 24)) w'):w'.cell? ⟨w.heap.size,0,none⟩=some (.int .i64 i)/\w'.cell? ⟨w.heap.size,1,none⟩=some (.slice a L.length cap)/\Below w.heap.size w w':=by
 have hB:=(Block.new w 24 (zS i a L.length cap)).later hb;exact⟨hB.cell 0,hB.cell 1,below_out hb⟩
structure Fm.Ok (w:World) (p:Fm):Prop where
 rf:field.Fds w p.f p.fL
 cf:p.fL.length<=p.fCap
 df:p.fCap<=maxLen
theorem Fm.Ok.below{w w':World}{p:Fm}(h:p.Ok w)(hb:Below w.heap.size w w'):p.Ok w':=⟨h.rf.below hb,h.cf,h.df⟩
theorem Fm.Good.ok{w:World}{p:Fm}(h:p.Good w):p.Ok w:=⟨h.rf,h.cf,h.df⟩
def FmL(w:World)(a:Option Addr)(F:List Fm):Prop:=Fms w a F/\∀p∈F,p.Ok w
theorem FmL.below{w w':World}{a:Option Addr}{F:List Fm}(h:FmL w a F)(hb:Below w.heap.size w w'):FmL w' a F:=⟨h.1.below hb,fun p hp=>(h.2 p hp).below hb⟩
theorem form_at{w w':World}{a:Option Addr}{F:List Fm}(h:FmL w a F)(hb:Below w.heap.size w w'){k:Nat}(hk:k<F.length):
  ∃b off p,a=some ⟨b,off,none⟩/\b<w'.heap.size/\F[k]?=some p/\w'.cell? ⟨b,off+k*2,none⟩=some (.int .i64 p.id)/\w'.cell? ⟨b,off+k*2+1,none⟩=some (.slice p.f p.fL.length p.fCap)/\field.Fds w' p.f p.fL/\p.fL.length<=maxLen:=by
 obtain⟨b,off,p,h1,h2,h3,h4,h5⟩:=(h.below hb).1.at hk;have hg:=(h.below hb).2 p (List.mem_of_getElem? h3);exact⟨b,off,p,h1,h2,h3,h4,h5,hg.rf,Nat.le_trans hg.cf hg.df⟩
def lastOf(F:List Form)(k:Nat):Int:=if k=0 then -1 else((F[k - 1]?).map (·.1)).getD 0
theorem lastOf_succ{F:List Form}{k:Nat}{x:Form}(h:F[k]?=some x):lastOf F (k+1)=x.1:=by simp[lastOf,h]
theorem last_iff{F:List Form}{k:Nat}{x:Form}(hk:FineS (F.take k))(hx:F[k]?=some x)(hf:Fine x):(∀p∈F.take k,p.1<x.1)↔¬(x.1<=lastOf F k):=by
 cases k with
 | zero=>simp[lastOf];have:=hf.1.1;omega
 | succ k=>
  have hl:k+1<F.length:=(List.getElem?_eq_some_iff.1 hx).1;have hy:F[k]?=some F[k]:=List.getElem?_eq_getElem om_;rw[rise hy hk,lastOf_succ hy];omega
theorem right_any(v:Int)(a:Option Addr)(cap:Nat)(F:List Fm)(w:World)(h:FmL w a F)(hF:F.length<=maxLen):
  Calls prog 36 #[zS v a F.length cap] w (Gives (.bool (decide (Right v (forms F)))) w):=by
 have HX:=hid (boxS v a F cap w);have HF:=hid (h.below (newB w (.cells (zS v a F.length cap) 24)));have hml:(F.length:Int)<=9223372036854775807:=by unfold maxLen at hF;omega
 obtain⟨r,hr⟩:∃r:Bool,Hid (decide (Right v (forms F))=r):=⟨_,rfl⟩;rw[hr.o];unfold Gives;have cA:=fun t h=>within_from v 1 65535 (w.alloc (.cells (zS v a F.length cap) 24)) t h
 have HL:=hid (forms_length F);clear h hF;by_cases h1:1<=v/\v<=65535
 ·replace cA:=cA true (decide_eq_true h1);by_cases h2:F.length<=8
  ·have hd:decide ((F.length:Int)>8)=false:=decide_eq_false om_;have HRI:Hid (Right v (forms F)↔FineS (forms F)):=hid ⟨fun h=>h.2.2,fun h=>⟨h1,by rw[forms_length];exact h2,h⟩⟩;clear h1;go_enter func36,ntmps36;go_wp2_with (go_at_call 61;((with_reducible refine(cA _ br_).mono ?_);rintro e w1 ⟨rfl,ak⟩;obtain⟨z0,z1,aN⟩:=HX.o _ ak));have HF1:=hid (HF.o.below ak);have HO:=hid aN;clear HF HX cA ak z0 z1 aN hd;go_loopw [3,19] (fun l n wr=>∃k:Nat,k<=F.length/\l=.int .i64 (lastOf (forms F) k)/\n=.int .i64 (k:Int)/\Hid (FineS ((forms F).take k))/\Hid (Below w1.heap.size w1 wr)) (fun _ n _=>F.length - (intOf n).toNat);case atStart=>exact⟨0,Nat.zero_le _,rfl,rfl,hid FineS.nil,hid (Below.refl _ _)⟩
   case round=>
    obtain⟨k,hk,rfl,rfl,HOK,HB⟩:=hrel;by_cases au:k<F.length
    ·obtain⟨b,off,p,rfl,bQ,hp,c0,c1,gQ,jc⟩:=form_at HF1.o HB.o au;have i1:(k:Int)<F.length:=by omega
     have HP:=hid (forms_at hp);have HSUC:=hid (fineS_succ (forms_at hp));have HNO:=hid (fineS_no (forms_at hp));have HLI:=hid (fun hf=>last_iff HOK.o (forms_at hp) hf);have HLS:=hid (lastOf_succ (forms_at hp));obtain⟨i,q,qc,L⟩:=p;simp only[Fm.p] at HP HSUC HNO HLI HLS c0 c1 gQ jc;have cF:=fine_any i q qc L (wr.alloc (.cells (zS i q L.length qc) 43)) (gQ.below (newB _ _)) jc;have HX2:=hid (boxM i q L qc wr);clear hp gQ;generalize hla:lastOf (forms F) k=la at *;clear hla;by_cases hf:Fine (i,L)
     ·rw[decide_eq_true hf] at cF;have HFI:=hid hf;clear hf;by_cases hl:i<=la
      ·obtain rfl:false=r:=by rw[<-hr.o];exact(decide_eq_false (fun h=>HNO.o (fun h2=>(HLI.o HFI.o).1 h2.2 hl) (HRI.o.1 h))).symm
       exact t45
      ·have hd2:decide (i<=la)=false:=decide_eq_false hl;have HNL:=hid hl;clear hl;go_wp2_with (go_at_call 62;((with_reducible refine cF.mono ?_);rintro e w2 ⟨rfl,aj⟩;obtain⟨z0,z1,aN⟩:=HX2.o _ aj));exact⟨⟨k+1,by omega,by rw[HLS.o],by go_num,hid (HSUC.o.2 ⟨HOK.o,HFI.o,(HLI.o HFI.o).2 HNL.o⟩),hid (HB.o.trans (aN.mono HB.o.size))⟩,by simp[intOf];omega⟩
     ·rw[decide_eq_false hf] at cF;obtain rfl:false=r:=by rw[<-hr.o];exact(decide_eq_false (fun h=>HNO.o (fun h2=>hf h2.1) (HRI.o.1 h))).symm
      clear hf
      exact t45
    ·obtain rfl:k=F.length:=by omega
     obtain rfl:true=r:=by rw[<-hr.o];have:=HOK.o;rw[List.take_of_length_le (by rw[HL.o];exact Nat.le_refl _)] at this;exact(decide_eq_true (HRI.o.2 this)).symm
     go_wp2;go_ret;exact⟨rfl,HO.o.trans (HB.o.mono HO.o.size)⟩
  ·have hd:decide ((F.length:Int)>8)=true:=decide_eq_true om_;obtain rfl:false=r:=by rw[<-hr.o];exact(decide_eq_false (fun h=>h2 (by have:=h.2.1;rw[forms_length] at this;exact this))).symm
   clear h2
   exact t48
 ·replace cA:=cA false (decide_eq_false h1);obtain rfl:false=r:=by rw[<-hr.o];exact(decide_eq_false (fun h=>h1 h.1)).symm
  exact t48
end schema
end Go.Proofs.YtogfefdlffmioaaGreat
