/- Contracts and lemmas that claims of this seat share: Boxes, SchemaFields, SchemaFine, SchemaRight, SchemaBig, ValueEq, StepMath, StepBox, FieldSmall, FieldStore, SchemaFirst, Stay, FieldPush, TypingMath, RecordMath, LateS, RecordRow, TypingKeep, TypingRef, FieldNumber. Each says its own conditions. -/
import Derived.Test.YtdnegbkhndekpaaGreatCmWord
import Derived.Laws.Strings
import Derived.IntWalk
import Derived.Handy
import Derived.Maps.AppendAt
import Derived.Conc.WalkWords
import Derived.Test.YtdnegbkhndekpaaGreatCmA
import Derived.Test.YtdnegbkhndekpaaGreatCmB
set_option linter.unusedVariables false
namespace Go.Proofs.YtdnegbkhndekpaaGreat
open Go.Proofs.Tryz
section
open Go Go.RowKit
def boxes:World->List (TypeId×List Value)->World
 | w,[]=>w
 | w,(t,cs) :: r=>boxes (w.alloc (.cells cs.toArray t)) r
def Boxed (w:World):Nat->List (TypeId×List Value)->Prop
 | _,[]=>True
 | b,(t,cs) :: r=>Block w b t cs/\Boxed w (b+1) r
theorem Boxed.later {w w':World} (hb:Below w.heap.size w w'):∀ {b:Nat} {l:List (TypeId×List Value)},Boxed w b l->Boxed w' b l
 | _,[],_=>trivial
 | _,(_,_) :: _,⟨h,k⟩=>⟨h.later hb,Boxed.later hb k⟩
theorem lm:∀(l:List (TypeId×List Value)) (w:World),Below w.heap.size w (boxes w l)/\(boxes w l).heap.size=w.heap.size+l.length/\Boxed (boxes w l) w.heap.size l
 | [],w=>⟨Below.refl _ _,rfl,trivial⟩
 | (t,cs) :: r,w=>by
  obtain ⟨h1,h2,h3⟩:=lm r (w.alloc (.cells cs.toArray t));have hn:Below w.heap.size w (w.alloc (.cells cs.toArray t)):=(Below.refl _ _).alloc (Nat.le_refl _) _;have hs:(w.alloc (.cells cs.toArray t)).heap.size=w.heap.size+1:=by simp
  unfold boxes;refine ⟨hn.trans (h1.mono hn.size),by rw [h2,hs,List.length_cons];omega,(Block.new w t cs).later h1, ?_⟩;rw [<-hs];exact h3
theorem aU (w:World) (l:List (TypeId×List Value)):∃W,Hid (boxes w l=W)/\Below w.heap.size w W/\Hid (W.heap.size=w.heap.size+l.length)/\Hid (∀w',Below W.heap.size W w'->Boxed w' w.heap.size l/\Below w.heap.size w w'):=
 ⟨_,hid rfl,(lm l w).1,hid (lm l w).2.1,hid fun w' hb=>⟨(lm l w).2.2.later hb,(lm l w).1.trans (hb.mono (lm l w).1.size)⟩⟩
end
theorem t135{P:Prop}(h:P:=by
 go_ret;exact ⟨rfl,HB.o.trans ((aY hb2).mono HB.o.size)⟩):P:=h
theorem t23{P:Prop}(h:P:=by
 go_wp2;go_ret;exact ⟨rfl,Below.refl _ _⟩):P:=h
namespace schema
open Go.RowKit
open field (Gives aC aj dL)
theorem fF (n lo hi:Int) (w:World):Calls prog 76 #[.int .i64 n,.int .i64 lo,.int .i64 hi] w (Gives (.bool (decide (lo<=n/\n<=hi))) w):=by
 obtain ⟨v,hv⟩:∃v:Bool,Hid (decide (lo<=n/\n<=hi)=v):=⟨_,rfl⟩;rw [hv.o];unfold Gives;by_cases h1:lo<=n
 ·by_cases h2:n<=hi
  ·obtain rfl:true=v:=by rw [<-hv.o];simp [h1,h2]
   go_enter func76,ntmps76
   exact t23
  ·obtain rfl:false=v:=by rw [<-hv.o];simp [h1,h2]
   have hd:decide (n<=hi)=false:=decide_eq_false h2;go_enter func76,ntmps76
   exact t23
 ·obtain rfl:false=v:=by rw [<-hv.o];simp [h1]
  have hd:decide (lo<=n)=false:=decide_eq_false h1;go_enter func76,ntmps76
  exact t23
def qL (l:List Int):List Value:=(List.range 256).map fun j:Nat=>Value.bool (decide ((j:Int)∈l))
theorem xq (l:List Int) (n:Nat) (h:n<256):(qL l)[n]?=some (.bool (decide ((n:Int)∈l))):=by simp [qL,h]
theorem EH (l:List Int) (n:Nat) (h:n<256):(qL l).set n (.bool true)=qL (l++[(n:Int)]):=by
 apply List.ext_getElem?;intro i;rw [List.getElem?_set];by_cases hi:i<256
 ·rw [xq _ i hi,xq _ i hi];by_cases hn:n=i
  ·subst hn;simp [qL,h]
  ·rw [if_neg hn];simp;omega
 ·simp [qL];simp [hi];omega
theorem DI:Tryz.zeroCells155=(qL []).toArray:=by kernel_rfl
theorem vX (a:Option Addr) (cap:Nat) (L:List field.Fd) (w:World) (h:field.Fds w a L) (hL:L.length<=maxLen):
  Calls prog 100 #[.slice a L.length cap] w (Gives (.bool (decide (jv L))) w):=by
 have hml:(L.length:Int)<=9223372036854775807:=by unfold maxLen at hL;omega
 obtain ⟨v,hv⟩:∃v:Bool,Hid (decide (jv L)=v):=⟨_,rfl⟩;rw [hv.o];unfold Gives;have HF:=hid h;have HZ:Hid (Block (w.alloc (.cells Tryz.zeroCells155 155)) w.heap.size 155 (qL [])):=by rw [DI];exact hid (Block.new w 155 (qL []))
 have HN:=hid (aC w (.cells Tryz.zeroCells155 155));clear h hL;go_enter func100,ntmps100;go_wp2;generalize w.alloc (.cells Tryz.zeroCells155 155)=w1 at *;obtain ⟨B,hB⟩:∃B:Nat,Hid (w.heap.size=B):=⟨_,rfl⟩;rw [hB.o] at HZ ⊢;go_loopw [8] (fun n wr=>∃k:Nat,k<=L.length/\n=.int .i64 (k:Int)/\Hid (jv (L.take k))/\Hid (Block wr B 155 (qL (ids (L.take k))))/\Hid (Below w.heap.size w wr)) (fun n _=>L.length - (intOf n).toNat);case atStart=>exact ⟨0,Nat.zero_le _,rfl,hid jv.nil,HZ,HN⟩
 case round=>
  obtain ⟨k,hk,rfl,HOK,HBl,HB⟩:=hrel;by_cases hlt:k<L.length
  ·obtain ⟨b,off,p,rfl,hbl,hp,c0,c1,c2,c3,c4⟩:=di HF.o HB.o hlt;have i1:(k:Int)<L.length:=by omega
   have HP:=hid hp;have HNO:=hid (AB hp);have HSUC:=hid (rJ hp);have HIDS:Hid (ids (L.take (k+1))=ids (L.take k)++[p.id]):=hid (by rw [aT hp];simp [ids]);have cs:=fun w'=>dL p w'
   clear hp;generalize hI:ids (L.take k)=I at *;clear hI;by_cases hr:p.Right
   ·obtain ⟨n,hn⟩:=Int.eq_ofNat_of_zero_le hr.1.1;have hn2:n<=255:=by have:=hr.1.2;omega
    rw [decide_eq_true hr] at cs;have HR:=hid hr;clear hr;obtain ⟨q,qk,ql,qh,qm⟩:=p;simp only at hn HNO HSUC HIDS HR c0 c1 c2 c3 c4 cs;subst hn;have hsd:=xq I n om_;by_cases hm:(n:Int)∈I
    ·rw [decide_eq_true hm] at hsd;obtain rfl:false=v:=by rw [<-hv.o];exact (decide_eq_false (HNO.o (fun h=>h.2 hm))).symm
     clear hm;have H5:=hid (field.five ⟨n,qk,ql,qh,qm⟩ wr);go_wp2_with (go_at_call 96;((with_reducible refine (cs _).mono ?_);rintro e w2 ⟨rfl,hb2⟩;have hc:=((HBl.o.alloc _).later hb2).cell n;rw [hsd] at hc;have z0:=(H5.o w2 hb2).1))
     exact t135
    ·rw [decide_eq_false hm] at hsd;have HM:=hid hm;clear hm;have H5:=hid (field.five ⟨n,qk,ql,qh,qm⟩ wr);have HLT:=hid (show w.heap.size<=B by rw [hB.o];exact Nat.le_refl _);go_wp2_with (go_at_call 96;((with_reducible refine (cs _).mono ?_);rintro e w2 ⟨rfl,hb2⟩;have hblk:=(HBl.o.alloc _).later hb2;have hc:=hblk.cell n;rw [hsd] at hc;have z0:=(H5.o w2 hb2).1;have hfz:=hblk.frozen n;have HBK:=hid hblk;clear hblk));refine ⟨⟨k+1,by omega,by go_num,hid (HSUC.o.2 ⟨HOK.o,HR.o,HM.o⟩),hid ?_,hid ?_⟩,by simp [intOf];omega⟩
     ·have:=HBK.o.setCell n (.bool true);rw [EH _ _ om_] at this;rw [HIDS.o];exact this
     ·exact below_setCells (HB.o.trans ((aY hb2).mono HB.o.size)) HLT.o n [.bool true]
   ·obtain rfl:false=v:=by rw [<-hv.o];exact (decide_eq_false (HNO.o (fun h=>hr h.1))).symm
    rw [decide_eq_false hr] at cs;clear hr;go_wp2_with (go_at_call 96;((with_reducible refine (cs _).mono ?_);rintro e w2 ⟨rfl,hb2⟩))
    exact t135
  ·obtain rfl:k=L.length:=by omega
   obtain rfl:true=v:=by rw [<-hv.o];have:=HOK.o;rw [List.take_of_length_le (Nat.le_refl _)] at this;exact (decide_eq_true this).symm
   go_wp2;go_ret;exact ⟨rfl,HB.o⟩
end schema
theorem t10{P:Prop}(h:P:=by
 go_enter func60,ntmps60;go_wp2_with (first
  | (go_at_call 76;((with_reducible refine (cA _ br_).mono ?_);rintro e w2 ⟨rfl,hb2⟩;obtain ⟨z0,z1,hbo⟩:=HX.o _ hb2))
  | (go_at_call 76;((with_reducible refine (cB _ br_).mono ?_);rintro e w2 ⟨rfl,hb2⟩;obtain ⟨z0,z1,hbo⟩:=HX.o _ hb2))
  | (go_at_call 100;((with_reducible refine (cC _ br_).mono ?_);rintro e w2 ⟨rfl,hb2⟩;obtain ⟨z0,z1,hbo⟩:=HX.o _ hb2))
  | (go_at_call 101;((with_reducible refine (cD _ br_).mono ?_);rintro e w2 ⟨rfl,hb2⟩;obtain ⟨z0,z1,hbo⟩:=HX.o _ hb2)))
 go_ret;exact ⟨by first | rfl | exact bP (by assumption),by assumption⟩):P:=h
namespace schema
open Go.RowKit
open field (Gives aC aj)
theorem xC (i:Int) (a:Option Addr) (L:List field.Fd) (cap:Nat) (w w':World) (hb:Below (w.alloc (.cells (zS i a L.length cap) 57)).heap.size (w.alloc (.cells (zS i a L.length cap) 57)) w'):w'.cell? ⟨w.heap.size,0,none⟩=some (.int .i64 i)/\w'.cell? ⟨w.heap.size,1,none⟩=some (.slice a L.length cap)/\Below w.heap.size w w':=by
 have hB:=(Block.new w 57 (zS i a L.length cap)).later hb;exact ⟨hB.cell 0,hB.cell 1,aY hb⟩
abbrev From (F:FuncId) (args:Array Value) (v:Value) (w0:World):Prop:=∀w',Below w0.heap.size w0 w'->Calls prog F args w' fun e w2=>e=.returned v/\Below w0.heap.size w0 w2
theorem iF {F:FuncId} {args:Array Value} {v:Value} (w0:World) (h:∀w',Calls prog F args w' (Gives v w')):From F args v w0:=fun w' hb=>aj (h w') hb
theorem uN {F:FuncId} {args:Array Value} {v:Value} {a:Option Addr} {L:List field.Fd} {w0:World} (hf:field.Fds w0 a L) (h:∀w',field.Fds w' a L->Calls prog F args w' (Gives v w')):From F args v w0:=fun w' hb=>aj (h w' (hf.below hb)) hb
theorem pK (n lo hi:Int) (w0:World) (v:Bool) (h:decide (lo<=n/\n<=hi)=v):From 76 #[.int .i64 n,.int .i64 lo,.int .i64 hi] (.bool v) w0:=iF w0 (fun w'=>h ▸ fF n lo hi w')
theorem iY (i:Int) (a:Option Addr) (cap:Nat) (L:List field.Fd) (w:World) (h:field.Fds w a L) (hL:L.length<=maxLen):
  Calls prog 60 #[zS i a L.length cap] w (Gives (.bool (decide (Fine (i,L)))) w):=by
 have HX:=hid (xC i a L cap w);have HF:=h.below (aC w (.cells (zS i a L.length cap) 57));obtain ⟨v,hv⟩:∃v:Bool,Hid (decide (Fine (i,L))=v):=⟨_,rfl⟩;rw [hv.o];unfold Gives;have cA:=fun v h=>pK i 0 200 (w.alloc (.cells (zS i a L.length cap) 57)) v h
 have cB:=fun v h=>pK (L.length:Int) 1 8 (w.alloc (.cells (zS i a L.length cap) 57)) v h
 have cC:=uN HF (fun w' h'=>vX a cap L w' h' hL);clear h;by_cases h1:0<=i/\i<=200
 ·replace cA:=cA true (decide_eq_true h1);by_cases h2:1<=L.length/\L.length<=8
  ·replace cB:=cB true (decide_eq_true om_);have cD:=uN HF (fun w' h'=>H8 i a cap L w' h' om_);by_cases h3:jv L
   ·rw [decide_eq_true h3] at cC;have hsz:=size_le L;by_cases h4:size L<=64
    ·obtain rfl:true=v:=by rw [<-hv.o];exact (decide_eq_true ⟨h1,h2,h3,h4⟩).symm
     have hd:decide ((size L:Int)<=64)=true:=decide_eq_true om_;clear h3 HF;generalize size L=s at *
     exact t10
    ·obtain rfl:false=v:=by rw [<-hv.o];exact (decide_eq_false (fun h=>h4 h.2.2.2)).symm
     have hd:decide ((size L:Int)<=64)=false:=decide_eq_false om_;clear h3 HF h4;generalize size L=s at *
     exact t10
   ·obtain rfl:false=v:=by rw [<-hv.o];exact (decide_eq_false (fun h=>h3 h.2.2.1)).symm
    rw [decide_eq_false h3] at cC;clear h3 HF cD
    exact t10
  ·obtain rfl:false=v:=by rw [<-hv.o];exact (decide_eq_false (fun h=>h2 h.2.1)).symm
   replace cB:=cB false (decide_eq_false om_);clear HF cC h2
   exact t10
 ·obtain rfl:false=v:=by rw [<-hv.o];exact (decide_eq_false (fun h=>h1 h.1)).symm
  replace cA:=cA false (decide_eq_false h1);clear HF cC cB h1
  exact t10
theorem vN (x y:Value):(prog.info? 57).map (·.size)=some [x,y].length:=by kernel_rfl
end schema
theorem t73{P:Prop}(h:P:=by
 go_enter func42,ntmps42;go_wp2_with (go_at_call 76;((with_reducible refine (cA _ br_).mono ?_);rintro e w1 ⟨rfl,hb1⟩;obtain ⟨z0,z1,hbo⟩:=HX.o _ hb1));go_ret;exact ⟨rfl,by assumption⟩):P:=h
theorem t70{P:Prop}(h:P:=by
 go_wp2_with (go_at_call 60;((with_reducible refine cF.mono ?_);rintro e w2 ⟨rfl,hb2⟩;obtain ⟨z0,z1,hbo⟩:=HX2.o _ hb2));go_ret;exact ⟨rfl,HO.o.trans ((HB.o.trans (hbo.mono HB.o.size)).mono HO.o.size)⟩):P:=h
namespace schema
open Go.RowKit
open field (Gives aC aj)
theorem boxS (i:Int) (a:Option Addr) (L:List Fm) (cap:Nat) (w w':World) (hb:Below (w.alloc (.cells (zS i a L.length cap) 24)).heap.size (w.alloc (.cells (zS i a L.length cap) 24)) w'):w'.cell? ⟨w.heap.size,0,none⟩=some (.int .i64 i)/\w'.cell? ⟨w.heap.size,1,none⟩=some (.slice a L.length cap)/\Below w.heap.size w w':=by
 have hB:=(Block.new w 24 (zS i a L.length cap)).later hb;exact ⟨hB.cell 0,hB.cell 1,aY hb⟩
structure Fm.Ok (w:World) (p:Fm):Prop where
 rf:field.Fds w p.f p.fL
 cf:p.fL.length<=p.fCap
 df:p.fCap<=maxLen
theorem Fm.Ok.below {w w':World} {p:Fm} (h:p.Ok w) (hb:Below w.heap.size w w'):p.Ok w':=⟨h.rf.below hb,h.cf,h.df⟩
theorem Fm.Good.ok {w:World} {p:Fm} (h:p.Good w):p.Ok w:=⟨h.rf,h.cf,h.df⟩
def FmL (w:World) (a:Option Addr) (F:List Fm):Prop:=Fms w a F/\∀p∈F,p.Ok w
theorem FmL.below {w w':World} {a:Option Addr} {F:List Fm} (h:FmL w a F) (hb:Below w.heap.size w w'):FmL w' a F:=⟨h.1.below hb,fun p hp=>(h.2 p hp).below hb⟩
theorem dQ {w w':World} {a:Option Addr} {F:List Fm} (h:FmL w a F) (hb:Below w.heap.size w w') {k:Nat} (hk:k<F.length):
  ∃b off p,a=some ⟨b,off,none⟩/\b<w'.heap.size/\F[k]?=some p/\w'.cell? ⟨b,off+k*2,none⟩=some (.int .i64 p.id)/\w'.cell? ⟨b,off+k*2+1,none⟩=some (.slice p.f p.fL.length p.fCap)/\field.Fds w' p.f p.fL/\p.fL.length<=maxLen:=by
 obtain ⟨b,off,p,h1,h2,h3,h4,h5⟩:=(h.below hb).1.at hk;have hg:=(h.below hb).2 p (List.mem_of_getElem? h3);exact ⟨b,off,p,h1,h2,h3,h4,h5,hg.rf,Nat.le_trans hg.cf hg.df⟩
def lastOf (F:List Form) (k:Nat):Int:=if k=0 then -1 else ((F[k - 1]?).map (·.1)).getD 0
theorem uy {F:List Form} {k:Nat} {x:Form} (h:F[k]?=some x):lastOf F (k+1)=x.1:=by simp [lastOf,h]
theorem Hl {F:List Form} {k:Nat} {x:Form} (hk:jA (F.take k)) (hx:F[k]?=some x) (hf:Fine x):(∀p∈F.take k,p.1<x.1)↔¬(x.1<=lastOf F k):=by
 cases k with
 | zero=>simp [lastOf];have:=hf.1.1;omega
 | succ k=>
  have hl:k+1<F.length:=(List.getElem?_eq_some_iff.1 hx).1;have hy:F[k]?=some F[k]:=List.getElem?_eq_getElem om_;rw [rise hy hk,uy hy];omega
theorem dL (v:Int) (a:Option Addr) (cap:Nat) (F:List Fm) (w:World) (h:FmL w a F) (hF:F.length<=maxLen):
  Calls prog 42 #[zS v a F.length cap] w (Gives (.bool (decide (Right v (forms F)))) w):=by
 have HX:=hid (boxS v a F cap w);have HF:=hid (h.below (aC w (.cells (zS v a F.length cap) 24)));have hml:(F.length:Int)<=9223372036854775807:=by unfold maxLen at hF;omega
 obtain ⟨r,hr⟩:∃r:Bool,Hid (decide (Right v (forms F))=r):=⟨_,rfl⟩;rw [hr.o];unfold Gives;have cA:=fun t h=>pK v 1 65535 (w.alloc (.cells (zS v a F.length cap) 24)) t h
 have HL:=hid (aF F);clear h hF;by_cases h1:1<=v/\v<=65535
 ·replace cA:=cA true (decide_eq_true h1);by_cases h2:F.length<=8
  ·have hd:decide ((F.length:Int)>8)=false:=decide_eq_false om_;have HRI:Hid (Right v (forms F)↔jA (forms F)):=hid ⟨fun h=>h.2.2,fun h=>⟨h1,by rw [aF];exact h2,h⟩⟩;clear h1;go_enter func42,ntmps42;go_wp2_with (go_at_call 76;((with_reducible refine (cA _ br_).mono ?_);rintro e w1 ⟨rfl,hb1⟩;obtain ⟨z0,z1,hbo⟩:=HX.o _ hb1));have HF1:=hid (HF.o.below hb1);have HO:=hid hbo;clear HF HX cA hb1 z0 z1 hbo hd;go_loopw [3,19] (fun l n wr=>∃k:Nat,k<=F.length/\l=.int .i64 (lastOf (forms F) k)/\n=.int .i64 (k:Int)/\Hid (jA ((forms F).take k))/\Hid (Below w1.heap.size w1 wr)) (fun _ n _=>F.length - (intOf n).toNat);case atStart=>exact ⟨0,Nat.zero_le _,rfl,rfl,hid jA.nil,hid (Below.refl _ _)⟩
   case round=>
    obtain ⟨k,hk,rfl,rfl,HOK,HB⟩:=hrel;by_cases hlt:k<F.length
    ·obtain ⟨b,off,p,rfl,hbl,hp,c0,c1,hfd,hfl⟩:=dQ HF1.o HB.o hlt;have i1:(k:Int)<F.length:=by omega
     have HP:=hid (dR hp);have HSUC:=hid (oJ (dR hp));have HNO:=hid (Aa (dR hp));have HLI:=hid (fun hf=>Hl HOK.o (dR hp) hf);have HLS:=hid (uy (dR hp));obtain ⟨i,q,qc,L⟩:=p;simp only [Fm.p] at HP HSUC HNO HLI HLS c0 c1 hfd hfl;have cF:=iY i q qc L (wr.alloc (.cells (zS i q L.length qc) 57)) (hfd.below (aC _ _)) hfl;have HX2:=hid (xC i q L qc wr);clear hp hfd;generalize hla:lastOf (forms F) k=la at *;clear hla;by_cases hf:Fine (i,L)
     ·rw [decide_eq_true hf] at cF;have HFI:=hid hf;clear hf;by_cases hl:i<=la
      ·obtain rfl:false=r:=by rw [<-hr.o];exact (decide_eq_false (fun h=>HNO.o (fun h2=>(HLI.o HFI.o).1 h2.2 hl) (HRI.o.1 h))).symm
       exact t70
      ·have hd2:decide (i<=la)=false:=decide_eq_false hl;have HNL:=hid hl;clear hl;go_wp2_with (go_at_call 60;((with_reducible refine cF.mono ?_);rintro e w2 ⟨rfl,hb2⟩;obtain ⟨z0,z1,hbo⟩:=HX2.o _ hb2));exact ⟨⟨k+1,by omega,by rw [HLS.o],by go_num,hid (HSUC.o.2 ⟨HOK.o,HFI.o,(HLI.o HFI.o).2 HNL.o⟩),hid (HB.o.trans (hbo.mono HB.o.size))⟩,by simp [intOf];omega⟩
     ·rw [decide_eq_false hf] at cF;obtain rfl:false=r:=by rw [<-hr.o];exact (decide_eq_false (fun h=>HNO.o (fun h2=>hf h2.1) (HRI.o.1 h))).symm
      clear hf
      exact t70
    ·obtain rfl:k=F.length:=by omega
     obtain rfl:true=r:=by rw [<-hr.o];have:=HOK.o;rw [List.take_of_length_le (by rw [HL.o];exact Nat.le_refl _)] at this;exact (decide_eq_true (HRI.o.2 this)).symm
     go_wp2;go_ret;exact ⟨rfl,HO.o.trans (HB.o.mono HO.o.size)⟩
  ·have hd:decide ((F.length:Int)>8)=true:=decide_eq_true om_;obtain rfl:false=r:=by rw [<-hr.o];exact (decide_eq_false (fun h=>h2 (by have:=h.2.1;rw [aF] at this;exact this))).symm
   clear h2
   exact t73
 ·replace cA:=cA false (decide_eq_false h1);obtain rfl:false=r:=by rw [<-hr.o];exact (decide_eq_false (fun h=>h1 h.1)).symm
  exact t73
end schema
namespace schema
open Go.RowKit
open field (Gives aC)
def big (p:Form):Bool:=decide (40<p.2.length)
def mY (P:List Form):Bool:=(P.take 41).any big || decide (40<P.length)
theorem EM {P:List Form} (h:mY P=false):P.length<=40/\∀p∈P,p.2.length<=40:=by
 unfold mY at h;rw [Bool.or_eq_false_iff] at h;have h1:P.length<=40:=by have:=h.2;simp at this;omega
 refine ⟨h1,fun p hp=> ?_⟩;have h2:=h.1;rw [List.take_of_length_le om_,List.any_eq_false] at h2;have:=h2 p hp;unfold big at this;simp at this;omega
end schema
namespace record
open Go.RowKit
open field (Va)
instance:DecidableEq Va:=fun a b=>
 if h:a.n=b.n/\a.s.toList=b.s.toList then isTrue (by
  obtain ⟨n,⟨⟨s⟩⟩⟩:=a;obtain ⟨m,⟨⟨t⟩⟩⟩:=b;obtain ⟨h1,h2⟩:=h;simp only at h1 h2;rw [ByteArray.toList_eq,ByteArray.toList_eq] at h2;simp only at h2;subst h1 h2;rfl) else isFalse (by rintro rfl;simp at h)
theorem FN {n m:Int} {s t:ByteArray}:(⟨n,s⟩:Va)=⟨m,t⟩↔n=m/\s.toList=t.toList:=by
 constructor
 ·intro h;cases h;exact ⟨rfl,rfl⟩
 ·rintro ⟨rfl,h⟩;obtain ⟨⟨s⟩⟩:=s;obtain ⟨⟨t⟩⟩:=t;rw [ByteArray.toList_eq,ByteArray.toList_eq] at h;simp only at h;subst h;rfl
end record
namespace step
open Go.RowKit pen
open schema (aT)
open field (bytesOf)
instance:DecidableEq Sp:=fun x y=>
 if h:x.op=y.op/\x.fm=y.fm/\x.fd=y.fd/\x.pl=y.pl/\x.tt=y.tt/\x.a=y.a/\x.b=y.b/\x.f=y.f/\x.v=y.v/\x.t=y.t/\x.l=y.l then isTrue (by
  cases x;cases y;simp only at h
  obtain ⟨rfl,rfl,rfl,rfl,rfl,rfl,rfl,rfl,rfl,rfl,rfl⟩:=h;rfl) else isFalse (by rintro rfl;simp at h)
abbrev fd0:field.Fd:=⟨0,0,0,0,0⟩
abbrev va0:field.Va:=⟨0,⟨#[]⟩⟩
abbrev Sp.zero:Sp:=⟨0,0,0,0,0,0,0,fd0,va0,[],[]⟩
def mem (op:Int):List Nat:=
 if op=1\/op=22 then [0,2,9] else if op=2 then [0,1,10] else if op=3\/op=23 then [0,1,8] else if op=4 then [0,1,5] else if op=24 then [0,1,5,8]
 else if op=5 then [0,1,6] else if op=25 then [0,1,7] else if op=6 then [0,1,4,3] else if op=26 then [0,1,4,3,8] else if op=7\/op=27 then [0,1,2]
 else if op=8\/op=28 then [0,1,3] else if op=9\/op=30 then [0,11] else if op=10\/op=29 then [0] else if op=21 then [0,1] else []
def uses (op:Int):List UInt8:=
 if op=1\/op=22 then [102,112,70,86] else if op=2 then [102,100,86] else if op=3\/op=23 then [102,100,70] else if op=4 then [102,100,98] else if op=24 then [102,100,98,70]
 else if op=5 then [102,100,97,84] else if op=25 then [102,100,84] else if op=6 then [102,100,97,116] else if op=26 then [102,100,97,116,70] else if op=7\/op=27 then [102,100,112]
 else if op=8\/op=28 then [102,100,116] else if op=9\/op=30 then [102,76] else if op=10\/op=29 then [102] else if op=21 then [102,100] else []
theorem ops (op:Int):(op=1\/op=22\/op=2\/op=3\/op=23\/op=4\/op=24\/op=5\/op=25\/op=6\/op=26\/op=7\/op=27\/op=8\/op=28\/op=9\/op=30\/op=10\/op=29\/op=21)\/
  (¬op=1/\¬op=22/\¬op=2/\¬op=3/\¬op=23/\¬op=4/\¬op=24/\¬op=5/\¬op=25/\¬op=6/\¬op=26/\¬op=7/\¬op=27/\¬op=8/\¬op=28/\¬op=9/\¬op=30/\¬op=10/\¬op=29/\¬op=21):=by omega
theorem qy {op:Int} (h:¬op=1/\¬op=22/\¬op=2/\¬op=3/\¬op=23/\¬op=4/\¬op=24/\¬op=5/\¬op=25/\¬op=6/\¬op=26/\¬op=7/\¬op=27/\¬op=8/\¬op=28/\¬op=9/\¬op=30/\¬op=10/\¬op=29/\¬op=21):mem op=[]/\uses op=[]:=by
 unfold mem uses;simp [h]
theorem vF {Q:Int->Prop} (h1:Q 1) (h22:Q 22) (h2:Q 2) (h3:Q 3) (h23:Q 23) (h4:Q 4) (h24:Q 24) (h5:Q 5) (h25:Q 25) (h6:Q 6) (h26:Q 26) (h7:Q 7) (h27:Q 27) (h8:Q 8) (h28:Q 28) (h9:Q 9) (h30:Q 30) (h10:Q 10) (h29:Q 29) (h21:Q 21)
  (h0:∀op,mem op=[]->uses op=[]->Q op) (op:Int):Q op:=by
 rcases ops op with h | h
 ·rcases h with rfl | rfl | rfl | rfl | rfl | rfl | rfl | rfl | rfl | rfl | rfl | rfl | rfl | rfl | rfl | rfl | rfl | rfl | rfl | rfl <;> assumption
 ·exact h0 op (qy h).1 (qy h).2
theorem Ko (op:Int):∀m∈mem op,m<12:=by
 refine vF (Q:=fun op=>∀m∈mem op,m<12) ?_ ?_ ?_ ?_ ?_ ?_ ?_ ?_ ?_ ?_ ?_ ?_ ?_ ?_ ?_ ?_ ?_ ?_ ?_ ?_ ?h0 op;case h0=>intro op h1 h2;rw [h1];simp
 all_goals decide
theorem Aq {op:Int} (h:mem op≠[]):1<=op/\op<=30:=by
 rcases ops op with h1 | h1
 ·omega
 ·exact absurd (qy h1).1 h
theorem Iy (op:Int):(mem op).length<=5:=by
 refine vF (Q:=fun op=>(mem op).length<=5) ?_ ?_ ?_ ?_ ?_ ?_ ?_ ?_ ?_ ?_ ?_ ?_ ?_ ?_ ?_ ?_ ?_ ?_ ?_ ?_ ?h0 op;case h0=>intro op h1 h2;rw [h1];simp
 all_goals decide
theorem Hg (op:Int):(uses op).length<=5:=by
 refine vF (Q:=fun op=>(uses op).length<=5) ?_ ?_ ?_ ?_ ?_ ?_ ?_ ?_ ?_ ?_ ?_ ?_ ?_ ?_ ?_ ?_ ?_ ?_ ?_ ?_ ?h0 op;case h0=>intro op h1 h2;rw [h2];simp
 all_goals decide
def Table (t:List Int) (lim:Int):Prop:=(1<=t.length/\t.length<=64)/\(∀n∈t,0<=n/\n<=lim - 1)/\t.Nodup
instance (t:List Int) (lim:Int):Decidable (Table t lim):=by unfold Table;infer_instance
def Sp.Fine (s:Sp) (m:Nat):Prop:=
 if m=0 then 0<=s.fm/\s.fm<=200 else if m=1 then 0<=s.fd/\s.fd<=255 else if m=2 then 0<=s.pl/\s.pl<=8 else if m=3 then (0<=s.tt/\s.tt<=255)/\s.tt≠s.fd
 else if m=4 then 2<=s.a/\s.a<=1048576 else if m=5 then ((-1048576<=s.a/\s.a<=1048576)/\s.a≠0)/\(-1099511627776<=s.b/\s.b<=1099511627776)
 else if m=6 then (1<=s.a/\s.a<=1000)/\Table s.t s.a else if m=7 then Table s.t 1000 else if m=8 then s.f.Right/\s.f.id=s.fd else if m=9 then s.f.Has s.v
 else if m=10 then (-1099511627776<=s.v.n/\s.v.n<=1099511627776)/\s.v.s.size<=32 else schema.Fine (s.fm,s.l)
instance (s:Sp) (m:Nat):Decidable (s.Fine m):=by unfold Sp.Fine;infer_instance
def Sp.clear (s:Sp) (m:Nat):Sp:=
 if m=0 then { s with fm:=0} else if m=1 then { s with fd:=0} else if m=2 then { s with pl:=0} else if m=3 then { s with tt:=0} else if m=4 then { s with a:=0}
 else if m=5 then { s with a:=0,b:=0} else if m=6 then { s with a:=0,t:=[]} else if m=7 then { s with t:=[]} else if m=8 then { s with f:=fd0} else if m=9 then { s with f:=fd0,v:=va0}
 else if m=10 then { s with v:=va0} else { s with l:=[]}
def Sp.Right (s:Sp):Prop:=(∀m∈mem s.op,s.Fine m)/\mem s.op≠[]/\(mem s.op).foldl Sp.clear { s with op:=0}=Sp.zero
instance (s:Sp):Decidable s.Right:=by unfold Sp.Right;infer_instance
def takeA (e:Sight):field.Fd×Sight:=
 let a:=dY 255 e
 let k:=dY 4 a.2
 let l:=eInt k.2
 let h:=eInt l.2
 let m:=dY 1000 h.2
 (⟨a.1,k.1,l.1,h.1,m.1⟩,m.2)
def xu:Nat->Sight->List field.Fd×Sight
 | 0,e=>([],e)
 | n+1,e=>((xu n e).1++[(takeA (xu n e).2).1],(takeA (xu n e).2).2)
def xJ:Nat->Sight->List Int×Sight
 | 0,e=>([],e)
 | n+1,e=>((xJ n e).1++[((dY 1000 (xJ n e).2).1:Int)],(dY 1000 (xJ n e).2).2)
def jr (c:UInt8) (s:Sp) (e:Sight):Sp×Sight:=
 if c=102 then ({ s with fm:=(dY 200 e).1},(dY 200 e).2) else if c=100 then ({ s with fd:=(dY 255 e).1},(dY 255 e).2)
 else if c=112 then ({ s with pl:=(dY 8 e).1},(dY 8 e).2) else if c=116 then ({ s with tt:=(dY 255 e).1},(dY 255 e).2)
 else if c=97 then ({ s with a:=(dY 1048576 e).1},(dY 1048576 e).2) else if c=98 then ({ s with a:=(eInt e).1,b:=(eInt (eInt e).2).1},(eInt (eInt e).2).2)
 else if c=70 then ({ s with f:=(takeA e).1},(takeA e).2) else if c=86 then ({ s with v:=⟨(eInt e).1,strOf (Jm 32 (eInt e).2).1⟩},(Jm 32 (eInt e).2).2)
 else if c=84 then ({ s with t:=s.t++(xJ (dY 64 e).1 (dY 64 e).2).1},(xJ (dY 64 e).1 (dY 64 e).2).2)
 else ({ s with l:=s.l++(xu (dY 8 e).1 (dY 8 e).2).1},(xu (dY 8 e).1 (dY 8 e).2).2)
def run (cs:List UInt8) (p:Sp×Sight):Sp×Sight:=cs.foldl (fun p c=>jr c p.1 p.2) p
theorem sK (a b:List UInt8) (p:Sp×Sight):run (a++b) p=run b (run a p):=List.foldl_append
end step
namespace step
open Go.RowKit
open field (Gives aC aj)
open schema (aY)
theorem lH (s:Sp) (ta:Option Addr) (tc:Nat) (la:Option Addr) (lc:Nat) (w w':World) (hb:Below (w.alloc (.cells (zP s ta tc la lc) 32)).heap.size (w.alloc (.cells (zP s ta tc la lc) 32)) w'):(w'.cell? ⟨w.heap.size,0,none⟩=some (.int .i64 s.op)/\w'.cell? ⟨w.heap.size,1,none⟩=some (.int .i64 s.fm)/\w'.cell? ⟨w.heap.size,2,none⟩=some (.int .i64 s.fd)/\w'.cell? ⟨w.heap.size,3,none⟩=some (.int .i64 s.pl)/\w'.cell? ⟨w.heap.size,4,none⟩=some (.int .i64 s.tt)/\w'.cell? ⟨w.heap.size,5,none⟩=some (.int .i64 s.a)/\w'.cell? ⟨w.heap.size,6,none⟩=some (.int .i64 s.b)/\w'.cell? ⟨w.heap.size,7,none⟩=some (.int .i64 s.f.id)/\w'.cell? ⟨w.heap.size,8,none⟩=some (.int .i64 s.f.kind)/\w'.cell? ⟨w.heap.size,9,none⟩=some (.int .i64 s.f.lo)/\w'.cell? ⟨w.heap.size,10,none⟩=some (.int .i64 s.f.hi)/\w'.cell? ⟨w.heap.size,11,none⟩=some (.int .i64 s.f.most)/\w'.cell? ⟨w.heap.size,12,none⟩=some (.int .i64 s.v.n)/\w'.cell? ⟨w.heap.size,13,none⟩=some (.string s.v.s)/\w'.cell? ⟨w.heap.size,14,none⟩=some (.slice ta s.t.length tc)/\w'.cell? ⟨w.heap.size,15,none⟩=some (.slice la s.l.length lc))/\Below w.heap.size w w':=by
 have hB:=(Block.new w 32 (zP s ta tc la lc)).later hb;exact ⟨⟨hB.cell 0,hB.cell 1,hB.cell 2,hB.cell 3,hB.cell 4,hB.cell 5,hB.cell 6,hB.cell 7,hB.cell 8,hB.cell 9,hB.cell 10,hB.cell 11,hB.cell 12,hB.cell 13,hB.cell 14,hB.cell 15⟩,aY hb⟩
structure Lists (w:World) (s:Sp) (ta la:Option Addr):Prop where
 t:Ins w ta s.t
 l:field.Fds w la s.l
 mt:s.t.length<=maxLen
 ml:s.l.length<=maxLen
theorem Lists.below {w w':World} {s:Sp} {ta la:Option Addr} (h:Lists w s ta la) (hb:Below w.heap.size w w'):Lists w' s ta la:=⟨h.t.below hb,h.l.below hb,h.mt,h.ml⟩
theorem St.Good.lists {w:World} {p:St} (h:p.Good w):Lists w p.s p.ta p.la:=⟨h.rt,h.rl,Nat.le_trans h.ct h.dt,Nat.le_trans h.cl h.dl⟩
abbrev From (F:FuncId) (args:Array Value) (v:Value) (w0:World):Prop:=∀w',Below w0.heap.size w0 w'->Calls prog F args w' fun e w2=>e=.returned v/\Below w0.heap.size w0 w2
theorem iF {F:FuncId} {args:Array Value} {v:Value} (w0:World) (h:∀w',Calls prog F args w' (Gives v w')):From F args v w0:=fun w' hb=>aj (h w') hb
theorem zn {F:FuncId} {args:Array Value} {v:Value} (w0:World) (h:∀w',Below w0.heap.size w0 w'->Calls prog F args w' (Gives v w')):From F args v w0:=fun w' hb=>aj (h w' hb) hb
end step
namespace field
open Go.RowKit
theorem Bj (f:Fd) (w:World):Calls prog 109 #[zF f] w (Gives (.int .i64 f.long) w):=by
 obtain ⟨i,k,lo,hi,m⟩:=f;simp only;unfold Gives;by_cases hk:k=4
 ·subst hk;rw [show Fd.long ⟨i,4,lo,hi,m⟩=m from rfl];go_enter func109,ntmps109
  exact t65
 ·rw [show Fd.long ⟨i,k,lo,hi,m⟩=0 from if_neg hk];have e4:(k == 4)=false:=by rw [beq_eq_false_iff_ne];exact hk
  clear hk;go_enter func109,ntmps109
  exact t65
end field
namespace field
open Go.RowKit
theorem two (v:Va) (w w':World) (hb:Below (w.alloc (.cells (zV v) 28)).heap.size (w.alloc (.cells (zV v) 28)) w'):(w'.cell? ⟨w.heap.size,0,none⟩=some (.int .i64 v.n)/\w'.cell? ⟨w.heap.size,1,none⟩=some (.string v.s)):=by
 have hB:=(Block.new w 28 (zV v)).later hb;exact ⟨hB.cell 0,hB.cell 1⟩
def W2 (f:Fd) (w:World):World:=(w.alloc (.cells (zF f) 26)).alloc (.cells #[.int .i64 0,.string ⟨#[]⟩] 28)
theorem W2.all (f:Fd) (w w':World) (hb:Below (W2 f w).heap.size (W2 f w) w'):(w'.cell? ⟨w.heap.size,0,none⟩=some (.int .i64 f.id)/\w'.cell? ⟨w.heap.size,1,none⟩=some (.int .i64 f.kind)/\w'.cell? ⟨w.heap.size,2,none⟩=some (.int .i64 f.lo)/\w'.cell? ⟨w.heap.size,3,none⟩=some (.int .i64 f.hi)/\w'.cell? ⟨w.heap.size,4,none⟩=some (.int .i64 f.most))/\Block w' (w.heap.size+1) 28 [.int .i64 0,.string ⟨#[]⟩]/\Below w.heap.size w w':=by
 have h1:Below (w.alloc (.cells (zF f) 26)).heap.size (w.alloc (.cells (zF f) 26)) w':=(aC _ _).trans (hb.mono (by unfold W2;simp));refine ⟨five f w w' h1, ?_,lU f w w' h1⟩;have h2:=(Block.new (w.alloc (.cells (zF f) 26)) 28 [.int .i64 0,.string ⟨#[]⟩]).later hb;simpa using h2
theorem lq {w:World} {b:Nat} {x y:Value} (h:Block w b 28 [x,y]) (n:Int) (s:ByteArray):w.there b 0 (#[.int .i64 n,.string s]:Array Value).size:=h.there 0 2 si_
theorem gK (n:Int) (s:ByteArray):(prog.info? 28).map (·.size)=some (#[.int .i64 n,.string s]:Array Value).size:=by kernel_rfl
theorem fQ (n:Int) (s:ByteArray):(prog.info? 28).map (·.size)=some [Value.int .i64 n,Value.string s].length:=by kernel_rfl
theorem val_one (n:Int) (s:ByteArray):(#[.int .i64 n,.string s]:Array Value).all (·.oneCell')=true:=by simp [Value.oneCell']
theorem jZ {w w2 a:World} {b B:Nat} {x y:Value} {n:Int} {s:ByteArray} (h:Block w b 28 [x,y]) (hw:Hid (w.setCells b 0 (#[.int .i64 n,.string s]:Array Value).toList=w2)) (hb:B<=b) (ha:Below B a w):
  Block w2 b 28 [.int .i64 n,.string s]/\Below B a w2:=by
 constructor
 ·have:=h.setCells (vs:=[.int .i64 n,.string s]) (o:=0);rw [fZ _ _ si_] at this;rw [<-hw.o];exact this
 ·rw [<-hw.o];exact below_setCells ha hb _ _
theorem jy {fn:Func} {p u v:Tmp} {ty:TypeId} {tmps:Array Value} {P:Program} {w:World} {b o:Nat} {cs:List Value} {d:TypeDesc} (h:fn.results=#[.cell p ty,.tmp u,.tmp v])
  (hp:tmps.getD p undef=.pointer (some ⟨b,o,none⟩)) (hc:w.rangeAt b o cs) (hu:P.underlying ty=some d) (hd:d.isRow=true) (hi:(P.info? ty).map (·.size)=some cs.length):
  (results fn tmps).run P w=.ok (.tuple #[.agg cs.toArray,tmps.getD u undef,tmps.getD v undef]) w:=by
 exact t63
end field
namespace schema
open Go.RowKit
open field (Gives aC aj)
theorem aI {B:Nat} {a w:World} (h:Below B a w):Below B a w.drew:=below_drewN h 1
def ai (l:List Int) (x:Int):Int:=if x∈l then (l.idxOf x:Int) else -1
theorem idxOf_hit:∀(l:List Int) (k:Nat) (x:Int),x∉l.take k->l[k]?=some x->l.idxOf x=k:=by
 intro l;induction l with
 | nil=>intro k x _ h;simp at h
 | cons y l ih=>
  intro k x hn h;cases k with
  | zero=>simp at h;subst h;simp
  | succ k=>
   simp only [List.take_succ_cons,List.mem_cons,not_or] at hn;have hb:(y == x)=false:=beq_eq_false_iff_ne.2 (Ne.symm hn.1);rw [List.idxOf_cons,hb,ih k x hn.2 (by simpa using h)];rfl
theorem kE {l:List Int} {k:Nat} {x:Int} (hn:x∉l.take k) (h:l[k]?=some x):ai l x=k:=by
 unfold ai;rw [if_pos (List.mem_of_getElem? h),idxOf_hit l k x hn h]
theorem kG {l:List Int} {x:Int} (hn:x∉l):ai l x= -1:=if_neg hn
theorem jo {l:List Int} {k:Nat} {x y:Int} (hn:x∉l.take k) (h:l[k]?=some y) (hy:y≠x):x∉l.take (k+1):=by
 rw [aT h];simp [hn];omega
theorem wH {L:List field.Fd} {k:Nat} {p:field.Fd} (h:L[k]?=some p):(ids L)[k]?=some p.id:=by simp [ids,h]
theorem jI (L:List field.Fd):(ids L).length=L.length:=List.length_map _
end schema
theorem t115{P:Prop}(h:P:=by
 rintro rfl;unfold Block at hB;rw [hB] at hk;exact ht (Obj.cells.inj (Option.some.inj hk)).2.1):P:=h
namespace schema
open Go.RowKit
def jR (e:TypeId) (w w':World):Prop:=∀(k:Nat) (cs:Array Value) (fr:Nat×Nat),w.heap[k]?=some (Obj.cells cs e fr)->w'.heap[k]?=some (Obj.cells cs e fr)
theorem jR.trans {e:TypeId} {a b c:World} (h:jR e a b) (k:jR e b c):jR e a c:=fun i cs fr hi=>k i cs fr (h i cs fr hi)
theorem rq (e:TypeId) {B e2 sz n:Nat} {u:Value} {xs:List Value} {w w':World} (ho:w.ownsRow B e2 sz u n xs) (hg:w.grownBy w' u.ownBlock) (ht:e2≠e):jR e w w':=by
 intro k cs fr hk;refine (hg.block k (Array.getElem?_eq_some_iff.1 hk).1 ?_).trans hk;intro he;rcases ho.2 with ⟨hv,_⟩ | ⟨g,cap,cur,hv,_,hh,_⟩
 ·rw [hv] at he;simp [Value.ownBlock] at he
 ·rw [hv] at he;simp [Value.ownBlock] at he;subst he;rw [hh] at hk;exact ht (Obj.cells.inj (Option.some.inj hk)).2.1
theorem lN (e:TypeId) {g:Nat} {t:TypeId} {cs:List Value} {w:World} (hB:Block w g t cs) (ht:t≠e) (o:Nat) (v:Value):jR e w (w.setCell ⟨g,o,none⟩ v):=by
 intro k cs' fr hk;refine (Below.heap_setCell w ⟨g,o,none⟩ v k ?_).trans hk
 exact t115
theorem jR.block {w w':World} {k:Nat} {e:TypeId} {cs:List Value} (h:jR e w w') (hB:Block w k e cs):Block w' k e cs:=h k _ _ hB
theorem jR.row {w w':World} {B e sz n:Nat} {v:Value} {xs:List Value} (h:jR e w w') (ho:w.ownsRow B e sz v n xs):w'.ownsRow B e sz v n xs:=by
 refine ⟨ho.1, ?_⟩;rcases ho.2 with h0 | ⟨g,cap,cur,hv,h1,hg,h2⟩
 ·exact .inl h0
 ·exact .inr ⟨g,cap,cur,hv,h1,h g _ _ hg,h2⟩
theorem jS {w:World} {base n sz:Nat} {a:Option Addr} {cap:Nat} {xs:List Value} {e:TypeId} (h:w.ownsRow base e sz (.slice a n cap) n xs):n<=cap/\cap<=maxLen:=by
 rcases h.2 with ⟨hv,h0⟩ | ⟨b,cap',cur,hv,_,hg,h1,h2,_⟩
 ·cases hv;exact ⟨by omega,by unfold maxLen;omega⟩
 ·cases hv;exact ⟨h1,h2⟩
theorem aQ {o:Oper} {a:Act} {w:World} {ty:TypeId} {x:Operand} {ad:Addr} {q:Option Addr} {n c:Nat} (ho:o.op=.load ty x) (hc:w.cell? ad=some (.slice q n c)) (hu:∀w',(isAgg ty).run prog w'=.ok false w') (hx:a.eval x=.pointer (some ad):=by kernel_rfl):
  (execOp a.eval o).run prog w=.ok (.value (.slice q n c)) w:=by
 unfold execOp;rw [ho];simp only [hx];go_simp
end schema
namespace plan
open Go Go.RowKit
theorem iQ {P:Program} {md:Region.Mode} {Q:Exit->Act->World->Prop} {l:List Oper} {S:World->Prop} {listed:Array Bool} {a:Act} {w w1:World} (i:Nat) (o:Oper) (hi:l[i]?=some o) (hg:o.guard=none) (hd:o.dst=none)
  (hv:(execOp a.eval o).run P w=.ok .skip w1) (hS:S w1) (h:Q .normal a w1) (hr:Region.ready md l.toArray listed=[i]:=by kernel_rfl) (hr2:Region.ready md l.toArray (listed.setIfInBounds i true)=[]:=by kernel_rfl):wpAnyH P md l.toArray (NoPanic Q) S 1 listed a w:=by
 refine wpAnyH_all hr si_ fun j hj=> ?_
 obtain rfl:j=i:=by simpa using hj
 have hi':l.toArray[j]?=some o:=by simpa using hi
 have hw:Region.wanted o (yielded l.toArray a.tmps)=true:=by unfold Region.wanted;rw [hg]
 unfold wpOp;have e:a.put o.dst undef=a:=by rw [hd];rfl
 simp only [hi',hw,if_true,Oper.wp,hv,Oper.upon];exact .inl ⟨hS,hr2,NoPanic.normal (by rw [e];exact h)⟩
end plan
namespace schema
open Go.RowKit
theorem mF {o:Oper} {a:Act} {w:World} {x y:Operand} {ad:Addr} {v:Value} {p:Option Addr} {n c:Nat} (ho:o.op=.store 30 x y) (hc:w.cell? ad=some v) (hf:w.frozen? ad=false) (hx:a.eval x=.pointer (some ad):=by kernel_rfl) (hy:a.eval y=.slice p n c:=by kernel_rfl):(execOp a.eval o).run prog w=.ok .skip (w.setCell ad (.slice p n c)):=by
 unfold execOp;rw [ho];simp only [hx,hy];go_simp
end schema
namespace typing
open Go.RowKit schema field step
theorem wY {l:List Int} {x:Int}:0<=ai l x↔x∈l:=by
 unfold ai;split <;> simp_all
theorem lF {l:List Int} {x:Int} (h:0<=ai l x):(ai l x).toNat<l.length/\l[(ai l x).toNat]?=some x:=by
 have hm:=wY.1 h;unfold ai;rw [if_pos hm];simp only [Int.toNat_natCast];have:=List.idxOf_lt_length_of_mem hm;exact ⟨this,by rw [List.getElem?_eq_getElem this,List.getElem_idxOf]⟩
theorem nP {l:List Int} {x:Int} (h:x∉l):ai l x= -1:=if_neg h
structure Ch where
 (s:Sp) (fi:Int) (L:List field.Fd) (kn:Bool) (at_:Int) (old:field.Fd)
def found (c:Ch):Bool:=if c.s.op=9 then true else if c.s.op=1\/c.s.op=10 then c.kn else decide (0<=c.at_)
def twice (c:Ch):Bool:=if c.s.op=9 then c.kn else if c.s.op=1 then decide (0<=ai (ids c.L) c.s.f.id) else if c.s.op=6\/c.s.op=8 then decide (0<=ai (ids c.L) c.s.tt) else false
def beyond (c:Ch):Bool:=if c.s.op=1 then decide ((c.L.length:Int)<c.s.pl) else if c.s.op=7 then decide ((c.L.length:Int) - 1<c.s.pl) else false
def scA (c:Ch):Int:=c.s.a*c.old.lo+c.s.b
def scB (c:Ch):Int:=c.s.a*c.old.hi+c.s.b
def low (c:Ch):Int:=if scB c<scA c then scB c else scA c
def high (c:Ch):Int:=if scA c<scB c then scB c else scA c
def fP (c:Ch):Bool:=
 if c.s.op=2 then decide (c.old.Has c.s.v) else if c.s.op=3 then decide (c.old.Wider c.s.f) else if c.s.op=4 then decide (c.old.kind=1/\ -1099511627776<=low c/\high c<=1099511627776)
 else if c.s.op=5 then decide (c.old.kind=3/\c.old.most=c.s.t.length) else if c.s.op=6 then decide (c.old.kind=1/\c.old.lo=0) else true
def err (c:Ch):Nat:=if found c=false then 8 else if twice c=true then 9 else if beyond c=true then 3 else if fP c=false then 17 else 0
def mn (a b:Int):Int:=if b<a then b else a
def dX (c:Ch):List field.Fd:=
 if c.s.op=2 then [] else if c.s.op=3 then [c.s.f] else if c.s.op=4 then [{ c.old with lo:=low c,hi:=high c}] else if c.s.op=5 then [{ c.old with most:=c.s.a}]
 else if c.s.op=6 then [{ c.old with hi:=Int.tdiv c.old.hi c.s.a},⟨c.s.tt,1,0,mn (c.s.a - 1) c.old.hi,0⟩] else if c.s.op=8 then [{ c.old with id:=c.s.tt}] else [c.old]
def fD (L:List field.Fd) (k:Nat):List field.Fd:=L.take k++L.drop (k+1)
def dK (L:List field.Fd) (k:Nat) (f:field.Fd):List field.Fd:=L.take k++([f]++L.drop k)
def fields (c:Ch):List field.Fd:=
 if c.s.op=1 then dK c.L c.s.pl.toNat c.s.f else if c.s.op=7 then dK (fD c.L c.at_.toNat) c.s.pl.toNat c.old
 else c.L.take c.at_.toNat++(dX c++c.L.drop (c.at_.toNat+1))
def pos:List schema.Form->Int->Nat
 | [],_=>0
 | p :: r,x=>if p.1<x then pos r x+1 else 0
def CG (F:List schema.Form) (i:Nat) (l:List field.Fd):List schema.Form:=match F[i]? with
 | some p=>F.set i (p.1,l)
 | none=>F
def applied (F:List schema.Form) (c:Ch):List schema.Form:=
 if c.s.op=9 then F.take (pos F c.s.fm)++([(c.s.fm,c.s.l)]++F.drop (pos F c.s.fm)) else if c.s.op=10 then F.take (pos F c.s.fm)++F.drop (pos F c.s.fm+1) else CG F (pos F c.s.fm) (fields c)
def bG (L:List field.Fd) (k:Int):field.Fd:=if 0<=k then L.getD k.toNat fd0 else fd0
def named (F:List schema.Form) (x:Int):Option schema.Form:=F.find? (fun p=>p.1 == x)
def aJ (F:List schema.Form) (s:Sp):Ch:=match named F s.fm with
 | some p=>⟨s,s.fm,p.2,true,ai (ids p.2) s.fd,bG p.2 (ai (ids p.2) s.fd)⟩
 | none=>⟨s,0,[],false, -1,fd0⟩
def Fit (v:Int) (F:List schema.Form) (s:Sp):Prop:=Right v F/\s.Right/\s.op<=10
instance (v:Int) (F:List schema.Form) (s:Sp):Decidable (Fit v F s):=by unfold Fit;infer_instance
def on (v:Int) (F:List schema.Form) (s:Sp):Int×List schema.Form×Nat:=
 if Fit v F s then (if err (aJ F s)=0 then (if Right v (applied F (aJ F s)) then (v,applied F (aJ F s),0) else (0,[],7)) else (0,[],err (aJ F s))) else (0,[],2)
def all:Nat->Int->List schema.Form->List Sp->Int×List schema.Form×Nat×Nat
 | _,v,F,[]=>(v,F,0,0)
 | k,v,F,s :: r=>if (on v F s).2.2=0 then all (k+1) (on v F s).1 (on v F s).2.1 r else (0,[],k,(on v F s).2.2)
def Sorted (F:List schema.Form):Prop:=(F.map (·.1)).Pairwise (· < ·)
theorem Sorted.tail {p:schema.Form} {r:List schema.Form} (h:Sorted (p :: r)):Sorted r:=(List.pairwise_cons.1 h).2
theorem Sorted.head {p:schema.Form} {r:List schema.Form} (h:Sorted (p :: r)):∀q∈r,p.1<q.1:=fun q hq=>(List.pairwise_cons.1 h).1 q.1 (List.mem_map_of_mem hq)
theorem gU {v:Int} {F:List schema.Form} (h:Right v F):Sorted F:=h.2.2.2
theorem Dp (F:List schema.Form) (x:Int):pos F x<=F.length:=by
 induction F with
 | nil=>simp [pos]
 | cons p r ih=>unfold pos;split <;> simp <;> omega
theorem pos_eq {F:List schema.Form} {x:Int} {i:Nat} (hs:Sorted F) (hi:i<=F.length) (h1:∀p∈F.take i,p.1<x) (h2:∀p∈F.drop i,¬p.1<x):pos F x=i:=by
 induction F generalizing i with
 | nil=>simp at hi;simp [pos,hi]
 | cons p r ih=>
  unfold pos;cases i with
  | zero=>rw [if_neg (h2 p si_)]
  | succ i=>
   rw [if_pos (h1 p si_),ih hs.tail (by simpa using hi) (fun q hq=>h1 q (by simp [hq])) (fun q hq=>h2 q (by simpa using hq))]
theorem pos_at {F:List schema.Form} {p:schema.Form} (hs:Sorted F) (hp:p∈F):F[pos F p.1]?=some p:=by
 induction F with
 | nil=>simp at hp
 | cons q r ih=>
  unfold pos;rcases List.mem_cons.1 hp with rfl | h
  ·simp
  ·rw [if_pos (hs.head p h)];simpa using ih hs.tail h
theorem cZ {F:List schema.Form} {x:Int} {p:schema.Form} (h:named F x=some p):p∈F/\p.1=x:=⟨List.mem_of_find?_eq_some h,by have:=List.find?_some h;simpa using this⟩
theorem lM {F:List schema.Form} {x:Int} (h:named F x=none):x∉F.map (·.1):=by
 intro hm;obtain ⟨p,hp,rfl⟩:=List.mem_map.1 hm;have:=List.find?_eq_none.1 h p hp;simp at this
theorem zQ {F:List schema.Form} {x:Int} {p:schema.Form} (hs:Sorted F) (h:named F x=some p) (l:List field.Fd):CG F (pos F x) l=F.set (pos F x) (x,l):=by
 obtain ⟨h1,h2⟩:=cZ h;have:=pos_at hs h1;rw [h2] at this;unfold CG;rw [this];simp [h2]
def go (x:Int) (l:List field.Fd):List schema.Form->Bool->List schema.Form
 | [],d=>if d then [] else [(x,l)]
 | p :: r,d=>(if d=false/\x<=p.1 then [(x,l)] else [])++((if p.1=x then [] else [p])++go x l r (d || decide (x<=p.1)))
def bK (F:List schema.Form) (x:Int) (l:List field.Fd):List schema.Form:=go x l F (decide (l=[]))
theorem vH (x:Int) (l:List field.Fd) (F:List schema.Form):go x l F true=F.filter (fun p=>decide (p.1≠x)):=by
 induction F with
 | nil=>rfl
 | cons p r ih=>
  unfold go;simp only [Bool.true_eq_false,false_and,if_false,List.nil_append,Bool.true_or,ih,List.filter_cons];by_cases h:p.1=x <;> simp [h]
theorem filter_all {F:List schema.Form} {x:Int} (h:∀p∈F,p.1≠x):F.filter (fun p=>decide (p.1≠x))=F:=List.filter_eq_self.2 (fun p hp=>by simpa using h p hp)
theorem JR {F:List schema.Form} {p:schema.Form} (hs:Sorted F) (hp:p∈F) (l:List field.Fd):go p.1 l F false=F.set (pos F p.1) (p.1,l):=by
 induction F with
 | nil=>simp at hp
 | cons q r ih=>
  unfold go pos;rcases List.mem_cons.1 hp with rfl | h
  ·have:∀t∈r,t.1≠p.1:=fun t ht=>by have:=hs.head t ht;omega
   simp [vH];exact fun a b hm=>this _ hm
  ·have h1:=hs.head p h;have h2:¬p.1<=q.1:=by omega
   have h3:¬q.1=p.1:=by omega
   simp [h1,h2,h3,ih hs.tail h]
theorem Kv {F:List schema.Form} {x:Int} (hs:Sorted F) (hx:x∉F.map (·.1)) (l:List field.Fd):go x l F false=F.take (pos F x)++([(x,l)]++F.drop (pos F x)):=by
 induction F with
 | nil=>simp [go,pos]
 | cons q r ih=>
  simp only [List.map_cons,List.mem_cons,not_or] at hx;unfold go pos;by_cases h:q.1<x
  ·have h2:¬x<=q.1:=by omega
   have h3:¬q.1=x:=by omega
   simp [h,h2,h3,ih hs.tail hx.2]
  ·have h2:x<=q.1:=by omega
   have h3:¬q.1=x:=fun e=>hx.1 e.symm
   have:∀t∈r,t.1≠x:=fun t ht e=>hx.2 (e ▸ List.mem_map_of_mem ht)
   simp [h,h2,h3,vH];exact fun a b hm=>this _ hm
theorem go_cut {F:List schema.Form} {p:schema.Form} (hs:Sorted F) (hp:p∈F) (l:List field.Fd):go p.1 l F true=F.take (pos F p.1)++F.drop (pos F p.1+1):=by
 rw [vH];induction F with
 | nil=>simp at hp
 | cons q r ih=>
  unfold pos;rcases List.mem_cons.1 hp with rfl | h
  ·have:∀t∈r,t.1≠p.1:=fun t ht=>by have:=hs.head t ht;omega
   rw [List.filter_cons];simp only [ne_eq,not_true_eq_false,decide_false,Bool.false_eq_true,if_false,Int.lt_irrefl,List.take_zero,List.nil_append,List.drop_succ_cons,List.drop_zero];exact filter_all this
  ·have h1:=hs.head p h;have h3:¬q.1=p.1:=by omega
   rw [List.filter_cons];simp only [ne_eq,h3,not_false_eq_true,decide_true,if_true,h1,List.take_succ_cons,List.cons_append,List.drop_succ_cons];have:=ih hs.tail h;simp only [ne_eq] at this;rw [this]
def nf (op:Int):Bool:=decide (op≠1/\op≠9/\op≠10)
def names (F:List schema.Form) (s:Sp):Nat:=
 if s.op=9 then (if (named F s.fm).isSome then 9 else 0) else match named F s.fm with
  | none=>8
  | some p=>if nf s.op=true/\ai (ids p.2) s.fd<0 then 8 else if (s.op=1/\0<=ai (ids p.2) s.f.id)\/((s.op=6\/s.op=8)/\0<=ai (ids p.2) s.tt) then 9
    else if (s.op=1/\(p.2.length:Int)<s.pl)\/(s.op=7/\(p.2.length:Int)<=s.pl) then 3 else 0
def types (f:field.Fd) (s:Sp):List field.Fd×Bool:=
 if s.op=2 then ([],decide (f.Has s.v)) else if s.op=3 then ([s.f],decide (f.Wider s.f))
 else if s.op=4 then ([⟨f.id,1,low ⟨s,0,[],false,0,f⟩,high ⟨s,0,[],false,0,f⟩,0⟩],decide (f.kind=1/\field.Fd.Right ⟨f.id,1,low ⟨s,0,[],false,0,f⟩,high ⟨s,0,[],false,0,f⟩,0⟩))
 else if s.op=5 then ([⟨f.id,3,0,0,s.a⟩],decide (f.kind=3/\f.most=s.t.length))
 else if s.op=6 then ([⟨f.id,1,0,Int.tdiv f.hi s.a,0⟩,⟨s.tt,1,0,mn f.hi (s.a - 1),0⟩],decide (f.kind=1/\f.lo=0))
 else if s.op=8 then ([{ f with id:=s.tt}],true) else ([f],true)
def puts (L:List field.Fd) (k:Nat):List field.Fd->List field.Fd
 | []=>L
 | f :: r=>puts (dK L k f) (k+1) r
end typing
section
structure zH_ (h:typing.Ch) (a:Option Addr) (c:Nat) (d:Option Addr) (e:Nat) (f:Option Addr) (g:Nat) where
def zH (h:typing.Ch) (a:Option Addr) (c:Nat) (d:Option Addr) (e:Nat) (f:Option Addr) (g:Nat):zH_ h a c d e f g:=⟨⟩
instance (h:typing.Ch) (a:Option Addr) (c:Nat) (d:Option Addr) (e:Nat) (f:Option Addr) (g:Nat) (m:zH_ h a c d e f g):CoeDep (zH_ h a c d e f g) m (List Value):=⟨[.int .i64 h.s.op,.int .i64 h.s.fm,.int .i64 h.s.fd,.int .i64 h.s.pl,.int .i64 h.s.tt,.int .i64 h.s.a,.int .i64 h.s.b,.int .i64 h.s.f.id,.int .i64 h.s.f.kind,.int .i64 h.s.f.lo,.int .i64 h.s.f.hi,.int .i64 h.s.f.most,.int .i64 h.s.v.n,.string h.s.v.s,.slice a h.s.t.length c,.slice d h.s.l.length e,.int .i64 h.fi,.slice f h.L.length g,.bool h.kn,.int .i64 h.at_,.int .i64 h.old.id,.int .i64 h.old.kind,.int .i64 h.old.lo,.int .i64 h.old.hi,.int .i64 h.old.most]⟩
instance (h:typing.Ch) (a:Option Addr) (c:Nat) (d:Option Addr) (e:Nat) (f:Option Addr) (g:Nat) (m:zH_ h a c d e f g):CoeDep (zH_ h a c d e f g) m (Array Value):=⟨#[.int .i64 h.s.op,.int .i64 h.s.fm,.int .i64 h.s.fd,.int .i64 h.s.pl,.int .i64 h.s.tt,.int .i64 h.s.a,.int .i64 h.s.b,.int .i64 h.s.f.id,.int .i64 h.s.f.kind,.int .i64 h.s.f.lo,.int .i64 h.s.f.hi,.int .i64 h.s.f.most,.int .i64 h.s.v.n,.string h.s.v.s,.slice a h.s.t.length c,.slice d h.s.l.length e,.int .i64 h.fi,.slice f h.L.length g,.bool h.kn,.int .i64 h.at_,.int .i64 h.old.id,.int .i64 h.old.kind,.int .i64 h.old.lo,.int .i64 h.old.hi,.int .i64 h.old.most]⟩
instance (h:typing.Ch) (a:Option Addr) (c:Nat) (d:Option Addr) (e:Nat) (f:Option Addr) (g:Nat) (m:zH_ h a c d e f g):CoeDep (zH_ h a c d e f g) m Value:=⟨.agg #[.int .i64 h.s.op,.int .i64 h.s.fm,.int .i64 h.s.fd,.int .i64 h.s.pl,.int .i64 h.s.tt,.int .i64 h.s.a,.int .i64 h.s.b,.int .i64 h.s.f.id,.int .i64 h.s.f.kind,.int .i64 h.s.f.lo,.int .i64 h.s.f.hi,.int .i64 h.s.f.most,.int .i64 h.s.v.n,.string h.s.v.s,.slice a h.s.t.length c,.slice d h.s.l.length e,.int .i64 h.fi,.slice f h.L.length g,.bool h.kn,.int .i64 h.at_,.int .i64 h.old.id,.int .i64 h.old.kind,.int .i64 h.old.lo,.int .i64 h.old.hi,.int .i64 h.old.most]⟩
end
section
structure zG_ (h:typing.Ch) (a:Option Addr) (c:Nat) (d:Option Addr) (e:Nat) where
def zG (h:typing.Ch) (a:Option Addr) (c:Nat) (d:Option Addr) (e:Nat):zG_ h a c d e:=⟨⟩
instance (h:typing.Ch) (a:Option Addr) (c:Nat) (d:Option Addr) (e:Nat) (m:zG_ h a c d e):CoeDep (zG_ h a c d e) m (List Value):=⟨[.int .i64 h.s.op,.int .i64 h.s.fm,.int .i64 h.s.fd,.int .i64 h.s.pl,.int .i64 h.s.tt,.int .i64 h.s.a,.int .i64 h.s.b,.int .i64 h.s.f.id,.int .i64 h.s.f.kind,.int .i64 h.s.f.lo,.int .i64 h.s.f.hi,.int .i64 h.s.f.most,.int .i64 h.s.v.n,.string h.s.v.s,.slice a h.s.t.length c,.slice d h.s.l.length e,.int .i64 0,.slice none 0 0,.bool false,.int .i64 0,.int .i64 0,.int .i64 0,.int .i64 0,.int .i64 0,.int .i64 0]⟩
instance (h:typing.Ch) (a:Option Addr) (c:Nat) (d:Option Addr) (e:Nat) (m:zG_ h a c d e):CoeDep (zG_ h a c d e) m (Array Value):=⟨#[.int .i64 h.s.op,.int .i64 h.s.fm,.int .i64 h.s.fd,.int .i64 h.s.pl,.int .i64 h.s.tt,.int .i64 h.s.a,.int .i64 h.s.b,.int .i64 h.s.f.id,.int .i64 h.s.f.kind,.int .i64 h.s.f.lo,.int .i64 h.s.f.hi,.int .i64 h.s.f.most,.int .i64 h.s.v.n,.string h.s.v.s,.slice a h.s.t.length c,.slice d h.s.l.length e,.int .i64 0,.slice none 0 0,.bool false,.int .i64 0,.int .i64 0,.int .i64 0,.int .i64 0,.int .i64 0,.int .i64 0]⟩
instance (h:typing.Ch) (a:Option Addr) (c:Nat) (d:Option Addr) (e:Nat) (m:zG_ h a c d e):CoeDep (zG_ h a c d e) m Value:=⟨.agg #[.int .i64 h.s.op,.int .i64 h.s.fm,.int .i64 h.s.fd,.int .i64 h.s.pl,.int .i64 h.s.tt,.int .i64 h.s.a,.int .i64 h.s.b,.int .i64 h.s.f.id,.int .i64 h.s.f.kind,.int .i64 h.s.f.lo,.int .i64 h.s.f.hi,.int .i64 h.s.f.most,.int .i64 h.s.v.n,.string h.s.v.s,.slice a h.s.t.length c,.slice d h.s.l.length e,.int .i64 0,.slice none 0 0,.bool false,.int .i64 0,.int .i64 0,.int .i64 0,.int .i64 0,.int .i64 0,.int .i64 0]⟩
end
section
structure zY_  where
def zY  :zY_  :=⟨⟩
instance  (m:zY_):CoeDep (zY_) m (List Value):=⟨[.int .i64 0,.int .i64 0,.int .i64 0,.int .i64 0,.int .i64 0,.int .i64 0,.int .i64 0,.int .i64 0,.int .i64 0,.int .i64 0,.int .i64 0,.int .i64 0,.int .i64 0,.string ⟨#[]⟩,.slice none 0 0,.slice none 0 0,.int .i64 0,.slice none 0 0,.bool false,.int .i64 0,.int .i64 0,.int .i64 0,.int .i64 0,.int .i64 0,.int .i64 0]⟩
instance  (m:zY_):CoeDep (zY_) m (Array Value):=⟨#[.int .i64 0,.int .i64 0,.int .i64 0,.int .i64 0,.int .i64 0,.int .i64 0,.int .i64 0,.int .i64 0,.int .i64 0,.int .i64 0,.int .i64 0,.int .i64 0,.int .i64 0,.string ⟨#[]⟩,.slice none 0 0,.slice none 0 0,.int .i64 0,.slice none 0 0,.bool false,.int .i64 0,.int .i64 0,.int .i64 0,.int .i64 0,.int .i64 0,.int .i64 0]⟩
instance  (m:zY_):CoeDep (zY_) m Value:=⟨.agg #[.int .i64 0,.int .i64 0,.int .i64 0,.int .i64 0,.int .i64 0,.int .i64 0,.int .i64 0,.int .i64 0,.int .i64 0,.int .i64 0,.int .i64 0,.int .i64 0,.int .i64 0,.string ⟨#[]⟩,.slice none 0 0,.slice none 0 0,.int .i64 0,.slice none 0 0,.bool false,.int .i64 0,.int .i64 0,.int .i64 0,.int .i64 0,.int .i64 0,.int .i64 0]⟩
end
namespace record
open Go.RowKit
open field (Va bytesOf jK)
open schema (Fine size aT)
def cu:List field.Fd->List Va->Prop
 | [],[]=>True
 | f :: L,v :: V=>f.Has v/\cu L V
 | [],_ :: _=>False
 | _ :: _,[]=>False
instance IZ:∀L V,Decidable (cu L V)
 | [],[]=>.isTrue trivial
 | f :: L,v :: V=>by unfold cu;have:=IZ L V;infer_instance
 | [],_ :: _=>.isFalse id
 | _ :: _,[]=>.isFalse id
theorem cu.length:∀ {L:List field.Fd} {V:List Va},cu L V->L.length=V.length
 | [],[],_=>rfl
 | f :: L,v :: V,h=>by simp [cu.length h.2]
theorem qF:∀ {L:List field.Fd} {V:List Va} {k:Nat} {f:field.Fd} {v:Va},L[k]?=some f->V[k]?=some v->(cu (L.take (k+1)) (V.take (k+1))↔cu (L.take k) (V.take k)/\f.Has v)
 | [],_,k,f,v,h,_=>by simp at h
 | _ :: _,[],k,f,v,_,h=>by simp at h
 | g :: L,u :: V,0,f,v,h,h'=>by
  simp at h h';subst h h';simp [cu]
 | g :: L,u :: V,k+1,f,v,h,h'=>by
  have:=qF (L:=L) (V:=V) (k:=k) (by simpa using h) (by simpa using h');simp only [List.take_succ_cons,cu,this];exact and_assoc.symm
theorem cu.at :∀ {L:List field.Fd} {V:List Va} {k:Nat} {f:field.Fd} {v:Va},cu L V->L[k]?=some f->V[k]?=some v->f.Has v
 | [],_,k,f,v,_,h,_=>by simp at h
 | _ :: _,[],k,f,v,_,_,h=>by simp at h
 | g :: L,u :: V,0,f,v,hh,h,h'=>by
  simp at h h';subst h h';exact hh.1
 | g :: L,u :: V,k+1,f,v,hh,h,h'=>hh.2.at (k:=k) (by simpa using h) (by simpa using h')
def Has (i:Int) (L:List field.Fd) (j:Int) (V:List Va):Prop:=Fine (i,L)/\j=i/\cu L V
instance (i:Int) (L:List field.Fd) (j:Int) (V:List Va):Decidable (Has i L j V):=by unfold Has;infer_instance
theorem nC {i:Int} {L:List field.Fd} (h:Fine (i,L)):L.length<=8:=h.2.1.2
def eY:List field.Fd->List Va->List Nat
 | f :: L,v :: V=>f.dA v++eY L V
 | [],_=>[]
 | _ :: _,[]=>[]
theorem Bf (V:List Va):eY [] V=[]:=by cases V <;> rfl
theorem tZ:∀ {L:List field.Fd} {V:List Va} {k:Nat} {f:field.Fd} {v:Va},L[k]?=some f->V[k]?=some v->eY (L.take (k+1)) (V.take (k+1))=eY (L.take k) (V.take k)++f.dA v
 | [],_,k,f,v,h,_=>by simp at h
 | _ :: _,[],k,f,v,_,h=>by simp at h
 | g :: L,u :: V,0,f,v,h,h'=>by
  simp at h h';subst h h';simp [eY]
 | g :: L,u :: V,k+1,f,v,h,h'=>by
  have:=tZ (L:=L) (V:=V) (k:=k) (by simpa using h) (by simpa using h');simp only [List.take_succ_cons,eY,this,List.append_assoc]
theorem sJ:∀(L:List field.Fd) (V:List Va),∀x∈eY L V,x<256
 | [],V,x,h=>by rw [Bf] at h;simp at h
 | _ :: _,[],x,h=>by simp [eY] at h
 | f :: L,v :: V,x,h=>by
  rw [eY,List.mem_append] at h;rcases h with h | h
  ·exact f.DR v x h
  ·exact sJ L V x h
theorem vK (f:field.Fd) (v:Va):(f.dA v).length<=f.size:=by
 by_cases h:f.Has v
 ·exact (field.Fd.ny h []).2
 ·rw [show f.dA v=[] by unfold field.Fd.dA;rw [if_pos h]];exact Nat.zero_le _
theorem Eo:∀(L:List field.Fd) (V:List Va),(eY L V).length<=size L
 | [],V=>by rw [Bf];exact Nat.zero_le _
 | _ :: _,[]=>Nat.zero_le _
 | f :: L,v :: V=>by
  have h1:=vK f v;have h2:=Eo L V;rw [eY,List.length_append];unfold size at h2 ⊢;rw [List.map_cons,List.sum_cons];omega
theorem wF (L:List field.Fd) (V:List Va):(eY L V).length<=33*L.length:=Nat.le_trans (Eo L V) (schema.size_le L)
def oV (i:Int) (L:List field.Fd) (j:Int) (V:List Va):Int:=if ¬Fine (i,L) then 2 else if ¬(j=i/\cu L V) then 16 else 0
def dA (i:Int) (L:List field.Fd) (j:Int) (V:List Va):List Nat:=if Has i L j V then eY L V else []
def jr:List field.Fd->List Nat->List Va×List Nat×Int
 | [],xs=>([],xs,0)
 | f :: L,xs=>if (f.take xs).e=0 then (⟨(f.take xs).n,strOf (f.take xs).s⟩ :: (jr L (xs.drop (f.take xs).c)).1,(jr L (xs.drop (f.take xs).c)).2) else ([],xs,(f.take xs).e)
theorem CV {L:List field.Fd} {k:Nat} {f:field.Fd} {xs:List Nat} (h:L[k]?=some f) (he:(f.take xs).e=0):
  jr (L.drop k) xs=(⟨(f.take xs).n,strOf (f.take xs).s⟩ :: (jr (L.drop (k+1)) (xs.drop (f.take xs).c)).1,(jr (L.drop (k+1)) (xs.drop (f.take xs).c)).2):=by
 obtain ⟨hk,hf⟩:=List.getElem?_eq_some_iff.1 h;rw [List.drop_eq_getElem_cons hk,hf,jr,if_pos he]
theorem CO {L:List field.Fd} {k:Nat} {f:field.Fd} {xs:List Nat} (h:L[k]?=some f) (he:(f.take xs).e≠0):jr (L.drop k) xs=([],xs,(f.take xs).e):=by
 obtain ⟨hk,hf⟩:=List.getElem?_eq_some_iff.1 h;rw [List.drop_eq_getElem_cons hk,hf,jr,if_neg he]
theorem yT (L:List field.Fd) (xs:List Nat):jr (L.drop L.length) xs=([],xs,0):=by rw [List.drop_length];rfl
def fin (i:Int) (t:List Va×List Nat×Int):Int×List Va×Int:=if t.2.2≠0 then (0,[],t.2.2) else if t.2.1.length≠0 then (0,[],6) else (i,t.1,0)
def onto (V:List Va) (t:List Va×List Nat×Int):List Va×List Nat×Int:=(V++t.1,t.2)
theorem H7 (t:List Va×List Nat×Int):onto [] t=t:=rfl
theorem Fj {L:List field.Fd} {k:Nat} {f:field.Fd} {xs:List Nat} (V:List Va) (h:L[k]?=some f) (he:(f.take xs).e=0):
  onto V (jr (L.drop k) xs)=onto (V++[⟨(f.take xs).n,strOf (f.take xs).s⟩]) (jr (L.drop (k+1)) (xs.drop (f.take xs).c)):=by
 rw [CV h he];simp [onto]
theorem Gj {L:List field.Fd} {k:Nat} {f:field.Fd} {xs:List Nat} (i:Int) (V:List Va) (h:L[k]?=some f) (he:(f.take xs).e≠0):fin i (onto V (jr (L.drop k) xs))=(0,[],(f.take xs).e):=by
 rw [CO h he];exact if_pos he
theorem Ik {L:List field.Fd} {xs:List Nat} (i:Int) (V:List Va) (h:xs.length≠0):fin i (onto V (jr (L.drop L.length) xs))=(0,[],6):=by
 rw [yT];exact (if_neg (fun k=>k rfl)).trans (if_pos h)
theorem IB {L:List field.Fd} {xs:List Nat} (i:Int) (V:List Va) (h:xs.length=0):fin i (onto V (jr (L.drop L.length) xs))=(i,V,0):=by
 rw [yT];refine ((if_neg (fun k=>k rfl)).trans (if_neg (fun k=>k h))).trans ?_;show (i,V++[],(0:Int))=_;rw [List.append_nil]
def qp (i:Int) (L:List field.Fd) (xs:List Nat):Int×List Va×Int:=if ¬Fine (i,L) then (0,[],2) else fin i (jr L xs)
theorem ny:∀ {L:List field.Fd} {V:List Va} (more:List Nat),cu L V->jr L (eY L V++more)=(V,more,0)
 | [],[],more,_=>rfl
 | f :: L,v :: V,more,h=>by
  obtain ⟨h1,h2⟩:=h;have ht:=(field.Fd.ny h1 (eY L V++more)).1;rw [eY,List.append_assoc,jr,ht];simp only [if_true];rw [List.drop_left,ny more h2,jK]
theorem nS {i:Int} {L:List field.Fd} {j:Int} {V:List Va} (h:Has i L j V):qp i L (eY L V)=(j,V,0):=by
 obtain ⟨h1,rfl,h2⟩:=h;have:=ny [] h2;rw [List.append_nil] at this;unfold qp;rw [if_neg (fun k=>k h1),this];rfl
end record
namespace plan
open Go Go.RowKit
section
variable {P:Program} {md:Region.Mode} {Q:Exit->Act->World->Prop} {l:List Oper}
end
end plan
namespace record
open Go.RowKit
open field (Va)
open schema (dV)
def vaC (p:Va):List Value:=(zV p)
def vaV:List Va->List Value
 | []=>[]
 | p :: L=>vaC p++vaV L
theorem fH:∀a b,vaV (a++b)=vaV a++vaV b
 | [],_=>rfl
 | p :: a,b=>by rw [List.cons_append,vaV,vaV,fH a b,List.append_assoc]
theorem bU:∀L,(vaV L).length=L.length*2
 | []=>rfl
 | p :: L=>by rw [vaV];simp only [vaC,List.length_append,List.length_cons,List.length_nil,bU L];omega
theorem Ec (p:Va):∀u∈vaC p,u.oneCell'=true:=by intro u hu;simp [vaC] at hu;rcases hu with rfl | rfl <;> rfl
theorem wu:∀(L:List Va) (i:Nat) (p:Va) (c:Nat),L[i]?=some p->c<2->(vaV L)[i*2+c]?=(vaC p)[c]?
 | [],i,p,c,h,_=>by simp at h
 | q :: L,0,p,c,h,hc=>by
  simp at h;subst h;rw [vaV,List.getElem?_append_left (by simp [vaC];omega)];simp
 | q :: L,i+1,p,c,h,hc=>by
  rw [vaV,List.getElem?_append_right (by simp [vaC];omega)];rw [<-wu L i p c (by simpa using h) hc];congr 1;simp only [vaC,List.length_cons,List.length_nil];omega
theorem jU {w:World} {base n:Nat} {a:Option Addr} {cap:Nat} {L:List Va} {e:TypeId} (h:w.ownsRow base e 2 (.slice a n cap) n (vaV L)):field.Vas w a L/\n=L.length/\n<=cap:=by
 obtain ⟨hl,hr⟩:=h;have hn:n=L.length:=by have:=bU L;rw [hl] at this;omega
 rcases hr with ⟨hv,h0⟩ | ⟨b,cap',cur,hv,_,hg,hcp,_,_,htake⟩
 ·cases hv
  exact ⟨.inl (List.eq_nil_of_length_eq_zero om_),hn,by omega⟩
 ·cases hv
  refine ⟨.inr ⟨b,0,rfl,(Array.getElem?_eq_some_iff.1 hg).1,fun i p hp=> ?_⟩,hn,hcp⟩;have hi:i<L.length:=(List.getElem?_eq_some_iff.1 hp).1;have key:∀c x,c<2->(vaC p)[c]?=some x->w.cell? ⟨b,0+(i*2+c),none⟩=some x:=by
   intro c x hc hx;have h1:=wu L i p c hp hc;rw [hx,<-htake,List.getElem?_take,if_pos om_] at h1;rw [cell_of_row w b _ cur _ _ hg,Nat.zero_add,<-h1,Array.getElem?_toList]
  exact ⟨key 0 _ om_ rfl,key 1 _ om_ rfl⟩
theorem Jf:(prog.info? 28).map (fun i=>(i.zero,i.size,i.bytes))=some (some (.agg #[.int .i64 0,.string ⟨#[]⟩]),2,24):=by kernel_rfl
theorem dO:∃i,prog.info? 28=some i/\i.zero=some (.agg #[.int .i64 0,.string ⟨#[]⟩])/\i.size=2/\i.bytes=24:=by
 obtain ⟨i,hi,he⟩:=Option.map_eq_some_iff.1 Jf;simp only [Prod.mk.injEq] at he;exact ⟨i,hi,he.1,he.2.1,he.2.2⟩
theorem dD (v0 v1:Value):(prog.info? 35).map (·.size)=some [v0,v1].length:=by kernel_rfl
theorem Gn (i:Int) (a:Option Addr) (V:List Va) (cap:Nat) (w w':World) (hb:Below (w.alloc (.cells (zS i a V.length cap) 35)).heap.size (w.alloc (.cells (zS i a V.length cap) 35)) w'):w'.cell? ⟨w.heap.size,0,none⟩=some (.int .i64 i)/\w'.cell? ⟨w.heap.size,1,none⟩=some (.slice a V.length cap)/\Below w.heap.size w w':=by
 have hB:=(Block.new w 35 (zS i a V.length cap)).later hb;exact ⟨hB.cell 0,hB.cell 1,schema.aY hb⟩
theorem uj {w w':World} {a:Option Addr} {V:List Va} (h:field.Vas w a V) (hb:Below w.heap.size w w') {k:Nat} (hk:k<V.length):
  ∃b off p,a=some ⟨b,off,none⟩/\b<w'.heap.size/\V[k]?=some p/\w'.cell? ⟨b,off+k*2,none⟩=some (.int .i64 p.n)/\w'.cell? ⟨b,off+k*2+1,none⟩=some (.string p.s):=by
 obtain ⟨b,off,p,h1,h2,h3,h4,h5⟩:=(h.below hb).at hk;exact ⟨b,off,p,h1,h2,h3,h4,h5⟩
structure RS (i:Int) (w0:World) (F:Nat) (V:List Va) (n:Nat) (u:Value) (wr:World):Prop where
 f:Block wr F 35 [.int .i64 i,u]
 row:wr.ownsRow (F+1) 28 2 u n (vaV V)
 low:Below w0.heap.size w0 wr
 at':w0.heap.size=F
variable {i:Int} {F n:Nat} {w0:World} {V:List Va} {u:Value}
theorem RS.later {w w':World} (h:RS i w0 F V n u w) (hb:Below w.heap.size w w'):RS i w0 F V n u w':=
 ⟨h.f.later hb,aK h.row hb,h.low.trans (hb.mono h.low.size),h.at'⟩
theorem RS.held {w w':World} (h:RS i w0 F V n u w) (hg:w.grownBy w' u.ownBlock):Block w' F 35 [.int .i64 i,u]:=
 (hg.block F h.f.lt (by intro he;have:=World.ownsRow.lt h.row F he.symm;omega)).trans h.f
theorem RS.push {w w':World} {p:Va} {z:Value} (h:RS i w0 F V n u w) (hg:w.grownBy w' u.ownBlock) (ho:w'.ownsRow (F+1) 28 2 z (n+1) (vaV (V++[p]))):
  RS i w0 F (V++[p]) (n+1) z (w'.setCell ⟨F,1,none⟩ z):=by
 have hF:=h.held hg;refine ⟨hF.setCell 1 z,fK ho (fun g hg=> ?_), ?_,h.at'⟩
 ·have:=World.ownsRow.lt ho g hg;exact Below.heap_setCell w' ⟨F,1,none⟩ z g (by show g≠F;omega)
 ·have hl:=h.low.grown hg (by have:=h.low.size;omega) (fun k hk=>by have:=World.ownsRow.lt h.row k hk;have:=h.at';omega);exact below_setCells hl (Nat.le_of_eq h.at') 1 [z]
theorem RS.start (w1:World) (i:Int):RS i w1 w1.heap.size [] 0 (.slice none 0 0) (w1.alloc (.cells (zS i none 0 0) 35)):=
 ⟨Block.new w1 35 (zS i none 0 0),World.ownsRow_nil _ _ _ _,field.aC _ _,rfl⟩
theorem RS.len {w:World} (h:RS i w0 F V n u w):n=V.length:=by have h1:=h.row.1;rw [bU] at h1;omega
end record
namespace typing
open Go.RowKit schema
theorem nJ (F:List schema.Form) (s:step.Sp):(aJ F s).s=s:=by unfold aJ;split <;> rfl
theorem EF {c:Ch} (h:err c=0):found c=true:=by
 unfold err at h;by_cases hf:found c=false
 ·rw [if_pos hf] at h;cases h
 ·simpa using hf
theorem uD {F:List schema.Form} {s:step.Sp} (h:found (aJ F s)=true) (h9:s.op≠9):∃p,named F s.fm=some p:=by
 unfold found at h;rw [nJ,if_neg h9] at h;cases hq:named F s.fm with
 | some p=>exact ⟨p,rfl⟩
 | none=>
  unfold aJ at h;rw [hq] at h;by_cases h1:s.op=1\/s.op=10
  ·rw [if_pos h1] at h;cases h
  ·rw [if_neg h1] at h;exact absurd h si_
theorem JH {α:Type} {F:List α} {p:α} (h:p∈F):∃j:Nat,F[j]?=some p:=List.mem_iff_getElem?.1 h
theorem BJ {F:List schema.Form} {s:step.Sp} (hs:Sorted F) (h:err (aJ F s)=0) {p:schema.Form} (hp:p∈F) (hn:p.1≠s.fm):p∈applied F (aJ F s):=by
 unfold applied;rw [nJ];by_cases h9:s.op=9
 ·rw [if_pos h9];have:p∈F.take (pos F s.fm)++F.drop (pos F s.fm):=by rw [List.take_append_drop];exact hp
  rcases List.mem_append.1 this with h1 | h1
  ·exact List.mem_append.2 (.inl h1)
  ·exact List.mem_append.2 (.inr (List.mem_append.2 (.inr h1)))
 rw [if_neg h9];obtain ⟨q,hq⟩:=uD (EF h) h9;obtain ⟨hqm,hqf⟩:=cZ hq;have hat:=pos_at hs hqm;rw [hqf] at hat;obtain ⟨j,hj⟩:=JH hp;have hjn:j≠pos F s.fm:=fun e=>by rw [e,hat] at hj;cases hj;exact hn hqf
 by_cases h10:s.op=10
 ·rw [if_pos h10];by_cases hl:j<pos F s.fm
  ·refine List.mem_append.2 (.inl (List.mem_iff_getElem?.2 ⟨j, ?_⟩));rw [List.getElem?_take_of_lt hl];exact hj
  ·refine List.mem_append.2 (.inr (List.mem_iff_getElem?.2 ⟨j - (pos F s.fm+1), ?_⟩));rw [List.getElem?_drop,show pos F s.fm+1+(j - (pos F s.fm+1))=j by omega];exact hj
 rw [if_neg h10];unfold CG;rw [hat];refine List.mem_iff_getElem?.2 ⟨j, ?_⟩;simp only;rw [List.getElem?_set_ne (Ne.symm hjn)];exact hj
theorem lZ {v:Int} {F:List schema.Form} {s:step.Sp} (h:(on v F s).2.2=0):Fit v F s/\(on v F s).1=v/\Right v (on v F s).2.1/\∀p∈F,p.1≠s.fm->p∈(on v F s).2.1:=by
 unfold on at h ⊢;by_cases hf:Fit v F s
 ·rw [if_pos hf] at h ⊢;by_cases he:err (aJ F s)=0
  ·rw [if_pos he] at h ⊢;by_cases hr:Right v (applied F (aJ F s))
   ·rw [if_pos hr];exact ⟨hf,rfl,hr,fun p hp hn=>BJ (gU hf.1) he hp hn⟩
   ·rw [if_neg hr] at h;cases h
  ·rw [if_neg he] at h;exact absurd h he
 ·rw [if_neg hf] at h;cases h
end typing
namespace typing
open Go.RowKit schema field step
theorem AZ {L:List field.Fd} {k:Nat} (h:k<=L.length):(fD L k).take k=L.take k:=by
 unfold fD;rw [List.take_append_of_le_length (by simp;omega),List.take_take,Nat.min_self]
theorem AO {L:List field.Fd} {k:Nat} (h:k<=L.length):(fD L k).drop k=L.drop (k+1):=by
 unfold fD;have h2:=List.drop_left (l₁:=L.take k) (l₂:=L.drop (k+1));rwa [List.length_take,Nat.min_eq_left h] at h2
theorem FZ {L:List field.Fd} {k:Nat} (h:k<L.length) (m:List field.Fd) (hm:m.length<=2):puts (fD L k) k m=L.take k++(m++L.drop (k+1)):=by
 match m,hm with
 | [],_=>rfl
 | [a],_=>
  unfold puts puts dK;rw [AZ om_,AO om_]
 | [a,b],_=>
  unfold puts puts puts dK;rw [AZ om_,AO om_];have hl:(L.take k).length=k:=by simp;omega
  have e1:(L.take k++([a]++L.drop (k+1))).take (k+1)=L.take k++[a]:=by
   rw [<-List.append_assoc];exact List.take_left' (by simp [hl])
  have e2:(L.take k++([a]++L.drop (k+1))).drop (k+1)=L.drop (k+1):=by
   rw [<-List.append_assoc];exact List.drop_left' (by simp [hl])
  rw [e1,e2];simp
theorem nK {v:Int} {F:List schema.Form} {x y:Int} {p:schema.Form} (hr:Right v F) (hp:named F x=some p) (hk:0<=ai (ids p.2) y):
  (ai (ids p.2) y).toNat<p.2.length/\(bG p.2 (ai (ids p.2) y)).Right:=by
 have h1:=(lF hk).1;rw [jI] at h1;refine ⟨h1, ?_⟩;unfold bG;rw [if_pos hk,List.getD_eq_getElem?_getD,List.getElem?_eq_getElem h1];exact (hr.2.2.1 p (cZ hp).1).2.2.1.1 _ (List.getElem_mem _)
theorem Hy (c:Ch):low c<=high c:=by
 unfold low high;split <;> split <;> omega
theorem Jb (a b:Int):mn a b=mn b a:=by
 unfold mn;split <;> split <;> omega
theorem JL (c d:Ch) (h1:c.s=d.s) (h2:c.old=d.old):low c=low d/\high c=high d:=by
 unfold low high scA scB;rw [h1,h2];exact ⟨rfl,rfl⟩
def bY (F:List schema.Form) (s:Sp):List field.Fd×Nat:=
 if s.op=9 then (s.l,0) else match named F s.fm with
  | none=>([],8)
  | some p=>
   if s.op=1 then (dK p.2 s.pl.toNat s.f,0) else if s.op=10 then ([],0)
   else if (types (bG p.2 (ai (ids p.2) s.fd)) s).2=false then ([],17)
   else if puts (fD p.2 (ai (ids p.2) s.fd).toNat) (if s.op=7 then s.pl.toNat else (ai (ids p.2) s.fd).toNat) (types (bG p.2 (ai (ids p.2) s.fd)) s).1=[] then ([],7)
   else (puts (fD p.2 (ai (ids p.2) s.fd).toNat) (if s.op=7 then s.pl.toNat else (ai (ids p.2) s.fd).toNat) (types (bG p.2 (ai (ids p.2) s.fd)) s).1,0)
def Ho (v:Int) (F:List schema.Form) (s:Sp):Int×List schema.Form×Nat:=
 if Fit v F s then (if names F s=0 then (if (bY F s).2=0 then (if Right v (bK F s.fm (bY F s).1) then (v,bK F s.fm (bY F s).1,0) else (0,[],7)) else (0,[],(bY F s).2)) else (0,[],names F s)) else (0,[],2)
theorem Hf (f:field.Fd) (hf:f.Right) (s:Sp) (c:Ch) (hs:c.s=s) (ho:c.old=f) (hop:s.op≠1/\s.op≠9/\s.op≠10) (hop2:1<=s.op/\s.op<=10):
  (types f s).2=fP c/\(fP c=true->(types f s).1=dX c)/\(types f s).1.length<=2:=by
 obtain ⟨e1,e2⟩:=JL c ⟨s,0,[],false,0,f⟩ hs ho;subst ho;subst hs;have hlh:=Hy c;unfold types fP dX;rw [<-e1,<-e2];unfold field.Fd.Right at hf;have hc:c.s.op=2\/c.s.op=3\/c.s.op=4\/c.s.op=5\/c.s.op=6\/c.s.op=7\/c.s.op=8:=by omega
 rcases hc with h | h | h | h | h | h | h
 ·simp [h]
 ·simp [h]
 ·simp only [h];refine ⟨?_, ?_,by simp⟩
  ·simp only [field.Fd.Right];simp [hf.1.1,hf.1.2,hlh]
  ·simp;intro hk h1 h2;obtain ⟨⟨i1,i2⟩,hf⟩:=hf;cases hc2:c.old with
   | mk id kind lo hi most=>
    simp only [hc2] at hk hf ⊢;obtain rfl:kind=1:=hk;obtain rfl:most=0:=by omega
    simp
 ·simp only [h];refine ⟨by simp, ?_,by simp⟩;simp;intro hk h1;cases hc2:c.old with
  | mk id kind lo hi most=>
   simp only [hc2] at hk hf ⊢;obtain rfl:kind=3:=hk;obtain rfl:lo=0:=by omega
   obtain rfl:hi=0:=by omega
   simp
 ·simp only [h];refine ⟨by simp, ?_,by simp⟩;simp;intro hk h1;refine ⟨?_,Jb _ _⟩;cases hc2:c.old with
  | mk id kind lo hi most=>
   simp only [hc2] at hk h1 hf ⊢;obtain rfl:kind=1:=hk;obtain rfl:lo=0:=h1;obtain rfl:most=0:=by omega
   simp
 ·simp [h]
 ·simp [h]
theorem yu {v:Int} {F:List schema.Form} {k:Nat} {x:Int} (h:k<F.length):¬Right v (F.set k (x,[])):=by
 intro hr;have:=(hr.2.2.1 (x,[]) (by rw [List.mem_iff_getElem?];exact ⟨k,by simp [h]⟩)).2.1.1;simp at this
theorem Dy {v:Int} {F:List schema.Form} {s:Sp} (h:Fit v F s):1<=s.op/\s.op<=10:=⟨(Aq h.2.1.2.1).1,h.2.2⟩
theorem jB {v:Int} {F:List schema.Form} {s:Sp} (h:Fit v F s) {m:Nat} (hm:m∈step.mem s.op):s.Fine m:=h.2.1.1 m hm
theorem Gu (v:Int) (F:List schema.Form) (s:Sp):Ho v F s=on v F s:=by
 unfold Ho on;by_cases hf:Fit v F s
 ·rw [if_pos hf,if_pos hf];have hop:=Dy hf;have hso:=gU hf.1;by_cases h9:s.op=9
  ·have hl:s.l≠[]:=by
    have:=jB hf (m:=11) (by rw [h9];decide);unfold step.Sp.Fine at this;simp at this;intro e;have:=this.2.1.1;rw [e] at this;simp at this
   cases hn:named F s.fm with
   | none=>
    have e1:names F s=0:=by unfold names;rw [if_pos h9,hn];rfl
    have e2:bY F s=(s.l,0):=by unfold bY;rw [if_pos h9]
    have e3:err (aJ F s)=0:=by unfold aJ err found twice beyond fP;rw [hn];simp [h9]
    have e4:applied F (aJ F s)=bK F s.fm s.l:=by
     have:(aJ F s).s=s:=by unfold aJ;rw [hn]
     unfold applied bK;rw [this,if_pos h9,decide_eq_false hl,Kv hso (lM hn)]
    rw [e1,e2,e3,e4];simp
   | some p=>
    have e1:names F s=9:=by unfold names;rw [if_pos h9,hn];rfl
    have e3:err (aJ F s)=9:=by unfold aJ err found twice beyond fP;rw [hn];simp [h9]
    rw [e1,e3];simp
  ·cases hn:named F s.fm with
   | none=>
    have e1:names F s=8:=by unfold names;rw [if_neg h9,hn]
    have e3:err (aJ F s)=8:=by
     unfold aJ err found;rw [hn];simp [h9]
    rw [e1,e3];simp
   | some p=>
    obtain ⟨hp1,hp2⟩:=cZ hn;have hB:aJ F s=⟨s,s.fm,p.2,true,ai (ids p.2) s.fd,bG p.2 (ai (ids p.2) s.fd)⟩:=by unfold aJ;rw [hn]
    rw [hB];have hN:names F s=if nf s.op=true/\ai (ids p.2) s.fd<0 then 8 else if (s.op=1/\0<=ai (ids p.2) s.f.id)\/((s.op=6\/s.op=8)/\0<=ai (ids p.2) s.tt) then 9
      else if (s.op=1/\(p.2.length:Int)<s.pl)\/(s.op=7/\(p.2.length:Int)<=s.pl) then 3 else 0:=by unfold names;rw [if_neg h9,hn]
    have hpl:pos F s.fm<F.length:=by
     have:=pos_at hso hp1;rw [hp2] at this;exact (List.getElem?_eq_some_iff.1 this).1
    have hset:∀l,CG F (pos F s.fm) l=F.set (pos F s.fm) (s.fm,l):=fun l=>zQ hso hn l
    have hgo:∀l,l≠[]->bK F s.fm l=F.set (pos F s.fm) (s.fm,l):=fun l hl=>by
     unfold bK;rw [decide_eq_false hl,<-hp2];exact JR hso hp1 l
    by_cases h10:s.op=10
    ·have e1:names F s=0:=by rw [hN];simp [h10,nf]
     have e2:bY F s=([],0):=by unfold bY;rw [if_neg h9,hn];simp [h10]
     have e3:err ⟨s,s.fm,p.2,true,ai (ids p.2) s.fd,bG p.2 (ai (ids p.2) s.fd)⟩=0:=by unfold err found twice beyond fP;simp [h10]
     have e4:applied F ⟨s,s.fm,p.2,true,ai (ids p.2) s.fd,bG p.2 (ai (ids p.2) s.fd)⟩=bK F s.fm []:=by
      unfold applied bK;simp only [h10];have:=go_cut hso hp1 [];rw [hp2] at this;simp [this]
     rw [e1,e2,e3,e4];simp
    ·by_cases h1:s.op=1
     ·have e3:err ⟨s,s.fm,p.2,true,ai (ids p.2) s.fd,bG p.2 (ai (ids p.2) s.fd)⟩=names F s:=by
       rw [hN];unfold err found twice beyond fP nf;simp [h1]
      have e2:bY F s=(dK p.2 s.pl.toNat s.f,0):=by unfold bY;rw [if_neg h9,hn];simp [h1]
      have e4:applied F ⟨s,s.fm,p.2,true,ai (ids p.2) s.fd,bG p.2 (ai (ids p.2) s.fd)⟩=bK F s.fm (dK p.2 s.pl.toNat s.f):=by
       rw [hgo _ (by unfold dK;simp),<-hset];unfold applied fields;simp [h1]
      rw [e2,e3,e4]
      simp
     ·by_cases hk:ai (ids p.2) s.fd<0
      ·have e1:names F s=8:=by rw [hN,if_pos ⟨by unfold nf;simp [h1,h9,h10],hk⟩]
       have e3:err ⟨s,s.fm,p.2,true,ai (ids p.2) s.fd,bG p.2 (ai (ids p.2) s.fd)⟩=8:=by
        unfold err found;simp only [h1,h9,h10];have:¬0<=ai (ids p.2) s.fd:=by omega
        simp [this]
       rw [e1,e3];simp
      ·have hk0:0<=ai (ids p.2) s.fd:=by omega
       obtain ⟨hk2,hor⟩:=nK hf.1 hn hk0;obtain ⟨C,hC⟩:∃C:Ch,C=⟨s,s.fm,p.2,true,ai (ids p.2) s.fd,bG p.2 (ai (ids p.2) s.fd)⟩:=⟨_,rfl⟩;obtain ⟨t1,t2,t3⟩:=Hf _ hor s C (by rw [hC]) (by rw [hC]) ⟨h1,h9,h10⟩ hop;have hfd:found C=true:=by unfold found;rw [hC];simp [h1,h9,h10,hk0]
       rw [<-hC];have hCs:C.s=s:=by rw [hC]
       have hCL:C.L=p.2:=by rw [hC]
       have hCa:C.at_=ai (ids p.2) s.fd:=by rw [hC]
       have hN2:names F s=if twice C=true then 9 else if beyond C=true then 3 else 0:=by
        rw [hN,if_neg (by intro h;exact hk h.2)];unfold twice beyond;rw [hCs,hCL];simp only [h1,h9];by_cases h6:s.op=6\/s.op=8
        ·have h7:¬s.op=7:=by omega
         simp [h6,h7]
        ·by_cases h7:s.op=7
         ·simp [h7];congr 1;simp;omega
         ·simp [h6,h7]
       have hE:err C=if names F s=0 then (if fP C=false then 17 else 0) else names F s:=by
        unfold err;rw [hfd,hN2];by_cases hx:twice C=true
        ·simp [hx]
        ·by_cases hy:beyond C=true
         ·simp [hx,hy]
         ·simp [hx,hy]
       have hF:bY F s=if fP C=false then ([],17) else if fields C=[] then ([],7) else (fields C,0):=by
        have:bY F s=if (types (bG p.2 (ai (ids p.2) s.fd)) s).2=false then ([],17)
          else if puts (fD p.2 (ai (ids p.2) s.fd).toNat) (if s.op=7 then s.pl.toNat else (ai (ids p.2) s.fd).toNat) (types (bG p.2 (ai (ids p.2) s.fd)) s).1=[] then ([],7)
          else (puts (fD p.2 (ai (ids p.2) s.fd).toNat) (if s.op=7 then s.pl.toNat else (ai (ids p.2) s.fd).toNat) (types (bG p.2 (ai (ids p.2) s.fd)) s).1,0):=by
         unfold bY;rw [if_neg h9,hn];simp [h1,h10]
        rw [this,t1];by_cases hs:fP C=false
        ·simp [hs]
        ·rw [if_neg hs,if_neg hs];have hst:fP C=true:=by simpa using hs
         rw [t2 hst];have:puts (fD p.2 (ai (ids p.2) s.fd).toNat) (if s.op=7 then s.pl.toNat else (ai (ids p.2) s.fd).toNat) (dX C)=fields C:=by
          unfold fields;rw [hCs,hCL,hCa,if_neg h1];by_cases h7:s.op=7
          ·rw [if_pos h7,if_pos h7];unfold dX;rw [hCs];simp only [h7];simp [puts]
          ·rw [if_neg h7,if_neg h7];rw [t2 hst] at t3;exact FZ hk2 _ t3
         rw [this]
       have hA:applied F C=F.set (pos F s.fm) (s.fm,fields C):=by
        unfold applied;rw [hCs,if_neg h9,if_neg h10,hset]
       rw [hE,hF,hA];by_cases hn0:names F s=0
       ·rw [hn0];by_cases hs:fP C=false
        ·simp [hs]
        ·by_cases hl:fields C=[]
         ·have:=yu (v:=v) (x:=s.fm) hpl;rw [hl];simp [hs,this]
         ·rw [hgo _ (by rw [if_neg hs,if_neg hl];exact hl)];simp [hs,hl]
       ·simp [hn0]
 ·rw [if_neg hf,if_neg hf]
end typing
theorem t130{P:Prop}(h:P:=by
 rw [BitVec.ofInt_natCast,BitVec.toNat_ofNat];exact Nat.mod_eq_of_lt om_):P:=h
theorem t116{P:Prop}(h:P:=by
 rw [List.getD_eq_getElem?_getD,List.getElem?_eq_getElem om_];exact hx _ (List.getElem_mem om_)):P:=h
namespace field
open Go.RowKit
theorem uT (a b:Nat) (ha:a<9223372036854775808) (hb:b<9223372036854775808):
  bits .or .i64 (a:Int) (b:Int)=((a ||| b:Nat):Int):=by
 have hx:a ||| b<2 ^ 63:=Nat.or_lt_two_pow om_ om_
 have h1:(BitVec.ofInt 64 (a:Int)).toNat=a:=by
  exact t130
 have h2:(BitVec.ofInt 64 (b:Int)).toNat=b:=by
  exact t130
 show IntKind.i64.wrap ((BitVec.ofInt 64 (a:Int) ||| BitVec.ofInt 64 (b:Int)).toNat:Int)=_
 rw [BitVec.toNat_or,h1,h2,IntWalk.i64_in _ om_]
theorem JX (a b:Nat) (hb:b<256) (ha:a<36028797018963968):bits .or .i64 ((a:Int)*256) (b:Int)=((256*a+b:Nat):Int):=by
 have e:(a:Int)*256=((2 ^ 8*a:Nat):Int):=by omega
 rw [e,uT (2 ^ 8*a) b om_ om_,<-Nat.two_pow_add_eq_or_of_lt om_]
theorem xO (xs:List Nat) (k:Nat) (hk:k<xs.length):num (xs.take (k+1))=256*num (xs.take k)+xs.getD k 0:=by
 rw [List.take_add_one,List.getElem?_eq_getElem hk];simp only [Option.toList,sD];rw [List.getD_eq_getElem?_getD,List.getElem?_eq_getElem hk];rfl
theorem wL (a:Option Addr) (len cap:Nat) (xs:List Nat) (w:World) (hr:Reads .u8 w a len xs) (hx:∀x∈xs,x<256) (hl:len<=6):Calls prog 103 #[.slice a len cap] w (Quiet (.int .i64 (num xs:Int)) w):=by
 have hlen:=hr.1;have hall:num xs=num (xs.take len):=by rw [List.take_of_length_le om_]
 rw [hall];clear hall;go_enter func103,ntmps103;go_wp2;go_loopw [3,8] (fun n i wr=>∃(k:Nat),n=.int .i64 (num (xs.take k):Int)/\i=.int .i64 (k:Int)/\k<=len/\w=wr) (fun n i wr=>len - (intOf i).toNat);case atStart=>exact ⟨0,by simp [num],rfl,Nat.zero_le _,rfl⟩
 case round=>
  obtain ⟨k,rfl,rfl,hk,rfl⟩:=hrel;by_cases hlt:k<len
  ·obtain ⟨b,off,rfl,hbb,hc⟩:=hr.at (i:=k) hlt;have hck:=hc k hlt;have hn1:=CZ k (xs.take k) (by rw [List.length_take];omega) (fun x hm=>hx x (List.mem_of_mem_take hm));have hp:(256:Nat) ^ k<=256 ^ 5:=Nat.pow_le_pow_right om_ om_;have hs:=xO xs k om_;have hxk:xs.getD k 0<256:=by
    exact t116
   generalize xs.getD k 0=X at *;generalize hN:num (xs.take k)=N at *;have hN5:N<1099511627776:=by have:(256:Nat) ^ 5=1099511627776:=de_;omega
   have ho:=JX N X hxk om_;rw [<-hs] at ho;clear hs hp hn1 hc;have HO:=hid ho;clear ho;go_wp2;go_round
   ·exact ⟨k+1,by rw [HO.o],by simp,by omega,trivial⟩
   ·simp [intOf];omega
  ·obtain rfl:k=len:=by omega
   clear hlt;go_wp2;go_ret;exact ⟨rfl,0,rfl⟩
def part (size n i:Nat):List Nat:=(List.range size).map fun p=>if size - i<=p then n / 256 ^ (size - 1 - p) % 256 else 0
theorem EK (size n:Nat):part size n 0=List.replicate size 0:=by
 apply List.ext_getElem?;intro j;unfold part;by_cases hj:j<size
 ·simp [hj];intro h;omega
 ·simp [hj]
theorem G5 (size n:Nat):part size n size=digits size n:=by
 unfold part digits;apply List.map_congr_left;intro p hp;rw [if_pos om_]
theorem I8 (size n i:Nat) (hi:i<size):(part size n i).set (size - 1 - i) (n / 256 ^ i % 256)=part size n (i+1):=by
 apply List.ext_getElem?;intro j;unfold part;rw [List.getElem?_set];by_cases hj:j<size
 ·by_cases h:size - 1 - i=j
  ·subst h;simp [hj];rw [if_pos om_,show size - 1 - (size - 1 - i)=i by omega]
  ·rw [if_neg h,List.getElem?_map,List.getElem?_map,List.getElem?_range hj];simp only [Option.map_some];by_cases hq:size - i<=j
   ·rw [if_pos hq,if_pos om_]
   ·rw [if_neg hq,if_neg om_]
 ·rw [if_neg om_];simp [hj]
def u8v (xs:List Nat):List Value:=xs.map fun x:Nat=>Value.int .u8 (x:Int)
theorem kH (xs:List Nat):(u8v xs).length=xs.length:=by simp [u8v]
theorem Jh (xs:List Nat) (i:Nat) (h:i<xs.length):(u8v xs)[i]?=some (.int .u8 ((xs.getD i 0:Nat):Int)):=by
 simp only [u8v,List.getElem?_map,List.getD_eq_getElem?_getD,List.getElem?_eq_getElem h];rfl
theorem IW (xs:List Nat) (i x:Nat):(u8v xs).set i (.int .u8 (x:Int))=u8v (xs.set i x):=by simp [u8v,List.map_set]
theorem mJ:(prog.info? 5).map (fun i=>(i.zero,i.size,i.bytes))=some (some (.int .u8 0),1,1):=by kernel_rfl
set_option maxRecDepth 20000 in
theorem xX (n size:Nat) (hn:n<281474976710656) (hs:size<=6) (w:World):Calls prog 97 #[.int .i64 (n:Int),.int .i64 (size:Int)] w fun e w'=>∃v,e=.returned v/\w'.ownsRow w.heap.size 5 1 v size (u8v (digits size n))/\Below w.heap.size w w':=by
 obtain ⟨i0,hi,hz0,hz1,hz2⟩:=info_parts mJ;go_enter func97,ntmps97;go_wp2_with (at_make;refine wpList_make_full _ rfl _ _ 68 rfl w.heap.size 5 i0 (.int .u8 0) 1 underlying68 hi hz0 hz1 _ _ _ _ size rfl rfl rfl rfl (by rw [hz2];omega) (by unfold maxLen;omega) (Nat.le_refl _) ?_);intro w1 hown hgrow;go_wp2;go_loopw [11] (fun i wr=>∃k:Nat,k<=size/\i=.int .i64 k/\wr.ownsRow w.heap.size 5 1 (.slice (some ⟨w.heap.size,0,none⟩) size size) size (u8v (part size n k))/\Below w.heap.size w wr)
  (fun i _=>size - (intOf i).toNat)
 case atStart=>
  refine ⟨0,Nat.zero_le _,rfl, ?_,Below.grown (Below.refl _ _) hgrow (Nat.le_refl _) (fun k h=>by cases h)⟩;rw [EK,u8v,List.map_replicate];rw [toList_madeCells_one] at hown;exact hown
 case round=>
  obtain ⟨k,hk,rfl,ho,hb⟩:=hrel;by_cases hlt:k<size
  ·have f2:=ho.frozenAt (size - 1 - k);have c2:wr.cell? ⟨w.heap.size,size - 1 - k,none⟩=some (.int .u8 0):=by
    rw [ho.cellAt _ om_];unfold u8v part;rw [List.getElem?_map,List.getElem?_map,List.getElem?_range om_];simp;omega
   have HO:=hid ho;clear ho;obtain ⟨D,hD⟩:∃D:Nat,Hid (size - 1 - k=D):=⟨_,rfl⟩;rw [hD.o] at f2 c2;obtain ⟨x,hx⟩:∃x:Nat,Hid (n / 256 ^ k % 256=x):=⟨_,rfl⟩;have hx256:x<256:=by rw [<-hx.o];exact Nat.mod_lt _ om_
   have hDs:size=D+1+k:=by have:=hD.o;omega
   subst hDs;have e1:((D+1+k:Nat):Int) - 1 - (k:Int)=(D:Int):=by omega
   go_wp2;have e2:(n:Int) / 2 ^ (8*k) % 256=((n / 256 ^ k % 256:Nat):Int):=by
    have h:(256:Nat) ^ k=2 ^ (8*k):=by rw [Nat.pow_mul]
    rw [h];simp
   rw [e2];have hst:=HO.o.stored D (.int .u8 ((n / 256 ^ k % 256:Nat):Int));rw [IW] at hst;have hps:=I8 (D+1+k) n k om_;rw [hD.o] at hps;rw [hps] at hst;exact ⟨⟨k+1,by omega,by simp,hst.1,hb.grown hst.2 (by simp [hb.size]) (fun j h=>by cases h;exact Nat.le_refl _)⟩,by simp [intOf];omega⟩
  ·obtain rfl:k=size:=by omega
   go_wp2;go_ret;rw [G5] at ho;exact ⟨_,rfl,ho,hb⟩
end field
end Go.Proofs.YtdnegbkhndekpaaGreat
