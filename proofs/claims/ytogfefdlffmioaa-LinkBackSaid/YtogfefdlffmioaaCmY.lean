/- Contracts and lemmas that claims of this seat share: StepTable, SchemaFirst, FormRow, StepTakeF, SchemaPush. Each says its own conditions. -/
import Derived.Test.YtogfefdlffmioaaCmWord
import Derived.Conc.WalkWords
import Derived.Test.YtogfefdlffmioaaCmK
import Derived.Test.YtogfefdlffmioaaCmR
import Derived.Test.YtogfefdlffmioaaCmS
import Derived.Test.YtogfefdlffmioaaCmT
import Derived.Test.YtogfefdlffmioaaCmQ
import Derived.Test.YtogfefdlffmioaaCmU
import Derived.Test.YtogfefdlffmioaaCmV
import Derived.Test.YtogfefdlffmioaaCmX
set_option linter.unusedVariables false
namespace Go.Proofs.Ytogfefdlffmioaa
open Go.Proofs.Try
theorem t76{P:Prop}(h:P:=by
 go_ret;exact⟨rfl,HB1.o.trans ((HB.o.trans (fD.mono HB.o.size)).mono HB1.o.size)⟩):P:=h
namespace step
open Go.RowKit
open field (Gives aI ay)
open ak (aH aX)
def pF(l:List Int):List Value:=(List.range 1000).map fun j:Nat=>Value.bool (decide ((j:Int)∈l))
theorem uU(l:List Int)(n:Nat)(h:n<1000):(pF l)[n]?=some (.bool (decide ((n:Int)∈l))):=by simp[pF,h]
theorem Dv(l:List Int)(n:Nat)(h:n<1000):(pF l).set n (.bool true)=pF (l++[(n:Int)]):=by
 apply List.ext_getElem?;intro i;rw[List.getElem?_set];by_cases hi:i<1000
 ·rw[uU _ i hi,uU _ i hi];by_cases hn:n=i
  ·subst hn;simp[pF,h]
  ·rw[if_neg hn];simp;omega
 ·simp[pF];simp[hi];omega
theorem Bh:Try.zeroCells126=(pF []).toArray:=by kernel_rfl
def qp(lim:Int)(l:List Int):Prop:=(∀n∈l,0<=n/\n<=lim - 1)/\l.Nodup
theorem vk{lim:Int}{L:List Int}{k:Nat}{x:Int}(h:L[k]?=some x):qp lim (L.take (k+1))↔qp lim (L.take k)/\(0<=x/\x<=lim - 1)/\x∉L.take k:=by
 rw[aH h];unfold qp;simp only[List.nodup_append,List.mem_append,List.mem_singleton];constructor
 ·rintro⟨h1,h2,h3,h4⟩;exact⟨⟨fun n hn=>h1 n (.inl hn),h2⟩,h1 x (.inr rfl),fun hm=>h4 _ hm _ rfl rfl⟩
 ·rintro⟨⟨h1,h2⟩,h3,h4⟩;exact⟨fun n hn=>hn.elim (h1 n) (fun e=>e ▸ h3),h2,by simp,fun a ha b hb e=>h4 (by rw[<-hb,<-e];exact ha)⟩
theorem zK{lim:Int}{L:List Int}(h:qp lim L)(k:Nat):qp lim (L.take k):=
 ⟨fun n hn=>h.1 n (List.mem_of_mem_take hn),h.2.sublist (List.take_sublist _ _)⟩
theorem FP{lim:Int}{L:List Int}{k:Nat}{x:Int}(h:L[k]?=some x)(hn:¬((0<=x/\x<=lim - 1)/\x∉L.take k)):¬qp lim L:=fun hf=>hn ((vk h).1 (zK hf _)).2
theorem mM{w w':World}{a:Option Addr}{L:List Int}(h:Ins w a L)(hb:Below w.heap.size w w'){k:Nat}(hk:k<L.length):
  ∃b off p,a=some ⟨b,off,none⟩/\b<w'.heap.size/\L[k]?=some p/\w'.cell? ⟨b,off+k,none⟩=some (.int .i64 p):=(h.below hb).at hk
set_option maxRecDepth 20000 in
theorem pq(a:Option Addr)(cap:Nat)(L:List Int)(lim:Int)(h1:1<=lim)(h2:lim<=1000)(w:World)(h:Ins w a L)(hL:L.length<=maxLen):
  Calls prog 84 #[.slice a L.length cap,.int .i64 lim] w (Gives (.bool (decide (Table L lim))) w):=by
 have hml:(L.length:Int)<=9223372036854775807:=by unfold maxLen at hL;omega
 obtain⟨v,hv⟩:∃v:Bool,Hid (decide (Table L lim)=v):=⟨_,rfl⟩;rw[hv.o];have cW:=dY (L.length:Int) 1 64;unfold Gives at cW ⊢;have HF:=hid h;clear h hL;by_cases h3:1<=L.length/\L.length<=64
 ·rw[show decide ((1:Int)<=(L.length:Int)/\(L.length:Int)<=64)=true from decide_eq_true om_] at cW;have OE:Hid (Table L lim↔qp lim L):=hid ⟨fun h=>h.2,fun h=>⟨h3,h⟩⟩;have cV:=fun n (w':World)=>dY n 0 (lim - 1) w'
  clear h3;go_enter func84,ntmps84;go_wp2_with (go_at_call 83;((with_reducible refine(cW _).mono ?_);rintro e w1 ⟨rfl,bQ⟩;have HB1:=hid bQ;have HZ:Hid (Block (w1.alloc (.cells Try.zeroCells126 126)) w1.heap.size 126 (pF [])):=(by rw[Bh];exact hid (Block.new w1 126 (pF [])));have HN:=hid (aI w1 (.cells Try.zeroCells126 126));have TI:=hid bQ.size;clear bQ));have Oo:=hid (HF.o.below HB1.o);clear cW;generalize w1.alloc (.cells Try.zeroCells126 126)=w2 at *;obtain⟨B,hB⟩:∃B:Nat,Hid (w1.heap.size=B):=⟨_,rfl⟩;rw[hB.o] at HZ TI ⊢;go_loopw [14] (fun n wr=>∃k:Nat,k<=L.length/\n=.int .i64 (k:Int)/\Hid (qp lim (L.take k))/\Hid (Block wr B 126 (pF (L.take k)))/\Hid (Below w1.heap.size w1 wr)) (fun n _=>L.length - (intOf n).toNat);case atStart=>exact⟨0,Nat.zero_le _,rfl,hid ⟨by simp,by simp⟩,HZ,HN⟩
  case round=>
   obtain⟨k,hk,rfl,nK,Lh,HB⟩:=hrel;by_cases bI:k<L.length
   ·obtain⟨b,off,p,rfl,jV,hp,c0⟩:=mM Oo.o HB.o bI;have i1:(k:Int)<L.length:=by omega
    have HP:=hid hp;have oP:=hid (FP (lim:=lim) hp);have iM:=hid (vk (lim:=lim) hp);have zX:=hid (aH hp);have cs:=fun w'=>cV p w'
    clear hp;generalize hI:L.take k=I at *;clear hI;by_cases hr:0<=p/\p<=lim - 1
    ·obtain⟨n,rfl⟩:=Int.eq_ofNat_of_zero_le hr.1;have KZ:n<1000:=by omega
     have Qo:(n:Int)<1000:=by omega
     rw[decide_eq_true hr] at cs;have HR:=hid hr;clear hr;have hsd:=uU I n KZ;by_cases hm:(n:Int)∈I
     ·rw[decide_eq_true hm] at hsd;obtain rfl:false=v:=by rw[<-hv.o];exact(decide_eq_false (fun h=>oP.o (fun h=>h.2 hm) (OE.o.1 h))).symm
      clear hm;go_wp2_with (go_at_call 83;((with_reducible refine(cs _).mono ?_);rintro e w3 ⟨rfl,fD⟩;have hc:=(Lh.o.later fD).cell n;rw[hsd] at hc))
      exact t76
     ·rw[decide_eq_false hm] at hsd;have HM:=hid hm;clear hm;go_wp2_with (go_at_call 83;((with_reducible refine(cs _).mono ?_);rintro e w3 ⟨rfl,fD⟩;have iI:=Lh.o.later fD;have hc:=iI.cell n;rw[hsd] at hc;have Ql:=iI.frozen n;have Iu:=hid iI;clear iI));refine⟨⟨k+1,by omega,by go_num,hid (iM.o.2 ⟨nK.o,HR.o,HM.o⟩),hid ?_,hid ?_⟩,by simp[intOf];omega⟩
      ·have:=Iu.o.setCell n (.bool true);rw[Dv _ _ om_] at this;rw[zX.o];exact this
      ·exact below_setCells (HB.o.trans (fD.mono HB.o.size)) (by rw[hB.o];exact Nat.le_refl _) n [.bool true]
    ·obtain rfl:false=v:=by rw[<-hv.o];exact(decide_eq_false (fun h=>oP.o (fun h=>hr h.1) (OE.o.1 h))).symm
     rw[decide_eq_false hr] at cs;clear hr;go_wp2_with (go_at_call 83;((with_reducible refine(cs _).mono ?_);rintro e w3 ⟨rfl,fD⟩))
     exact t76
   ·obtain rfl:k=L.length:=by omega
    obtain rfl:true=v:=by rw[<-hv.o];have:=nK.o;rw[List.take_of_length_le (Nat.le_refl _)] at this;exact(decide_eq_true (OE.o.2 this)).symm
    go_wp2;go_ret;exact⟨rfl,HB1.o.trans (HB.o.mono HB1.o.size)⟩
 ·rw[show decide ((1:Int)<=(L.length:Int)/\(L.length:Int)<=64)=false from decide_eq_false om_] at cW;obtain rfl:false=v:=by rw[<-hv.o];exact(decide_eq_false (fun h=>h3 h.1)).symm
  clear h3;go_enter func84,ntmps84;go_wp2_with (go_at_call 83;((with_reducible refine(cW _).mono ?_);rintro e w1 ⟨rfl,bQ⟩));go_ret;exact⟨rfl,bQ⟩
end step
namespace ak
open Go.RowKit
open field (Gives aI ay)
theorem bJ{B:Nat}{a w:World}(h:Below B a w):Below B a w.drew:=below_drewN h 1
def kV(l:List Int)(x:Int):Int:=if x∈l then(l.idxOf x:Int) else -1
theorem idxOf_hit:∀(l:List Int) (k:Nat) (x:Int),x∉l.take k->l[k]?=some x->l.idxOf x=k:=by
 intro l;induction l with
 | nil=>intro k x _ h;simp at h
 | cons y l ih=>
  intro k x hn h;cases k with
  | zero=>simp at h;subst h;simp
  | succ k=>
   simp only[List.take_succ_cons,List.mem_cons,not_or] at hn;have hb:(y == x)=false:=beq_eq_false_iff_ne.2 (Ne.symm hn.1);rw[List.idxOf_cons,hb,ih k x hn.2 (by simpa using h)];rfl
theorem wM{l:List Int}{k:Nat}{x:Int}(hn:x∉l.take k)(h:l[k]?=some x):kV l x=k:=by
 unfold kV;rw[if_pos (List.mem_of_getElem? h),idxOf_hit l k x hn h]
theorem Ah{l:List Int}{x:Int}(hn:x∉l):kV l x= -1:=if_neg hn
theorem vZ{l:List Int}{k:Nat}{x y:Int}(hn:x∉l.take k)(h:l[k]?=some y)(hy:y≠x):x∉l.take (k+1):=by
 rw[aH h];simp[hn];omega
theorem AA{L:List field.Fd}{k:Nat}{p:field.Fd}(h:L[k]?=some p):(ids L)[k]?=some p.id:=by simp[ids,h]
theorem AB(L:List field.Fd):(ids L).length=L.length:=List.length_map _
end ak
namespace ak
open Go.RowKit pen
def fmC(p:Fm):List Value:=(zS p.id p.f p.fL.length p.jB)
def fmV:List Fm->List Value
 | []=>[]
 | p :: L=>fmC p++fmV L
theorem ul:∀a b,fmV (a++b)=fmV a++fmV b
 | [],_=>rfl
 | p :: a,b=>by rw[List.cons_append,fmV,fmV,ul a b,List.append_assoc]
theorem um:∀L,(fmV L).length=L.length*2
 | []=>rfl
 | p :: L=>by rw[fmV];simp only[fmC,List.length_append,List.length_cons,List.length_nil,um L];omega
theorem EC:∀(L:List Fm) (i:Nat) (p:Fm) (c:Nat),L[i]?=some p->c<2->(fmV L)[i*2+c]?=(fmC p)[c]?
 | [],i,p,c,h,_=>by simp at h
 | q :: L,0,p,c,h,hc=>by
  simp at h;subst h;rw[fmV,List.getElem?_append_left (by simp[fmC];omega)];simp
 | q :: L,i+1,p,c,h,hc=>by
  rw[fmV,List.getElem?_append_right (by simp[fmC];omega)];rw[<-EC L i p c (by simpa using h) hc];congr 1;simp only[fmC,List.length_cons,List.length_nil];omega
theorem xX{w:World}{base n:Nat}{a:Option Addr}{cap:Nat}{L:List Fm}{e:TypeId}(h:w.ownsRow base e 2 (.slice a n cap) n (fmV L)):Fms w a L/\n=L.length/\n<=cap:=by
 obtain⟨hl,hr⟩:=h;have hn:n=L.length:=by have:=um L;rw[hl] at this;omega
 rcases hr with ⟨hv,h0⟩ | ⟨b,cap',cur,hv,_,hg,hcp,_,_,qF⟩
 ·exact t88
 ·cases hv
  refine⟨.inr ⟨b,0,rfl,(Array.getElem?_eq_some_iff.1 hg).1,fun i p hp=> ?_⟩,hn,hcp⟩;have hi:i<L.length:=(List.getElem?_eq_some_iff.1 hp).1;have key:∀c x,c<2->(fmC p)[c]?=some x->w.cell? ⟨b,0+(i*2+c),none⟩=some x:=by
   intro c x hc hx;have h1:=EC L i p c hp hc
   exact t130
  exact⟨key 0 _ om_ rfl,key 1 _ om_ rfl⟩
theorem yN:(prog.info? 40).map (fun i=>(i.zero,i.size,i.bytes))=some (some (.agg #[.int .i64 0,.slice none 0 0]),2,32):=by kernel_rfl
theorem vX:∃i,prog.info? 40=some i/\i.zero=some (.agg #[.int .i64 0,.slice none 0 0])/\i.size=2/\i.bytes=32:=by
 obtain⟨i,hi,he⟩:=Option.map_eq_some_iff.1 yN;simp only[Prod.mk.injEq] at he;exact⟨i,hi,he.1,he.2.1,he.2.2⟩
theorem xE{o:Oper}{a:Act}{w:World}{x y:Operand}{u:Value}{B n g:Nat}{L:List Fm}{p:Fm}
  (ho:o.op=.call { callee:=.builtin .append,args:=#[x,y],argTypes:=#[22,22]})
  (hown:w.ownsRow B 40 2 u n (fmV L)) (hb:Block w g 40 (fmC p)) (hn:n<=1000) (hB:B<=w.heap.size) (hx:a.eval x=u:=by kernel_rfl) (hy:a.eval y=.slice (some ⟨g,0,none⟩) 1 1:=by kernel_rfl):
  ∃q w',(execOp a.eval o).run prog w=.ok (.value q) w'/\w'.ownsRow B 40 2 q (n+1) (fmV (L++[p]))/\w.grownBy w' u.ownBlock:=by
 obtain⟨i0,hi,hz0,hz1,hz2⟩:=vX;obtain⟨q,w',h1,h2,h3⟩:=jy (sz:=2) (bytes:=32) underlying22 hi hz0 hz1 hz2 (by simp[Value.cells]) om_ ho hx hy hown (news:=fmC p) rfl (fun j v hj=>(hb.cell j).trans hj) (by intro v hv;simp[fmC] at hv;rcases hv with rfl | rfl <;> rfl) om_ om_ hB;exact⟨q,w',h1,by rw[ul];simpa[fmV] using h2,h3⟩
def zY(B:Nat)(w:World)(p:Fm):Prop:=w.ownsRow B 47 5 (.slice p.f p.fL.length p.jB) p.fL.length (fdV p.fL)
theorem zY.ok{B:Nat}{w:World}{p:Fm}(h:zY B w p):p.Ok w:=⟨(oL h).1,(ig h).1,(ig h).2⟩
theorem LU:(40:TypeId)≠47:=by decide
end ak
namespace step
open Go.RowKit pen
open ak (eP lH bK di lN)
set_option maxRecDepth 20000 in
set_option maxHeartbeats 1600000 in
theorem iE(b:Nat)(s:Sight)(w:World)(h:bG 112 b s w):Calls prog 93 #[.pointer (some ⟨b,0,none⟩)] w (Saw 112 b ((takeA s).1.val) (takeA s).2 w):=by
 obtain⟨A,s1,hA⟩:∃A s1,au 255 s=(A,s1):=⟨_,_,rfl⟩;obtain⟨K,s2,hK⟩:∃K s2,au 4 s1=(K,s2):=⟨_,_,rfl⟩;obtain⟨lo,s3,hl⟩:∃A s,eInt s2=(A,s):=⟨_,_,rfl⟩;obtain⟨hi,s4,hg⟩:∃A s,eInt s3=(A,s):=⟨_,_,rfl⟩;obtain⟨M,s5,hM⟩:∃A s,au 1000 s4=(A,s):=⟨_,_,rfl⟩;have hT:takeA s=(⟨A,K,lo,hi,M⟩,s5):=by unfold takeA;simp only[hA,hK,hl,hg,hM]
 rw[hT];have bI:=h.lt;have qR:Below w.heap.size w (w.alloc (.cells #[.int .i64 0,.int .i64 0,.int .i64 0,.int .i64 0,.int .i64 0] 47)):=(Below.refl _ _).alloc (Nat.le_refl _) _;have c1:=aS b s _ (h.later qR) 255 om_ om_;have HR0:=hid (Block.new w 47 [.int .i64 0,.int .i64 0,.int .i64 0,.int .i64 0,.int .i64 0]);have c2:=fun w' hE=>aS b s1 w' hE 4 om_ om_
 have c3:=fun w' hE=>iC b s2 w' hE
 have c4:=fun w' hE=>iC b s3 w' hE
 have c5:=fun w' hE=>aS b s4 w' hE 1000 om_ om_
 rw[hA] at c1;rw[hK] at c2;rw[hl] at c3;rw[hg] at c4;rw[hM] at c5;have HB0:=hid qR;clear hT hA hK hl hg hM h qR;simp only[field.Fd.val] at c1 c2 c3 c4 c5 ⊢;unfold Saw at c1 c2 c3 c4 c5 ⊢;have dR:w.heap.size≠b:=by omega
 go_enter func93,ntmps93;go_wp2_with (first
  | (go_at_call 52;((with_reducible refine c1.mono ?_);rintro e w1 ⟨rfl,hE1,hu1⟩;have HR1:=hid (bK HR0.o hu1 dR)))
  | (go_at_call 52;((with_reducible refine(c2 w1 hE1).mono ?_);rintro e w2 ⟨rfl,hE2,hu2⟩;have HR2:=hid (bK HR1.o hu2 dR)))
  | (go_at_call 92;((with_reducible refine(c3 w2 hE2).mono ?_);rintro e w3 ⟨rfl,rQ,hu3⟩;have HR3:=hid (bK HR2.o hu3 dR)))
  | (go_at_call 92;((with_reducible refine(c4 w3 rQ).mono ?_);rintro e w4 ⟨rfl,KX,DZ⟩;have HR4:=hid (bK HR3.o DZ dR)))
  | (go_at_call 52;((with_reducible refine(c5 w4 KX).mono ?_);rintro e w5 ⟨rfl,Jh,Td⟩;have nJ:=bK HR4.o Td dR;have TT:=hid nJ;have x0:=nJ.cell 0;have x1:=nJ.cell 1;have x2:=nJ.cell 2;have x3:=nJ.cell 3;have x4:=nJ.cell 4;have p0:=nJ.frozen 0;have p1:=nJ.frozen 1;have p2:=nJ.frozen 2;have p3:=nJ.frozen 3;have p4:=nJ.frozen 4;clear nJ)))
 have hs1:w.heap.size<=w1.heap.size:=Nat.le_trans HB0.o.size hu1.2.2.2.1;have hs2:w.heap.size<=w2.heap.size:=Nat.le_trans hs1 hu2.2.2.2.1;have hs3:w.heap.size<=w3.heap.size:=Nat.le_trans hs2 hu3.2.2.2.1;have hs4:w.heap.size<=w4.heap.size:=Nat.le_trans hs3 DZ.2.2.2.1;have jq:=(((((Below.but (g:=b) HB0.o).trans (hu1.mono HB0.o.size)).trans (hu2.mono hs1)).trans (hu3.mono hs2)).trans (DZ.mono hs3)).trans (Td.mono hs4);obtain⟨k1,k2,k3⟩:=lN (w:=w) ⟨A,K,lo,hi,M⟩ Jh TT.o dR (Nat.le_refl _) jq;exact bodyPost_ret (fU (b:=w.heap.size) (o:=0) rfl rfl k2.whole underlying47 rfl (lH _ _ _ _ _)) rfl ⟨rfl,k1,k3⟩
end step
namespace ak
open Go.RowKit pen
theorem yJ{o:Oper}{a:Act}{w:World}{x y:Operand}{ad:Addr}{v:Value}{p:Option Addr}{n c:Nat}(ho:o.op=.store 22 x y)(hc:w.cell? ad=some v)(hf:w.frozen? ad=false)(hx:a.eval x=.pointer (some ad):=by kernel_rfl)(hy:a.eval y=.slice p n c:=by kernel_rfl):(execOp a.eval o).run prog w=.ok .skip (w.setCell ad (.slice p n c)):=by
 unfold execOp;rw[ho];simp only[hx,hy];go_simp
end ak
end Go.Proofs.Ytogfefdlffmioaa
