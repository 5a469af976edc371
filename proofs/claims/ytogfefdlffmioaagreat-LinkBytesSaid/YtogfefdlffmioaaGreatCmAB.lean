/- Contracts and lemmas that claims of this seat share: StepRow, StepTakeF, StepRefTakeF. Each says its own conditions. -/
import Derived.Test.YtogfefdlffmioaaGreatCmWord
import Derived.Conc.WalkWords
import Derived.Test.YtogfefdlffmioaaGreatCmD
import Derived.Test.YtogfefdlffmioaaGreatCmQ
import Derived.Test.YtogfefdlffmioaaGreatCmL
import Derived.Test.YtogfefdlffmioaaGreatCmAA
set_option linter.unusedVariables false
namespace Go.Proofs.YtogfefdlffmioaaGreat
open Go.Proofs.Tryz
theorem t104{P:Prop}(h:P:=by
 simp only[Prod.mk.injEq] at he;exact⟨i,hi,he.1,he.2.1,he.2.2⟩):P:=h
namespace step
open Go.RowKit
open schema (exec_push)
abbrev Z16:List Value:=zZ
def stV:List St->List Value
 | []=>[]
 | p :: L=>p.C++stV L
theorem stV_append:∀a b,stV (a++b)=stV a++stV b
 | [],_=>rfl
 | p :: a,b=>by rw[List.cons_append,stV,stV,stV_append a b,List.append_assoc]
theorem C_len(p:St):p.C.length=16:=rfl
theorem stV_length:∀L,(stV L).length=L.length*16
 | []=>rfl
 | p :: L=>by rw[stV,List.length_append,C_len,stV_length L,List.length_cons];omega
theorem stV_at:∀(L:List St) (i:Nat) (p:St) (c:Nat),L[i]?=some p->c<16->(stV L)[i*16+c]?=p.C[c]?
 | [],i,p,c,h,_=>by simp at h
 | q :: L,0,p,c,h,hc=>by
  simp at h;subst h;rw[stV,List.getElem?_append_left (by rw[C_len];omega)];simp
 | q :: L,i+1,p,c,h,hc=>by
  rw[stV,List.getElem?_append_right (by rw[C_len];omega)];rw[<-stV_at L i p c (by simpa using h) hc];congr 1;rw[C_len];omega
theorem own_sts{w:World}{base n:Nat}{a:Option Addr}{cap:Nat}{L:List St}{e:TypeId}(h:w.ownsRow base e 16 (.slice a n cap) n (stV L)):Sts w a L:=by
 obtain⟨hl,hr⟩:=h;have hn:n=L.length:=by have:=stV_length L;rw[hl] at this;omega
 rcases hr with ⟨hv,h0⟩ | ⟨b,cap',cur,hv,_,hg,hcp,_,_,dP⟩
 ·cases hv
  exact .inl (List.eq_nil_of_length_eq_zero om_)
 ·cases hv
  refine .inr ⟨b,0,rfl,(Array.getElem?_eq_some_iff.1 hg).1,fun i p hp c x hx=> ?_⟩;have hi:i<L.length:=(List.getElem?_eq_some_iff.1 hp).1;have hc:c<16:=(List.getElem?_eq_some_iff.1 hx).1;have h1:=stV_at L i p c hp hc;rw[hx,<-dP,List.getElem?_take,if_pos om_] at h1;rw[show 0+i*16+c=0+(i*16+c) by omega,cell_of_row w b _ cur _ _ hg,Nat.zero_add,<-h1,Array.getElem?_toList]
theorem st_info_all:(prog.info? 84).map (fun i=>(i.zero,i.size,i.bytes))=some (some (.agg ⟨Z16⟩),16,168):=by kernel_rfl
theorem st_info_parts:∃i,prog.info? 84=some i/\i.zero=some (.agg ⟨Z16⟩)/\i.size=16/\i.bytes=168:=by
 obtain⟨i,hi,he⟩:=Option.map_eq_some_iff.1 st_info_all
 exact t104
theorem C_one(p:St):∀v∈p.C,v.oneCell'=true:=by
 intro v hv;simp only[St.C,spC,List.mem_cons,List.not_mem_nil,or_false] at hv;rcases hv with rfl | rfl | rfl | rfl | rfl | rfl | rfl | rfl | rfl | rfl | rfl | rfl | rfl | rfl | rfl | rfl <;> rfl
theorem exec_push_st{o:Oper}{a:Act}{w:World}{x y:Operand}{u:Value}{B n g:Nat}{L:List St}{p:St}
  (ho:o.op=.call { callee:=.builtin .append,args:=#[x,y],argTypes:=#[25,25]})
  (hown:w.ownsRow B 84 16 u n (stV L)) (hb:Block w g 84 p.C) (hn:n<=1000) (hB:B<=w.heap.size) (hx:a.eval x=u:=by kernel_rfl) (hy:a.eval y=.slice (some ⟨g,0,none⟩) 1 1:=by kernel_rfl):
  ∃q w',(execOp a.eval o).run prog w=.ok (.value q) w'/\w'.ownsRow B 84 16 q (n+1) (stV (L++[p]))/\w.grownBy w' u.ownBlock:=by
 obtain⟨i0,hi,hz0,hz1,hz2⟩:=st_info_parts;obtain⟨q,w',h1,h2,h3⟩:=exec_push (sz:=16) (bytes:=168) underlying25 hi hz0 hz1 hz2 (by simp[Value.cells]) om_ ho hx hy hown (news:=p.C) rfl (fun j v hj=>(hb.cell j).trans hj) (C_one p) om_ om_ hB;exact⟨q,w',h1,by rw[stV_append];simpa[stV] using h2,h3⟩
end step
namespace step
open Go.RowKit pen
open schema (eCount_le fd5_info blk_but but_store take_end)
set_option maxRecDepth 20000 in
set_option maxHeartbeats 1600000 in
theorem parseField_any(b:Nat)(s:Sight)(w:World)(h:EyeAt 123 b s w):Calls prog 101 #[.pointer (some ⟨b,0,none⟩)] w (Saw 123 b ((takeA s).1.val) (takeA s).2 w):=by
 obtain⟨A,s1,hA⟩:∃A s1,eCount 255 s=(A,s1):=⟨_,_,rfl⟩;obtain⟨K,s2,hK⟩:∃K s2,eCount 4 s1=(K,s2):=⟨_,_,rfl⟩;obtain⟨lo,s3,hl⟩:∃A s,eInt s2=(A,s):=⟨_,_,rfl⟩;obtain⟨hi,s4,hg⟩:∃A s,eInt s3=(A,s):=⟨_,_,rfl⟩;obtain⟨M,s5,hM⟩:∃A s,eCount 1000 s4=(A,s):=⟨_,_,rfl⟩;have hT:takeA s=(⟨A,K,lo,hi,M⟩,s5):=by unfold takeA;simp only[hA,hK,hl,hg,hM]
 rw[hT];have au:=h.lt;have bT:Below w.heap.size w (w.alloc (.cells #[.int .i64 0,.int .i64 0,.int .i64 0,.int .i64 0,.int .i64 0] 79)):=(Below.refl _ _).alloc (Nat.le_refl _) _;have c1:=eyeCount_any b s _ (h.later bT) 255 om_ om_;have HR0:=hid (Block.new w 79 [.int .i64 0,.int .i64 0,.int .i64 0,.int .i64 0,.int .i64 0]);have c2:=fun w' hE=>eyeCount_any b s1 w' hE 4 om_ om_
 have c3:=fun w' hE=>eyeNum_any b s2 w' hE
 have c4:=fun w' hE=>eyeNum_any b s3 w' hE
 have c5:=fun w' hE=>eyeCount_any b s4 w' hE 1000 om_ om_
 rw[hA] at c1;rw[hK] at c2;rw[hl] at c3;rw[hg] at c4;rw[hM] at c5;have HB0:=hid bT;clear hT hA hK hl hg hM h bT;simp only[field.Fd.val] at c1 c2 c3 c4 c5 ⊢;unfold Saw at c1 c2 c3 c4 c5 ⊢;have aH:w.heap.size≠b:=by omega
 go_enter func101,ntmps101;go_wp2_with (first
  | (go_at_call 49;((with_reducible refine c1.mono ?_);rintro e w1 ⟨rfl,hE1,hu1⟩;have HR1:=hid (blk_but HR0.o hu1 aH)))
  | (go_at_call 49;((with_reducible refine(c2 w1 hE1).mono ?_);rintro e w2 ⟨rfl,hE2,hu2⟩;have HR2:=hid (blk_but HR1.o hu2 aH)))
  | (go_at_call 100;((with_reducible refine(c3 w2 hE2).mono ?_);rintro e w3 ⟨rfl,hE3,hu3⟩;have HR3:=hid (blk_but HR2.o hu3 aH)))
  | (go_at_call 100;((with_reducible refine(c4 w3 hE3).mono ?_);rintro e w4 ⟨rfl,hE4,hu4⟩;have HR4:=hid (blk_but HR3.o hu4 aH)))
  | (go_at_call 49;((with_reducible refine(c5 w4 hE4).mono ?_);rintro e w5 ⟨rfl,hE5,hu5⟩;have hR5:=blk_but HR4.o hu5 aH;have HR5:=hid hR5;have x0:=hR5.cell 0;have x1:=hR5.cell 1;have x2:=hR5.cell 2;have x3:=hR5.cell 3;have x4:=hR5.cell 4;have p0:=hR5.frozen 0;have p1:=hR5.frozen 1;have p2:=hR5.frozen 2;have p3:=hR5.frozen 3;have p4:=hR5.frozen 4;clear hR5)))
 have hs1:w.heap.size<=w1.heap.size:=Nat.le_trans HB0.o.size hu1.2.2.2.1;have hs2:w.heap.size<=w2.heap.size:=Nat.le_trans hs1 hu2.2.2.2.1;have hs3:w.heap.size<=w3.heap.size:=Nat.le_trans hs2 hu3.2.2.2.1;have hs4:w.heap.size<=w4.heap.size:=Nat.le_trans hs3 hu4.2.2.2.1;have aI:=(((((Below.but (g:=b) HB0.o).trans (hu1.mono HB0.o.size)).trans (hu2.mono hs1)).trans (hu3.mono hs2)).trans (hu4.mono hs3)).trans (hu5.mono hs4);obtain⟨k1,k2,k3⟩:=take_end (w:=w) ⟨A,K,lo,hi,M⟩ hE5 HR5.o aH (Nat.le_refl _) aI;exact bodyPost_ret (results_cell (b:=w.heap.size) (o:=0) rfl rfl k2.whole underlying79 rfl (fd5_info _ _ _ _ _)) rfl ⟨rfl,k1,k3⟩
end step
namespace step
open Go.RowKit pen
open schema (eCount_le fd5_info blk_but but_store take_end eye_past)
structure FA (b F:Nat) (w0:World) (cs:List Value) (e:Sight) (wr:World):Prop where
 f:Block wr F 79 cs
 eye:EyeAt 68 b e wr
 but:But F b w0 wr
 low:b<F
theorem FA.call{b F:Nat}{w0 w w':World}{cs:List Value}{e e':Sight}(h:FA b F w0 cs e w)(hE:EyeAt 68 b e' w')(hu:But w.heap.size b w w'):FA b F w0 cs e' w':=
 ⟨blk_but h.f hu (Nat.ne_of_gt h.low),hE,h.but.trans (hu.mono (Nat.le_of_lt h.f.lt)),h.low⟩
theorem FA.put{b F:Nat}{w0 w:World}{cs:List Value}{e:Sight}(h:FA b F w0 cs e w)(j:Nat)(v:Value):FA b F w0 (cs.set j v) e (w.setCell ⟨F,j,none⟩ v):=
 ⟨h.f.setCell j v,eye_past h.eye h.low ((But.refl _ F w).setCell j v),but_store h.but (Nat.le_refl _) j v,h.low⟩
theorem FA.start{b:Nat}{w1:World}{e:Sight}(hE:EyeAt 68 b e w1)(cs:List Value):FA b w1.heap.size w1 cs e (w1.alloc (.cells cs.toArray 79)):=
 ⟨Block.new w1 79 cs,hE.later (field.newB _ _),Below.but (field.newB _ _),hE.lt⟩
set_option maxRecDepth 20000 in
set_option maxHeartbeats 1600000 in
theorem dh(b:Nat)(s:Sight)(w:World)(h:EyeAt 68 b s w):Calls prog 87 #[.pointer (some ⟨b,0,none⟩)] w (Saw 68 b ((takeA s).1.val) (takeA s).2 w):=by
 obtain⟨A,s1,hA⟩:∃A s1,eCount 255 s=(A,s1):=⟨_,_,rfl⟩;obtain⟨K,s2,hK⟩:∃K s2,eCount 4 s1=(K,s2):=⟨_,_,rfl⟩;obtain⟨lo,s3,hl⟩:∃A s,eInt s2=(A,s):=⟨_,_,rfl⟩;obtain⟨hi,s4,hg⟩:∃A s,eInt s3=(A,s):=⟨_,_,rfl⟩;obtain⟨M,s5,hM⟩:∃A s,eCount 1000 s4=(A,s):=⟨_,_,rfl⟩;have hT:takeA s=(⟨A,K,lo,hi,M⟩,s5):=by unfold takeA;simp only[hA,hK,hl,hg,hM]
 rw[hT];have au:=h.lt;have bT:Below w.heap.size w (w.alloc (.cells #[.int .i64 0,.int .i64 0,.int .i64 0,.int .i64 0,.int .i64 0] 79)):=(Below.refl _ _).alloc (Nat.le_refl _) _;have c1:=ax b s _ (h.later bT) 255 om_ om_;have HR0:=hid (Block.new w 79 [.int .i64 0,.int .i64 0,.int .i64 0,.int .i64 0,.int .i64 0]);have c2:=fun w' hE=>ax b s1 w' hE 4 om_ om_
 have c3:=fun w' hE=>aX b s2 w' hE
 have c4:=fun w' hE=>aX b s3 w' hE
 have c5:=fun w' hE=>ax b s4 w' hE 1000 om_ om_
 rw[hA] at c1;rw[hK] at c2;rw[hl] at c3;rw[hg] at c4;rw[hM] at c5;have HB0:=hid bT;clear hT hA hK hl hg hM h bT;simp only[field.Fd.val] at c1 c2 c3 c4 c5 ⊢;unfold Saw at c1 c2 c3 c4 c5 ⊢;have aH:w.heap.size≠b:=by omega
 go_enter func87,ntmps87;go_wp2_with (first
  | (go_at_call 29;((with_reducible refine c1.mono ?_);clear c1;rintro e w1 ⟨rfl,hE1,hu1⟩;have HR1:=hid (blk_but HR0.o hu1 aH);have HU1:=hid hu1;have HF1:=hid (FA.start hE1 [.int .i64 (A:Int),.int .i64 0,.int .i64 0,.int .i64 0,.int .i64 0]);clear hE1 hu1))
  | (go_at_call 29;((with_reducible refine(c2 _ HF1.o.eye).mono ?_);clear c2;rintro e w2 ⟨rfl,hE2,hu2⟩;have hF2:=HF1.o.call hE2 hu2;have fD:=hF2.f;have y1:=fD.cell 1;have q1:=fD.frozen 1;have HF2:=hid (hF2.put 1 (.int .i64 (K:Int)));clear hF2 fD hE2 hu2))
  | (go_at_call 86;((with_reducible refine(c3 _ HF2.o.eye).mono ?_);clear c3;rintro e w3 ⟨rfl,hE3,hu3⟩;have hF3:=HF2.o.call hE3 hu3;have bK:=hF3.f;have y2:=bK.cell 2;have q2:=bK.frozen 2;have HF3:=hid (hF3.put 2 (.int .i64 lo));clear hF3 bK hE3 hu3))
  | (go_at_call 86;((with_reducible refine(c4 _ HF3.o.eye).mono ?_);clear c4;rintro e w4 ⟨rfl,hE4,hu4⟩;have hF4:=HF3.o.call hE4 hu4;have iT:=hF4.f;have y3:=iT.cell 3;have q3:=iT.frozen 3;have qf:=hid (hF4.put 3 (.int .i64 hi));clear hF4 iT hE4 hu4))
  | (go_at_call 29;((with_reducible refine(c5 _ qf.o.eye).mono ?_);clear c5;rintro e w5 ⟨rfl,hE5,hu5⟩;have hF5:=qf.o.call hE5 hu5;have jv:=hF5.f;have y4:=jv.cell 4;have q4:=jv.frozen 4;have kF:=hid (hF5.put 4 (.int .i64 (M:Int)));have hR5:=HR1.o.but hF5.but HR1.o.lt aH;have y0:=jv.cell 0;have y1:=jv.cell 1;have y2:=jv.cell 2;have y3:=jv.cell 3;have x0:=hR5.cell 0;have x1:=hR5.cell 1;have x2:=hR5.cell 2;have x3:=hR5.cell 3;have x4:=hR5.cell 4;have p0:=hR5.frozen 0;have p1:=hR5.frozen 1;have p2:=hR5.frozen 2;have p3:=hR5.frozen 3;have p4:=hR5.frozen 4;have iP:=HR1.o.lt;have dY:=Nat.ne_of_lt iP;clear hF5 jv hE5 hu5 hR5)))
 have aI:=((Below.but (g:=b) HB0.o).trans (HU1.o.mono HB0.o.size)).trans (kF.o.but.mono (Nat.le_of_lt HR1.o.lt));obtain⟨k1,k2,k3⟩:=take_end (w:=w) ⟨A,K,lo,hi,M⟩ kF.o.eye (HR1.o.but kF.o.but HR1.o.lt aH) aH (Nat.le_refl _) aI;exact bodyPost_ret (results_cell (b:=w.heap.size) (o:=0) rfl rfl k2.whole underlying79 rfl (fd5_info _ _ _ _ _)) rfl ⟨rfl,k1,k3⟩
end step
end Go.Proofs.YtogfefdlffmioaaGreat
