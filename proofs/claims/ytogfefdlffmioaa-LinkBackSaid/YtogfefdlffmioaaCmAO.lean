/- Contracts and lemmas that claims of this seat share: Line, Sym, LateS, StepTakeM, LineAny, StepRefSame. Each says its own conditions. -/
import Derived.Test.YtogfefdlffmioaaCmWord
import Derived.WalkMore
import Derived.Deep.CutRange
import Derived.Test.YtogfefdlffmioaaCmE
import Derived.Test.YtogfefdlffmioaaCmAM
import Derived.Test.YtogfefdlffmioaaCmV
import Derived.Test.YtogfefdlffmioaaCmW
import Derived.Test.YtogfefdlffmioaaCmAG
import Derived.Test.YtogfefdlffmioaaCmF
set_option linter.unusedVariables false
namespace Go.Proofs.Ytogfefdlffmioaa
open Go.Proofs.Try
namespace plan
open Go Go.RowKit
structure Line (P:Program) (l:List Oper) (Q:Exit->Act->World->Prop) (i:Nat) (a:Act) (w:World):Prop where
 out:wpList P l.toArray Q (l.drop i) a w
section
variable {P:Program} {l:List Oper} {Q:Exit->Act->World->Prop} {a:Act} {w:World}
theorem line{id:Nat}(h:Line P l Q 0 a w):(Code.region id l.toArray false).wp P Q a w:=wp_region_lit h.out
theorem kL{w1:World}(i:Nat)(o:Oper)(v:Value)(hi:l[i]?=some o)(hv:(execOp a.eval o).run P w=.ok (.value v) w1)(h:Line P l Q (i+1) (a.put o.dst v) w1)(hw:Region.wanted o (yielded l.toArray a.tmps)=true:=by kernel_rfl):Line P l Q i a w:=by
 have hk:=(List.getElem?_eq_some_iff.1 hi).1;have he:=(List.getElem?_eq_some_iff.1 hi).2;replace h:=h.out;refine⟨?_⟩;rw[List.drop_eq_getElem_cons hk,he];unfold wpList;rw[if_pos hw];refine .inl ?_;unfold Oper.wp;rw[hv,Oper.upon_value];exact h
theorem af(i:Nat)(o:Oper)(v:Value)(hi:l[i]?=some o)(h:Line P l Q (i+1) (a.put o.dst v) w)(hw:Region.wanted o (yielded l.toArray a.tmps)=true:=by kernel_rfl)(hv:(execOp a.eval o).run P w=.ok (.value v) w:=by kernel_rfl):Line P l Q i a w:=kL i o v hi (hw:=hw) hv h
theorem ah(i:Nat)(o:Oper)(hi:l[i]?=some o)(h:Line P l Q (i+1) (a.put o.dst undef) w)(hw:Region.wanted o (yielded l.toArray a.tmps)=false:=by kernel_rfl):Line P l Q i a w:=by
 have hk:=(List.getElem?_eq_some_iff.1 hi).1;have he:=(List.getElem?_eq_some_iff.1 hi).2;replace h:=h.out;refine⟨?_⟩;rw[List.drop_eq_getElem_cons hk,he];unfold wpList;rw[if_neg (by rw[hw];simp)];exact h
theorem uH{w1:World}(i:Nat)(o:Oper)(hi:l[i]?=some o)(hv:(execOp a.eval o).run P w=.ok .skip w1)(h:Line P l Q (i+1) (a.put o.dst undef) w1)(hw:Region.wanted o (yielded l.toArray a.tmps)=true:=by kernel_rfl):Line P l Q i a w:=by
 have hk:=(List.getElem?_eq_some_iff.1 hi).1;have he:=(List.getElem?_eq_some_iff.1 hi).2;replace h:=h.out;refine⟨?_⟩;rw[List.drop_eq_getElem_cons hk,he];unfold wpList;rw[if_pos hw];refine .inl ?_;unfold Oper.wp;rw[hv,Oper.upon_skip];exact h
theorem oJ(i:Nat)(o:Oper)(F:FuncId)(args:Array Value)(hi:l[i]?=some o)(hw:Region.wanted o (yielded l.toArray a.tmps)=true)(hv:(execOp a.eval o).run P w=.ok (.enter F args) w)(h:Calls P F args w fun e w'=>∃v,e=.returned v/\Line P l Q (i+1) (a.put o.dst v) w'):Line P l Q i a w:=by
 have hk:=(List.getElem?_eq_some_iff.1 hi).1;have he:=(List.getElem?_eq_some_iff.1 hi).2;refine⟨?_⟩;rw[List.drop_eq_getElem_cons hk,he];unfold wpList;rw[if_pos hw];refine .inl ?_;unfold Oper.wp;rw[hv];simp only[Oper.upon];refine h.mono ?_;rintro e w' ⟨v,rfl,hR⟩;exact hR.out
theorem aK{n:Nat}(hn:l.length<=n)(h:Q .normal a w):Line P l Q n a w:=by
 refine⟨?_⟩;rw[List.drop_of_length_le hn];exact h
end
end plan
namespace plan
open Go Go.RowKit
def gate(x:Value)(want:Bool):Bool:=(match x with | .bool b=>some b | _=>none:Option Bool) == some want
theorem nT{x:Value}{want:Bool}:gate x want=true↔x=.bool want:=by
 unfold gate;cases x <;> simp
theorem l9{o:Oper}{ops:Array Oper}{tmps:Array Value}{j:Nat}{want:Bool}{x:Value}(hg:o.guard=some (j,want))(hj:((ops[j]?).bind (·.dst)).bind (tmps[·]?)=some x):Region.wanted o (yielded ops tmps)=gate x want:=by
 unfold Region.wanted yielded gate;rw[hg];simp only[hj];cases x <;> rfl
section
variable {P:Program} {l:List Oper} {Q:Exit->Act->World->Prop} {a:Act} {w:World}
theorem aA(i j:Nat)(o:Oper)(want:Bool)(x v:Value)(hi:l[i]?=some o)(hg:o.guard=some (j,want))
  (hv:x=.bool want->(execOp a.eval o).run P w=.ok (.value v) w) (h:∀y,(x=.bool want->y=v)->Line P l Q (i+1) (a.put o.dst y) w) (hj:((l.toArray[j]?).bind (·.dst)).bind (a.tmps[·]?)=some x:=by kernel_rfl):Line P l Q i a w:=by
 by_cases hb:gate x want=true
 ·exact af i o v hi (hw:=((l9 hg hj).trans hb)) (hv:=(hv (nT.1 hb))) (h v (fun _=>rfl))
 ·exact ah i o hi (hw:=((l9 hg hj).trans (by simpa using hb))) (h undef (fun e=>absurd (nT.2 e) hb))
theorem dn(i j:Nat)(o:Oper)(want:Bool)(x v:Value)(F:FuncId)(args:Array Value)(S:World->Prop)(hi:l[i]?=some o)(hg:o.guard=some (j,want))(hS:S w)
  (hv:x=.bool want->(execOp a.eval o).run P w=.ok (.enter F args) w) (hC:x=.bool want->Calls P F args w fun e w'=>e=.returned v/\S w') (h:∀y w',S w'->(x=.bool want->y=v)->Line P l Q (i+1) (a.put o.dst y) w') (hj:((l.toArray[j]?).bind (·.dst)).bind (a.tmps[·]?)=some x:=by kernel_rfl):Line P l Q i a w:=by
 by_cases hb:gate x want=true
 ·refine oJ i o F args hi ((l9 hg hj).trans hb) (hv (nT.1 hb)) ((hC (nT.1 hb)).mono ?_);rintro e w' ⟨rfl,qy⟩;exact⟨v,rfl,h v w' qy (fun _=>rfl)⟩
 ·exact ah i o hi (hw:=((l9 hg hj).trans (by simpa using hb))) (h undef w hS (fun e=>absurd (nT.2 e) hb))
theorem lu(i:Nat)(o:Oper)(v:Value)(F:FuncId)(args:Array Value)(S:World->Prop)(hi:l[i]?=some o)(hC:Calls P F args w fun e w'=>e=.returned v/\S w')(h:∀w',S w'->Line P l Q (i+1) (a.put o.dst v) w')(hw:Region.wanted o (yielded l.toArray a.tmps)=true:=by kernel_rfl)(hv:(execOp a.eval o).run P w=.ok (.enter F args) w:=by kernel_rfl):Line P l Q i a w:=by
 refine oJ i o F args hi hw hv (hC.mono ?_);rintro e w' ⟨rfl,qy⟩;exact⟨v,rfl,h w' qy⟩
theorem aZ{o:Oper}{x y:Operand}{c e:Bool}(ho:o.op=.pick x (.const (.bool true)) y)(hy:c=false->a.eval y=.bool e)(hx:a.eval x=.bool c:=by kernel_rfl):(execOp a.eval o).run P w=.ok (.value (.bool (c || e))) w:=by
 unfold execOp;rw[ho];cases c
 ·simp only[hx,hy rfl];go_simp
 ·simp only[hx];go_simp
theorem bD{o:Oper}{x y:Operand}{c e:Bool}(ho:o.op=.pick x y (.const (.bool false)))(hy:c=true->a.eval y=.bool e)(hx:a.eval x=.bool c:=by kernel_rfl):(execOp a.eval o).run P w=.ok (.value (.bool (c && e))) w:=by
 unfold execOp;rw[ho];cases c
 ·simp only[hx];go_simp
 ·simp only[hx,hy rfl];go_simp
theorem jT{o:Oper}{c e:Bool}(h:(execOp a.eval o).run P w=.ok (.value (.bool c)) w)(he:c=e):(execOp a.eval o).run P w=.ok (.value (.bool e)) w:=he ▸ h
theorem iZ{o:Oper}{x:Operand}{c e:Bool}(ho:o.op=.assign x)(he:c=e)(hx:a.eval x=.bool c:=by kernel_rfl):(execOp a.eval o).run P w=.ok (.value (.bool e)) w:=by
 unfold execOp;rw[ho];simp only[hx,he];go_simp
end
end plan
namespace plan
open Go Go.RowKit
section
variable {P:Program} {md:Region.Mode} {Q:Exit->Act->World->Prop} {l:List Oper}
end
end plan
theorem t109{P:Prop}(h:P:=by
 have yw:=hid nU;have Ll:=hid hK6;clear nU pR uy hg5 kK ny hS hK3 hK4 hK6;walk_nrm;go_wp2;exact⟨⟨k+1,by omega,by go_num,hid ⟨_,_,_,_,by rw[HT1.o,HT2.o,<-List.append_assoc,hZ.o];exact yw.o⟩,hid (HK.o.trans Ll.o)⟩,by simp[intOf];omega⟩):P:=h
theorem t47{P:Prop}(h:P:=by
 rintro en w3 ⟨rfl,rQ,hu3⟩;exact⟨_,rfl,rfl,hS.call rQ hu3,dJ hS.eye gJ hu3⟩):P:=h
theorem t32{P:Prop}(h:P:=by
 obtain rfl:k=N:=by omega
 have CQ:=hid hS;clear hS HS;go_wp2;exact fO rfl rfl ⟨rfl,⟨_,_,_,_,by rw[qV.o];exact CQ.o⟩,HK.o⟩):P:=h
theorem t7{P:Prop}(h:P:=by
 rintro v w3 ⟨rfl,ny,hK3⟩;have kK:=ny.later (aI w3 (.cells #[.int .i64 (p:Int)] 3));have hK4:StayM wr (w3.alloc (.cells #[.int .i64 (p:Int)] 3)):=hK3.trans (kR _ (aI w3 (.cells #[.int .i64 (p:Int)] 3)));refine plan.Fh 8 _ (fun q w5=>w5.ownsRow (T+1) 3 1 q (Z.length+1) (qZ (Z++[(p:Int)]))/\(w3.alloc (.cells #[.int .i64 (p:Int)] 3)).grownBy w5 (Value.slice ta' Z.length BG).ownBlock) rfl rfl
  (oW (g:=w3.heap.size) rfl kK.rt (Block.new w3 3 [.int .i64 (p:Int)]) HLEN.o kK.f.lt) ?_
 rintro q w5 ⟨uy,hg5⟩;have pR:=kK.held (B:=0) kK.rt hg5;obtain⟨qa,qc,rfl,_⟩:=aP uy;have nU:=kK.Ip hg5 uy;have hK6:StayM wr (w5.setCell ⟨T,14,none⟩ (.slice qa (Z.length+1) qc)):=hK4.trans ((eU _ kK.rt hg5 de_).trans (jE _ pR de_ 14 _));refine plan.uK (w1:=w5) 9 _ (.pointer (some ⟨T,0,none⟩)) rfl rfl ?_;refine plan.uK (w1:=w5) 10 _ (.pointer (some ⟨T,14,none⟩)) rfl rfl ?_;refine plan.lastT (w1:=w5.setCell ⟨T,14,none⟩ (.slice qa (Z.length+1) qc)) 11 _ rfl rfl rfl (qx (ad:=⟨T,14,none⟩) rfl (pR.cell 14) (pR.frozen 14)) ?_
 exact t109):P:=h
namespace step
open Go.RowKit pen
open field (aI)
open ak (eP ji ve eU jE kR bG.blk fdV fdC mg nR aU)
variable {Ty:TypeId} {b T:Nat} {w0:World} {s:Sp} {e:Sight} {ta la:Option Addr} {tc lc:Nat}
abbrev StayM(w w':World):Prop:=ji 100 w w'
theorem dJ{w w':World}(hE:bG Ty b e w)(hT:Ty≠100)(hu:But w.heap.size b w w'):StayM w w':=by
 obtain⟨cs,hB⟩:=ak.bG.blk hE;exact ve _ hu hB hT
theorem fM{w:World}(h:TS Ty b T w0 s e ta tc la lc w)(j:Nat)(v:Value):StayM w (w.setCell ⟨T,j,none⟩ v):=jE _ h.f de_ j v
theorem gJ:(112:TypeId)≠100:=by decide
theorem TS.Ky{w:World}(h:TS Ty b T w0 s e ta tc la lc w)(p:field.Fd):TS Ty b T w0 { s with f:=p} e ta tc la lc (((((w.setCell ⟨T,7,none⟩ (.int .i64 p.id)).setCell ⟨T,8,none⟩ (.int .i64 p.kind)).setCell ⟨T,9,none⟩ (.int .i64 p.lo)).setCell ⟨T,10,none⟩ (.int .i64 p.hi)).setCell ⟨T,11,none⟩ (.int .i64 p.most))/\
  StayM w (((((w.setCell ⟨T,7,none⟩ (.int .i64 p.id)).setCell ⟨T,8,none⟩ (.int .i64 p.kind)).setCell ⟨T,9,none⟩ (.int .i64 p.lo)).setCell ⟨T,10,none⟩ (.int .i64 p.hi)).setCell ⟨T,11,none⟩ (.int .i64 p.most)):=by
 have h1:=h.put 7 (.int .i64 p.id) { s with f:={ s.f with id:=p.id}} rfl rfl rfl;have h2:=h1.put 8 (.int .i64 p.kind) { s with f:={ s.f with id:=p.id,kind:=p.kind}} rfl rfl rfl;have h3:=h2.put 9 (.int .i64 p.lo) { s with f:={ s.f with id:=p.id,kind:=p.kind,lo:=p.lo}} rfl rfl rfl;have h4:=h3.put 10 (.int .i64 p.hi) { s with f:={ s.f with id:=p.id,kind:=p.kind,lo:=p.lo,hi:=p.hi}} rfl rfl rfl;have h5:=h4.put 11 (.int .i64 p.most) { s with f:=p} rfl rfl rfl;exact⟨h5,(fM h _ _).trans ((fM h1 _ _).trans ((fM h2 _ _).trans ((fM h3 _ _).trans (fM h4 _ _))))⟩
theorem TS.H9{w:World}(h:TS Ty b T w0 s e ta tc la lc w)(p:field.Va):TS Ty b T w0 { s with v:=p} e ta tc la lc ((w.setCell ⟨T,12,none⟩ (.int .i64 p.n)).setCell ⟨T,13,none⟩ (.string p.s))/\
  StayM w ((w.setCell ⟨T,12,none⟩ (.int .i64 p.n)).setCell ⟨T,13,none⟩ (.string p.s)):=by
 have h1:=h.put 12 (.int .i64 p.n) { s with v:={ s.v with n:=p.n}} rfl rfl rfl;have h2:=h1.put 13 (.string p.s) { s with v:=p} rfl rfl rfl;exact⟨h2,(fM h _ _).trans (fM h1 _ _)⟩
def eH(b T:Nat)(w0:World)(s:Sp)(e:Sight)(m:Nat)(w:World)(en:Ending)(w':World):Prop:=
 en=.returned (.tuple #[])/\(∃ta tc la lc,TS 112 b T w0 (run (lets m) (s,e)).1 (run (lets m) (s,e)).2 ta tc la lc w')/\StayM w w'
set_option maxRecDepth 20000 in
set_option maxHeartbeats 1600000 in
theorem tm0(w:World)(h:TS 112 b T w0 s e ta tc la lc w):Calls prog 80 #[.pointer (some ⟨b,0,none⟩),.pointer (some ⟨T,0,none⟩),.int .i64 0] w (eH b T w0 s e 0 w):=by
 have H0:=hid h;obtain⟨A,e1,hA⟩:∃A q,au 200 e=(A,q):=⟨_,_,rfl⟩;have hT:run (lets 0) (s,e)=({ s with fm:=(A:Int)},e1):=by
  show(({ s with fm:=((au 200 e).1:Int)}:Sp),(au 200 e).2)=_
  rw[hA]
 have c1:=aS b e w h.eye 200 om_ om_;rw[hA] at c1;have qV:=hid hT;clear hT;unfold eH;unfold Saw at c1;clear hA h;go_enter func80,ntmps80;go_wp2_with (go_at_call 52;((with_reducible refine c1.mono ?_);clear c1;rintro en w1 ⟨rfl,hE1,hu1⟩;have hT1:=H0.o.call hE1 hu1;have jQ:=hT1.f;have x1:=jQ.cell 1;have p1:=jQ.frozen 1;have HT1:=hid hT1;have xk:=hid hE1;have sK:=hid hu1;clear hT1 jQ hE1 hu1));exact fO rfl rfl ⟨rfl,⟨_,_,_,_,by rw[qV.o];exact HT1.o.put 1 (.int .i64 (A:Int)) _ rfl rfl rfl⟩,(dJ H0.o.eye gJ sK.o).trans (fM HT1.o _ _)⟩
set_option maxRecDepth 20000 in
set_option maxHeartbeats 1600000 in
theorem tm1(w:World)(h:TS 112 b T w0 s e ta tc la lc w):Calls prog 80 #[.pointer (some ⟨b,0,none⟩),.pointer (some ⟨T,0,none⟩),.int .i64 1] w (eH b T w0 s e 1 w):=by
 have H0:=hid h;obtain⟨A,e1,hA⟩:∃A q,au 255 e=(A,q):=⟨_,_,rfl⟩;have hT:run (lets 1) (s,e)=({ s with fd:=(A:Int)},e1):=by
  show(({ s with fd:=((au 255 e).1:Int)}:Sp),(au 255 e).2)=_
  rw[hA]
 have c1:=aS b e w h.eye 255 om_ om_;rw[hA] at c1;have qV:=hid hT;clear hT;unfold eH;unfold Saw at c1;clear hA h;go_enter func80,ntmps80;go_wp2_with (go_at_call 52;((with_reducible refine c1.mono ?_);clear c1;rintro en w1 ⟨rfl,hE1,hu1⟩;have hT1:=H0.o.call hE1 hu1;have jQ:=hT1.f;have x2:=jQ.cell 2;have p2:=jQ.frozen 2;have HT1:=hid hT1;have xk:=hid hE1;have sK:=hid hu1;clear hT1 jQ hE1 hu1));exact fO rfl rfl ⟨rfl,⟨_,_,_,_,by rw[qV.o];exact HT1.o.put 2 (.int .i64 (A:Int)) _ rfl rfl rfl⟩,(dJ H0.o.eye gJ sK.o).trans (fM HT1.o _ _)⟩
set_option maxRecDepth 20000 in
set_option maxHeartbeats 1600000 in
theorem tm2(w:World)(h:TS 112 b T w0 s e ta tc la lc w):Calls prog 80 #[.pointer (some ⟨b,0,none⟩),.pointer (some ⟨T,0,none⟩),.int .i64 2] w (eH b T w0 s e 2 w):=by
 have H0:=hid h;obtain⟨A,e1,hA⟩:∃A q,au 8 e=(A,q):=⟨_,_,rfl⟩;have hT:run (lets 2) (s,e)=({ s with pl:=(A:Int)},e1):=by
  show(({ s with pl:=((au 8 e).1:Int)}:Sp),(au 8 e).2)=_
  rw[hA]
 have c1:=aS b e w h.eye 8 om_ om_;rw[hA] at c1;have qV:=hid hT;clear hT;unfold eH;unfold Saw at c1;clear hA h;go_enter func80,ntmps80;go_wp2_with (go_at_call 52;((with_reducible refine c1.mono ?_);clear c1;rintro en w1 ⟨rfl,hE1,hu1⟩;have hT1:=H0.o.call hE1 hu1;have jQ:=hT1.f;have x3:=jQ.cell 3;have p3:=jQ.frozen 3;have HT1:=hid hT1;have xk:=hid hE1;have sK:=hid hu1;clear hT1 jQ hE1 hu1));exact fO rfl rfl ⟨rfl,⟨_,_,_,_,by rw[qV.o];exact HT1.o.put 3 (.int .i64 (A:Int)) _ rfl rfl rfl⟩,(dJ H0.o.eye gJ sK.o).trans (fM HT1.o _ _)⟩
set_option maxRecDepth 20000 in
set_option maxHeartbeats 1600000 in
theorem tm3(w:World)(h:TS 112 b T w0 s e ta tc la lc w):Calls prog 80 #[.pointer (some ⟨b,0,none⟩),.pointer (some ⟨T,0,none⟩),.int .i64 3] w (eH b T w0 s e 3 w):=by
 have H0:=hid h;obtain⟨A,e1,hA⟩:∃A q,au 255 e=(A,q):=⟨_,_,rfl⟩;have hT:run (lets 3) (s,e)=({ s with tt:=(A:Int)},e1):=by
  show(({ s with tt:=((au 255 e).1:Int)}:Sp),(au 255 e).2)=_
  rw[hA]
 have c1:=aS b e w h.eye 255 om_ om_;rw[hA] at c1;have qV:=hid hT;clear hT;unfold eH;unfold Saw at c1;clear hA h;go_enter func80,ntmps80;go_wp2_with (go_at_call 52;((with_reducible refine c1.mono ?_);clear c1;rintro en w1 ⟨rfl,hE1,hu1⟩;have hT1:=H0.o.call hE1 hu1;have jQ:=hT1.f;have x4:=jQ.cell 4;have p4:=jQ.frozen 4;have HT1:=hid hT1;have xk:=hid hE1;have sK:=hid hu1;clear hT1 jQ hE1 hu1));exact fO rfl rfl ⟨rfl,⟨_,_,_,_,by rw[qV.o];exact HT1.o.put 4 (.int .i64 (A:Int)) _ rfl rfl rfl⟩,(dJ H0.o.eye gJ sK.o).trans (fM HT1.o _ _)⟩
set_option maxRecDepth 20000 in
set_option maxHeartbeats 1600000 in
theorem tm4(w:World)(h:TS 112 b T w0 s e ta tc la lc w):Calls prog 80 #[.pointer (some ⟨b,0,none⟩),.pointer (some ⟨T,0,none⟩),.int .i64 4] w (eH b T w0 s e 4 w):=by
 have H0:=hid h;obtain⟨A,e1,hA⟩:∃A q,au 1048576 e=(A,q):=⟨_,_,rfl⟩;have hT:run (lets 4) (s,e)=({ s with a:=(A:Int)},e1):=by
  show(({ s with a:=((au 1048576 e).1:Int)}:Sp),(au 1048576 e).2)=_
  rw[hA]
 have c1:=aS b e w h.eye 1048576 om_ om_;rw[hA] at c1;have qV:=hid hT;clear hT;unfold eH;unfold Saw at c1;clear hA h;go_enter func80,ntmps80;go_wp2_with (go_at_call 52;((with_reducible refine c1.mono ?_);clear c1;rintro en w1 ⟨rfl,hE1,hu1⟩;have hT1:=H0.o.call hE1 hu1;have jQ:=hT1.f;have x5:=jQ.cell 5;have p5:=jQ.frozen 5;have HT1:=hid hT1;have xk:=hid hE1;have sK:=hid hu1;clear hT1 jQ hE1 hu1));exact fO rfl rfl ⟨rfl,⟨_,_,_,_,by rw[qV.o];exact HT1.o.put 5 (.int .i64 (A:Int)) _ rfl rfl rfl⟩,(dJ H0.o.eye gJ sK.o).trans (fM HT1.o _ _)⟩
set_option maxRecDepth 20000 in
set_option maxHeartbeats 1600000 in
theorem tm5(w:World)(h:TS 112 b T w0 s e ta tc la lc w):Calls prog 80 #[.pointer (some ⟨b,0,none⟩),.pointer (some ⟨T,0,none⟩),.int .i64 5] w (eH b T w0 s e 5 w):=by
 have H0:=hid h;obtain⟨A,e1,hA⟩:∃A q,eInt e=(A,q):=⟨_,_,rfl⟩;obtain⟨B,e2,hB⟩:∃A q,eInt e1=(A,q):=⟨_,_,rfl⟩;have hT:run (lets 5) (s,e)=({ s with a:=A,b:=B},e2):=by
  show(({ s with a:=(eInt e).1,b:=(eInt (eInt e).2).1}:Sp),(eInt (eInt e).2).2)=_
  rw[hA];simp only;rw[hB]
 have c1:=iC b e w h.eye;have c2:=fun w' hE=>iC b e1 w' hE
 rw[hA] at c1;rw[hB] at c2;have qV:=hid hT;clear hT;unfold eH;unfold Saw at c1 c2;clear hA hB h;go_enter func80,ntmps80;go_wp2_with (first
  | (go_at_call 92;((with_reducible refine c1.mono ?_);clear c1;rintro en w1 ⟨rfl,hE1,hu1⟩;have HT1:=hid (H0.o.call hE1 hu1);have xk:=hid hE1;have sK:=hid hu1;clear hE1 hu1))
  | (go_at_call 92;((with_reducible refine(c2 _ xk.o).mono ?_);clear c2;rintro en w2 ⟨rfl,hE2,hu2⟩;have hT2:=HT1.o.call hE2 hu2;have yS:=hT2.f;have x5:=yS.cell 5;have p5:=yS.frozen 5;have x6:=yS.cell 6;have p6:=yS.frozen 6;have HT2:=hid hT2;have IG:=hid hu2;clear hT2 yS hE2 hu2)))
 have h3:=HT2.o.put 5 (.int .i64 A) { s with a:=A} rfl rfl rfl;exact fO rfl rfl ⟨rfl,⟨_,_,_,_,by rw[qV.o];exact h3.put 6 (.int .i64 B) _ rfl rfl rfl⟩,(dJ H0.o.eye gJ sK.o).trans ((dJ xk.o gJ IG.o).trans ((fM HT2.o _ _).trans (fM h3 _ _)))⟩
set_option maxRecDepth 20000 in
set_option maxHeartbeats 1600000 in
theorem tm8(w:World)(h:TS 112 b T w0 s e ta tc la lc w):Calls prog 80 #[.pointer (some ⟨b,0,none⟩),.pointer (some ⟨T,0,none⟩),.int .i64 8] w (eH b T w0 s e 8 w):=by
 have H0:=hid h;obtain⟨p,e1,hA⟩:∃A q,takeA e=(A,q):=⟨_,_,rfl⟩;have hT:run (lets 8) (s,e)=({ s with f:=p},e1):=by
  show(({ s with f:=(takeA e).1}:Sp),(takeA e).2)=_
  rw[hA]
 have c1:=iE b e w h.eye;rw[hA] at c1;have qV:=hid hT;clear hT;unfold eH;unfold Saw at c1;simp only[field.Fd.val] at c1;clear hA h;go_enter func80,ntmps80;go_wp2_with (go_at_call 93;((with_reducible refine c1.mono ?_);clear c1;rintro en w1 ⟨rfl,hE1,hu1⟩;have hT1:=H0.o.call hE1 hu1;have jQ:=hT1.f;have x7:=jQ.cell 7;have p7:=jQ.frozen 7;have x8:=jQ.cell 8;have p8:=jQ.frozen 8;have x9:=jQ.cell 9;have p9:=jQ.frozen 9;have x10:=jQ.cell 10;have p10:=jQ.frozen 10;have x11:=jQ.cell 11;have p11:=jQ.frozen 11;have HT1:=hid hT1;have xk:=hid hE1;have sK:=hid hu1;clear hT1 jQ hE1 hu1));exact fO rfl rfl ⟨rfl,⟨_,_,_,_,by rw[qV.o];exact(HT1.o.Ky p).1⟩,(dJ H0.o.eye gJ sK.o).trans (HT1.o.Ky p).2⟩
set_option maxRecDepth 20000 in
set_option maxHeartbeats 1600000 in
theorem QH(w:World)(h:TS 112 b T w0 s e ta tc la lc w):Calls prog 80 #[.pointer (some ⟨b,0,none⟩),.pointer (some ⟨T,0,none⟩),.int .i64 10] w (eH b T w0 s e 10 w):=by
 have H0:=hid h;obtain⟨n,e1,hB⟩:∃A q,eInt e=(A,q):=⟨_,_,rfl⟩;obtain⟨t,e2,hC⟩:∃A q,dw 32 e1=(A,q):=⟨_,_,rfl⟩;have hT:run (lets 10) (s,e)=({ s with v:=⟨n,strOf t⟩},e2):=by
  show(({ s with v:=⟨(eInt e).1,strOf (dw 32 (eInt e).2).1⟩}:Sp),(dw 32 (eInt e).2).2)=_
  rw[hB];simp only;rw[hC]
 have c1:=iC b e w h.eye;have c2:=fun w' hE=>nS b e1 w' hE 32 om_ om_
 rw[hB] at c1;rw[hC] at c2;have qV:=hid hT;clear hT;unfold eH;unfold Saw at c1 c2;clear hB hC h;go_enter func80,ntmps80;go_wp2_with (first
  | (go_at_call 92;((with_reducible refine c1.mono ?_);clear c1;rintro en w1 ⟨rfl,hE1,hu1⟩;have HT1:=hid (H0.o.call hE1 hu1);have xk:=hid hE1;have sK:=hid hu1;clear hE1 hu1))
  | (go_at_call 53;((with_reducible refine(c2 _ xk.o).mono ?_);clear c2;rintro en w2 ⟨rfl,hE2,hu2⟩;have hT2:=HT1.o.call hE2 hu2;have yS:=hT2.f;have x12:=yS.cell 12;have p12:=yS.frozen 12;have Ny:=yS.cell 13;have p13:=yS.frozen 13;have HT2:=hid hT2;have IG:=hid hu2;clear hT2 yS hE2 hu2)))
 exact fO rfl rfl ⟨rfl,⟨_,_,_,_,by rw[qV.o];exact(HT2.o.H9 ⟨n,strOf t⟩).1⟩,(dJ H0.o.eye gJ sK.o).trans ((dJ xk.o gJ IG.o).trans (HT2.o.H9 ⟨n,strOf t⟩).2)⟩
set_option maxRecDepth 20000 in
set_option maxHeartbeats 1600000 in
theorem tm9(w:World)(h:TS 112 b T w0 s e ta tc la lc w):Calls prog 80 #[.pointer (some ⟨b,0,none⟩),.pointer (some ⟨T,0,none⟩),.int .i64 9] w (eH b T w0 s e 9 w):=by
 have H0:=hid h;obtain⟨p,e1,hA⟩:∃A q,takeA e=(A,q):=⟨_,_,rfl⟩;obtain⟨n,e2,hB⟩:∃A q,eInt e1=(A,q):=⟨_,_,rfl⟩;obtain⟨t,e3,hC⟩:∃A q,dw 32 e2=(A,q):=⟨_,_,rfl⟩;have hT:run (lets 9) (s,e)=({ s with f:=p,v:=⟨n,strOf t⟩},e3):=by
  show(({ s with f:=(takeA e).1,v:=⟨(eInt (takeA e).2).1,strOf (dw 32 (eInt (takeA e).2).2).1⟩}:Sp),(dw 32 (eInt (takeA e).2).2).2)=_
  rw[hA];simp only;rw[hB];simp only;rw[hC]
 have c1:=iE b e w h.eye;have c2:=fun w' hE=>iC b e1 w' hE
 have c3:=fun w' hE=>nS b e2 w' hE 32 om_ om_
 rw[hA] at c1;rw[hB] at c2;rw[hC] at c3;have qV:=hid hT;clear hT;unfold eH;unfold Saw at c1 c2 c3;simp only[field.Fd.val] at c1;clear hA hB hC h;go_enter func80,ntmps80;go_wp2_with (first
  | (go_at_call 93;((with_reducible refine c1.mono ?_);clear c1;rintro en w1 ⟨rfl,hE1,hu1⟩;have hT1:=H0.o.call hE1 hu1;have jQ:=hT1.f;have x7:=jQ.cell 7;have p7:=jQ.frozen 7;have x8:=jQ.cell 8;have p8:=jQ.frozen 8;have x9:=jQ.cell 9;have p9:=jQ.frozen 9;have x10:=jQ.cell 10;have p10:=jQ.frozen 10;have x11:=jQ.cell 11;have p11:=jQ.frozen 11;have HT1:=hid hT1;have sK:=hid hu1;have O1:=hid (HT1.o.Ky p);clear hT1 jQ hE1 hu1))
  | (go_at_call 92;((with_reducible refine(c2 _ O1.o.1.eye).mono ?_);clear c2;rintro en w2 ⟨rfl,hE2,hu2⟩;have HT2:=hid (O1.o.1.call hE2 hu2);have HE2:=hid hE2;have IG:=hid hu2;clear hE2 hu2))
  | (go_at_call 53;((with_reducible refine(c3 _ HE2.o).mono ?_);clear c3;rintro en w3 ⟨rfl,rQ,hu3⟩;have KY:=HT2.o.call rQ hu3;have MS:=KY.f;have x12:=MS.cell 12;have p12:=MS.frozen 12;have Ny:=MS.cell 13;have p13:=MS.frozen 13;have HT3:=hid KY;have TY:=hid hu3;clear KY MS rQ hu3)))
 exact fO rfl rfl ⟨rfl,⟨_,_,_,_,by rw[qV.o];exact(HT3.o.H9 ⟨n,strOf t⟩).1⟩,(dJ H0.o.eye gJ sK.o).trans (O1.o.2.trans ((dJ O1.o.1.eye gJ IG.o).trans ((dJ HE2.o gJ TY.o).trans (HT3.o.H9 ⟨n,strOf t⟩).2)))⟩
set_option maxRecDepth 20000 in
set_option maxHeartbeats 1600000 in
theorem tm7(w:World)(hsl:s.t.length<=900)(h:TS 112 b T w0 s e ta tc la lc w):Calls prog 80 #[.pointer (some ⟨b,0,none⟩),.pointer (some ⟨T,0,none⟩),.int .i64 7] w (eH b T w0 s e 7 w):=by
 have H0:=hid h;obtain⟨N,e1,hN⟩:∃A q,au 64 e=(A,q):=⟨_,_,rfl⟩;have hNl:N<=64:=by have:=eP 64 e;rw[show((64:Nat):Int)=64 from rfl,hN] at this;exact this
 have DW:Hid (s.t.length<=900):=hid hsl;have hT:run (lets 7) (s,e)=({ s with t:=s.t++(aV N e1).1},(aV N e1).2):=by
  show(({ s with t:=s.t++(aV (au 64 e).1 (au 64 e).2).1}:Sp),(aV (au 64 e).1 (au 64 e).2).2)=_
  rw[hN]
 have c1:=aS b e w h.eye 64 om_ om_;rw[hN] at c1;have qV:=hid hT;clear hT;unfold eH;unfold Saw at c1;clear hN h hsl;go_enter func80,ntmps80;go_wp2_with (go_at_call 52;((with_reducible refine c1.mono ?_);clear c1;rintro en w1 ⟨rfl,hE1,hu1⟩;have HT1:=hid (H0.o.call hE1 hu1);have sK:=hid (dJ H0.o.eye gJ hu1);clear hE1 hu1));go_loopw [73] (fun m wr=>∃k:Nat,k<=N/\m=.int .i64 (k:Int)/\Hid (∃ta tc la lc,TS 112 b T w0 { s with t:=s.t++(aV k e1).1} (aV k e1).2 ta tc la lc wr)/\Hid (StayM w wr)) (fun m _=>N - (intOf m).toNat);case atStart=>exact⟨0,Nat.zero_le _,rfl,hid ⟨_,_,_,_,by simpa[aV] using HT1.o⟩,sK⟩
 case round=>
  obtain⟨k,hk,rfl,HS,HK⟩:=hrel;obtain⟨ta',BG,la',Di,hS⟩:=HS.o;by_cases bI:k<N
  ·have i1:(k:Int)<N:=by omega
   obtain⟨p,e9,hp⟩:∃p q,au 1000 (aV k e1).2=(p,q):=⟨_,_,rfl⟩;have HT1:Hid ((aV (k+1) e1).1=(aV k e1).1++[(p:Int)]):=hid (by rw[aV,hp]);have HT2:Hid ((aV (k+1) e1).2=e9):=hid (by rw[aV,hp]);have hxl:(aV k e1).1.length=k:=mY k e1;have cP:=fun w' hE=>aS b (aV k e1).2 w' hE 1000 om_ om_
   rw[hp] at cP;skip;unfold Saw at cP;clear hp HS;generalize (aV k e1).1=X at *;generalize (aV k e1).2=sk at *;have jZ:=hS.later (w':=wr.drew) (below_drewN (Below.refl _ _) 1);have HS:=hid jZ;have hlen:(s.t++X).length<=1000:=by have:=DW.o;rw[List.length_append,hxl];omega
   have HLEN:=hid hlen;clear hS jZ hlen hxl;obtain⟨Z,hZ⟩:∃Z,Hid (s.t++X=Z):=⟨_,hid rfl⟩;rw[hZ.o] at HS HLEN;go_wp2;refine plan.qM ?_;have hS:=HS.o;refine plan.free 0 _ (.pointer (some ⟨T,0,none⟩)) rfl kr_ kr_ kr_ kr_ (fun w'=>kr_) ?_;refine plan.free 1 _ (.pointer (some ⟨T,0,none⟩)) rfl kr_ kr_ kr_ kr_ (fun w'=>kr_) ?_;refine plan.free 2 _ (.pointer (some ⟨T,0,none⟩)) rfl kr_ kr_ kr_ kr_ (fun w'=>kr_) ?_;refine plan.free 3 _ (.pointer (some ⟨T,14,none⟩)) rfl kr_ kr_ kr_ kr_ (fun w'=>kr_) ?_;refine plan.free 5 _ (.pointer (some ⟨b,0,none⟩)) rfl kr_ kr_ kr_ kr_ (fun w'=>kr_) ?_;refine plan.toL 4 (fun x y z=> #[true,true,true,true,x,true,y,z,false,false,false,false]) rfl ?_;refine plan.late 4 6 7 79 81 82 de_ de_ _ _ _ (fun x y z=> #[true,true,true,true,x,true,y,z,false,false,false,false]) rfl rfl rfl rfl rfl rfl rfl rfl rfl (by intro y z;cases y <;> cases z <;> rfl) (by intro x;cases x <;> rfl) (by intro x;cases x <;> rfl)
    kr_ kr_ kr_ kr_ kr_ (.slice ta' Z.length BG) 52 #[.pointer (some ⟨b,0,none⟩),.int .i64 1000]
    (fun v w'=>v=(.int .i64 (p:Int))/\TS 112 b T w0 { s with t:=Z} e9 ta' BG la' Di w'/\StayM wr w') (fun v w'=>.slice (some ⟨w'.heap.size,0,none⟩) 1 1) (fun v w'=>w'.alloc (.cells #[.int .i64 (p:Int)] 3))
    (aU (ad:=⟨T,14,none⟩) rfl (hS.f.cell 14) isAgg50)
    (fun v w' hM=>aU (ad:=⟨T,14,none⟩) rfl (hM.2.1.f.cell 14) isAgg50)
    (fun v w' hM=>aU (ad:=⟨T,14,none⟩) rfl ((hM.2.1.f.alloc _).cell 14) isAgg50)
    kr_ kr_ ((cP _ hS.eye).mono ?_) (fun v w' hM=>by obtain⟨rfl,_⟩:=hM;kernel_rfl) (fun v w' hM=>by obtain⟨rfl,_⟩:=hM;kernel_rfl) ?_
   ·exact t47
   ·exact t7
  ·exact t32
set_option maxRecDepth 20000 in
set_option maxHeartbeats 1600000 in
theorem tm6(w:World)(hsl:s.t.length<=900)(h:TS 112 b T w0 s e ta tc la lc w):Calls prog 80 #[.pointer (some ⟨b,0,none⟩),.pointer (some ⟨T,0,none⟩),.int .i64 6] w (eH b T w0 s e 6 w):=by
 have H0:=hid h;obtain⟨A,e1,hA⟩:∃A q,au 1048576 e=(A,q):=⟨_,_,rfl⟩;obtain⟨N,e2,hN⟩:∃A q,au 64 e1=(A,q):=⟨_,_,rfl⟩;have hNl:N<=64:=by have:=eP 64 e1;rw[show((64:Nat):Int)=64 from rfl,hN] at this;exact this
 have DW:Hid (s.t.length<=900):=hid hsl;have hT:run (lets 6) (s,e)=({ s with a:=(A:Int),t:=s.t++(aV N e2).1},(aV N e2).2):=by
  show(({ s with a:=((au 1048576 e).1:Int),t:=s.t++(aV (au 64 (au 1048576 e).2).1 (au 64 (au 1048576 e).2).2).1}:Sp),(aV (au 64 (au 1048576 e).2).1 (au 64 (au 1048576 e).2).2).2)=_
  rw[hA];simp only;rw[hN]
 have c1:=aS b e w h.eye 1048576 om_ om_;have c2:=fun w' hE=>aS b e1 w' hE 64 om_ om_
 rw[hA] at c1;rw[hN] at c2;have qV:=hid hT;clear hT;unfold eH;unfold Saw at c1 c2;clear hA hN h hsl;go_enter func80,ntmps80;go_wp2_with (first
  | (go_at_call 52;((with_reducible refine c1.mono ?_);clear c1;rintro en w1 ⟨rfl,hE1,hu1⟩;have hT1:=H0.o.call hE1 hu1;have jQ:=hT1.f;have x5:=jQ.cell 5;have p5:=jQ.frozen 5;have sK:=hid ((dJ H0.o.eye gJ hu1).trans (fM hT1 5 (.int .i64 (A:Int))));have HT1:=hid (hT1.put 5 (.int .i64 (A:Int)) { s with a:=(A:Int)} rfl rfl rfl);clear hT1 jQ hE1 hu1))
  | (go_at_call 52;((with_reducible refine(c2 _ HT1.o.eye).mono ?_);clear c2;rintro en w2 ⟨rfl,hE2,hu2⟩;have HT2:=hid (HT1.o.call hE2 hu2);have IG:=hid (sK.o.trans (dJ HT1.o.eye gJ hu2));clear hE2 hu2)))
 go_loopw [73] (fun m wr=>∃k:Nat,k<=N/\m=.int .i64 (k:Int)/\Hid (∃ta tc la lc,TS 112 b T w0 { s with a:=(A:Int),t:=s.t++(aV k e2).1} (aV k e2).2 ta tc la lc wr)/\Hid (StayM w wr)) (fun m _=>N - (intOf m).toNat);case atStart=>exact⟨0,Nat.zero_le _,rfl,hid ⟨_,_,_,_,by simpa[aV] using HT2.o⟩,IG⟩
 case round=>
  obtain⟨k,hk,rfl,HS,HK⟩:=hrel;obtain⟨ta',BG,la',Di,hS⟩:=HS.o;by_cases bI:k<N
  ·have i1:(k:Int)<N:=by omega
   obtain⟨p,e9,hp⟩:∃p q,au 1000 (aV k e2).2=(p,q):=⟨_,_,rfl⟩;have HT1:Hid ((aV (k+1) e2).1=(aV k e2).1++[(p:Int)]):=hid (by rw[aV,hp]);have HT2:Hid ((aV (k+1) e2).2=e9):=hid (by rw[aV,hp]);have hxl:(aV k e2).1.length=k:=mY k e2;have cP:=fun w' hE=>aS b (aV k e2).2 w' hE 1000 om_ om_
   rw[hp] at cP;skip;unfold Saw at cP;clear hp HS;generalize (aV k e2).1=X at *;generalize (aV k e2).2=sk at *;have jZ:=hS.later (w':=wr.drew) (below_drewN (Below.refl _ _) 1);have HS:=hid jZ;have hlen:(s.t++X).length<=1000:=by have:=DW.o;rw[List.length_append,hxl];omega
   have HLEN:=hid hlen;clear hS jZ hlen hxl;obtain⟨Z,hZ⟩:∃Z,Hid (s.t++X=Z):=⟨_,hid rfl⟩;rw[hZ.o] at HS HLEN;go_wp2;refine plan.qM ?_;have hS:=HS.o;refine plan.free 0 _ (.pointer (some ⟨T,0,none⟩)) rfl kr_ kr_ kr_ kr_ (fun w'=>kr_) ?_;refine plan.free 1 _ (.pointer (some ⟨T,0,none⟩)) rfl kr_ kr_ kr_ kr_ (fun w'=>kr_) ?_;refine plan.free 2 _ (.pointer (some ⟨T,0,none⟩)) rfl kr_ kr_ kr_ kr_ (fun w'=>kr_) ?_;refine plan.free 3 _ (.pointer (some ⟨T,14,none⟩)) rfl kr_ kr_ kr_ kr_ (fun w'=>kr_) ?_;refine plan.free 5 _ (.pointer (some ⟨b,0,none⟩)) rfl kr_ kr_ kr_ kr_ (fun w'=>kr_) ?_;refine plan.toL 4 (fun x y z=> #[true,true,true,true,x,true,y,z,false,false,false,false]) rfl ?_;refine plan.late 4 6 7 79 81 82 de_ de_ _ _ _ (fun x y z=> #[true,true,true,true,x,true,y,z,false,false,false,false]) rfl rfl rfl rfl rfl rfl rfl rfl rfl (by intro y z;cases y <;> cases z <;> rfl) (by intro x;cases x <;> rfl) (by intro x;cases x <;> rfl)
    kr_ kr_ kr_ kr_ kr_ (.slice ta' Z.length BG) 52 #[.pointer (some ⟨b,0,none⟩),.int .i64 1000]
    (fun v w'=>v=(.int .i64 (p:Int))/\TS 112 b T w0 { s with a:=(A:Int),t:=Z} e9 ta' BG la' Di w'/\StayM wr w') (fun v w'=>.slice (some ⟨w'.heap.size,0,none⟩) 1 1) (fun v w'=>w'.alloc (.cells #[.int .i64 (p:Int)] 3))
    (aU (ad:=⟨T,14,none⟩) rfl (hS.f.cell 14) isAgg50)
    (fun v w' hM=>aU (ad:=⟨T,14,none⟩) rfl (hM.2.1.f.cell 14) isAgg50)
    (fun v w' hM=>aU (ad:=⟨T,14,none⟩) rfl ((hM.2.1.f.alloc _).cell 14) isAgg50)
    kr_ kr_ ((cP _ hS.eye).mono ?_) (fun v w' hM=>by obtain⟨rfl,_⟩:=hM;kernel_rfl) (fun v w' hM=>by obtain⟨rfl,_⟩:=hM;kernel_rfl) ?_
   ·exact t47
   ·exact t7
  ·exact t32
set_option maxRecDepth 20000 in
set_option maxHeartbeats 1600000 in
theorem QI(w:World)(hsl:s.l.length<=900)(h:TS 112 b T w0 s e ta tc la lc w):Calls prog 80 #[.pointer (some ⟨b,0,none⟩),.pointer (some ⟨T,0,none⟩),.int .i64 11] w (eH b T w0 s e 11 w):=by
 have H0:=hid h;obtain⟨N,e1,hN⟩:∃A q,au 8 e=(A,q):=⟨_,_,rfl⟩;have hNl:N<=8:=by have:=eP 8 e;rw[show((8:Nat):Int)=8 from rfl,hN] at this;exact this
 have DW:Hid (s.l.length<=900):=hid hsl;have hT:run (lets 11) (s,e)=({ s with l:=s.l++(bT N e1).1},(bT N e1).2):=by
  show(({ s with l:=s.l++(bT (au 8 e).1 (au 8 e).2).1}:Sp),(bT (au 8 e).1 (au 8 e).2).2)=_
  rw[hN]
 have c1:=aS b e w h.eye 8 om_ om_;rw[hN] at c1;have qV:=hid hT;clear hT;unfold eH;unfold Saw at c1;clear hN h hsl;go_enter func80,ntmps80;go_wp2_with (go_at_call 52;((with_reducible refine c1.mono ?_);clear c1;rintro en w1 ⟨rfl,hE1,hu1⟩;have HT1:=hid (H0.o.call hE1 hu1);have sK:=hid (dJ H0.o.eye gJ hu1);clear hE1 hu1));go_loopw [107] (fun m wr=>∃k:Nat,k<=N/\m=.int .i64 (k:Int)/\Hid (∃ta tc la lc,TS 112 b T w0 { s with l:=s.l++(bT k e1).1} (bT k e1).2 ta tc la lc wr)/\Hid (StayM w wr)) (fun m _=>N - (intOf m).toNat);case atStart=>exact⟨0,Nat.zero_le _,rfl,hid ⟨_,_,_,_,by simpa[bT] using HT1.o⟩,sK⟩
 case round=>
  obtain⟨k,hk,rfl,HS,HK⟩:=hrel;obtain⟨ta',BG,la',Di,hS⟩:=HS.o;by_cases bI:k<N
  ·have i1:(k:Int)<N:=by omega
   obtain⟨p,e9,hp⟩:∃p q,takeA (bT k e1).2=(p,q):=⟨_,_,rfl⟩;have HT1:Hid ((bT (k+1) e1).1=(bT k e1).1++[p]):=hid (by rw[bT,hp]);have HT2:Hid ((bT (k+1) e1).2=e9):=hid (by rw[bT,hp]);have hxl:(bT k e1).1.length=k:=pY k e1;have cP:=fun w' hE=>iE b (bT k e1).2 w' hE
   rw[hp] at cP;simp only[field.Fd.val] at cP;unfold Saw at cP;clear hp HS;generalize (bT k e1).1=X at *;generalize (bT k e1).2=sk at *;have jZ:=hS.later (w':=wr.drew) (below_drewN (Below.refl _ _) 1);have HS:=hid jZ;have hlen:(s.l++X).length<=1000:=by have:=DW.o;rw[List.length_append,hxl];omega
   have HLEN:=hid hlen;clear hS jZ hlen hxl;obtain⟨Z,hZ⟩:∃Z,Hid (s.l++X=Z):=⟨_,hid rfl⟩;rw[hZ.o] at HS HLEN;go_wp2;refine plan.qM ?_;have hS:=HS.o;refine plan.free 0 _ (.pointer (some ⟨T,0,none⟩)) rfl kr_ kr_ kr_ kr_ (fun w'=>kr_) ?_;refine plan.free 1 _ (.pointer (some ⟨T,0,none⟩)) rfl kr_ kr_ kr_ kr_ (fun w'=>kr_) ?_;refine plan.free 2 _ (.pointer (some ⟨T,0,none⟩)) rfl kr_ kr_ kr_ kr_ (fun w'=>kr_) ?_;refine plan.free 3 _ (.pointer (some ⟨T,15,none⟩)) rfl kr_ kr_ kr_ kr_ (fun w'=>kr_) ?_;refine plan.free 5 _ (.pointer (some ⟨b,0,none⟩)) rfl kr_ kr_ kr_ kr_ (fun w'=>kr_) ?_;refine plan.toL 4 (fun x y z=> #[true,true,true,true,x,true,y,z,false,false,false,false]) rfl ?_;refine plan.late 4 6 7 113 115 116 de_ de_ _ _ _ (fun x y z=> #[true,true,true,true,x,true,y,z,false,false,false,false]) rfl rfl rfl rfl rfl rfl rfl rfl rfl (by intro y z;cases y <;> cases z <;> rfl) (by intro x;cases x <;> rfl) (by intro x;cases x <;> rfl)
    kr_ kr_ kr_ kr_ kr_ (.slice la' Z.length Di) 93 #[.pointer (some ⟨b,0,none⟩)]
    (fun v w'=>v=(zF p)/\TS 112 b T w0 { s with l:=Z} e9 ta' BG la' Di w'/\StayM wr w') (fun v w'=>.slice (some ⟨w'.heap.size,0,none⟩) 1 1) (fun v w'=>w'.alloc (.cells (zF p) 47))
    (aU (ad:=⟨T,15,none⟩) rfl (hS.f.cell 15) isAgg38)
    (fun v w' hM=>aU (ad:=⟨T,15,none⟩) rfl (hM.2.1.f.cell 15) isAgg38)
    (fun v w' hM=>aU (ad:=⟨T,15,none⟩) rfl ((hM.2.1.f.alloc _).cell 15) isAgg38)
    kr_ kr_ ((cP _ hS.eye).mono ?_) (fun v w' hM=>by obtain⟨rfl,_⟩:=hM;kernel_rfl) (fun v w' hM=>by obtain⟨rfl,_⟩:=hM;kernel_rfl) ?_
   ·exact t47
   ·rintro v w3 ⟨rfl,ny,hK3⟩;have kK:=ny.later (aI w3 (.cells (zF p) 47));have hK4:StayM wr (w3.alloc (.cells (zF p) 47)):=hK3.trans (kR _ (aI w3 (.cells (zF p) 47)));refine plan.Fh 8 _ (fun q w5=>w5.ownsRow (T+1) 47 5 q (Z.length+1) (fdV (Z++[p]))/\(w3.alloc (.cells (zF p) 47)).grownBy w5 (Value.slice la' Z.length Di).ownBlock) rfl rfl
     (mg (g:=w3.heap.size) rfl kK.rl (Block.new w3 47 (fdC p)) HLEN.o kK.f.lt) ?_
    rintro q w5 ⟨uy,hg5⟩;have pR:=kK.held (B:=0) kK.rl hg5;obtain⟨qa,qc,rfl,_⟩:=aP uy;have nU:=kK.Ns hg5 uy;have hK6:StayM wr (w5.setCell ⟨T,15,none⟩ (.slice qa (Z.length+1) qc)):=hK4.trans ((eU _ kK.rl hg5 de_).trans (jE _ pR de_ 15 _));refine plan.uK (w1:=w5) 9 _ (.pointer (some ⟨T,0,none⟩)) rfl rfl ?_;refine plan.uK (w1:=w5) 10 _ (.pointer (some ⟨T,15,none⟩)) rfl rfl ?_;refine plan.lastT (w1:=w5.setCell ⟨T,15,none⟩ (.slice qa (Z.length+1) qc)) 11 _ rfl rfl rfl (nR (ad:=⟨T,15,none⟩) rfl (pR.cell 15) (pR.frozen 15)) ?_
    exact t109
  ·exact t32
theorem sQ(m:Nat)(hm:m<12)(w:World)(ht:s.t.length<=900)(hl:s.l.length<=900)(h:TS 112 b T w0 s e ta tc la lc w):Calls prog 80 #[.pointer (some ⟨b,0,none⟩),.pointer (some ⟨T,0,none⟩),.int .i64 (m:Int)] w (eH b T w0 s e m w):=by
 match m,hm with
 | 0,_=>exact tm0 w h
 | 1,_=>exact tm1 w h
 | 2,_=>exact tm2 w h
 | 3,_=>exact tm3 w h
 | 4,_=>exact tm4 w h
 | 5,_=>exact tm5 w h
 | 6,_=>exact tm6 w ht h
 | 7,_=>exact tm7 w ht h
 | 8,_=>exact tm8 w h
 | 9,_=>exact tm9 w h
 | 10,_=>exact QH w h
 | 11,_=>exact QI w hl h
end step
namespace plan
open Go Go.RowKit
theorem EW{P:Program}{l:List Oper}{Q:Exit->Act->World->Prop}{a:Act}{w:World}(i:Nat)(o:Oper)(Pr:Value->World->Prop)(hi:l[i]?=some o)
  (hv:∃q w',(execOp a.eval o).run P w=.ok (.value q) w'/\Pr q w') (h:∀q w',Pr q w'->Line P l Q (i+1) (a.put o.dst q) w') (hw:Region.wanted o (yielded l.toArray a.tmps)=true:=by kernel_rfl):Line P l Q i a w:=by
 obtain⟨q,w',h1,h2⟩:=hv;exact kL i o q hi (hw:=hw) h1 (h q w' h2)
end plan
theorem t141{P:Prop}(h:P:=by
 refine plan.af 78 _ (.bool true) rfl ?_;refine plan.aK de_ ?_;walk_nrm;go_wp2;go_ret;exact⟨rfl,HB0.o⟩):P:=h
theorem t140{P:Prop}(h:P:=by
 refine plan.af 32 _ (.bool true) rfl ?_;refine plan.af 33 _ (.bool true) rfl ?_;refine plan.ah 34 _ rfl ?_;refine plan.ah 35 _ rfl ?_;refine plan.ah 36 _ rfl ?_;refine plan.ah 37 _ rfl ?_;refine plan.ah 38 _ rfl ?_
 exact t1):P:=h
theorem t139{P:Prop}(h:P:=by
 refine plan.af 46 _ (.bool true) rfl ?_;refine plan.af 47 _ (.bool true) rfl ?_;refine plan.ah 48 _ rfl ?_;refine plan.ah 49 _ rfl ?_;refine plan.ah 50 _ rfl ?_;refine plan.ah 51 _ rfl ?_;refine plan.ah 52 _ rfl ?_
 exact t133):P:=h
theorem t136{P:Prop}(h:P:=by
 refine plan.af 11 _ (.bool true) rfl ?_;refine plan.af 12 _ (.bool true) rfl ?_;refine plan.ah 13 _ rfl ?_;refine plan.ah 14 _ rfl ?_;refine plan.ah 15 _ rfl ?_;refine plan.ah 16 _ rfl ?_;refine plan.ah 17 _ rfl ?_
 exact t105):P:=h
theorem t135{P:Prop}(h:P:=by
 refine plan.af 69 _ (.bool true) rfl ?_;refine plan.af 70 _ (.bool true) rfl ?_;refine plan.ah 71 _ rfl ?_;refine plan.ah 72 _ rfl ?_;refine plan.ah 73 _ rfl ?_;refine plan.ah 74 _ rfl ?_;refine plan.ah 75 _ rfl ?_;refine plan.ah 76 _ rfl ?_;refine plan.ah 77 _ rfl ?_
 exact t141):P:=h
theorem t134{P:Prop}(h:P:=by
 refine plan.af 25 _ (.bool true) rfl ?_;refine plan.af 26 _ (.bool true) rfl ?_;refine plan.ah 27 _ rfl ?_;refine plan.ah 28 _ rfl ?_;refine plan.ah 29 _ rfl ?_;refine plan.ah 30 _ rfl ?_;refine plan.ah 31 _ rfl ?_
 exact t140):P:=h
theorem t133{P:Prop}(h:P:=by
 refine plan.af 53 _ (.bool true) rfl ?_;refine plan.af 54 _ (.bool true) rfl ?_;refine plan.ah 55 _ rfl ?_;refine plan.ah 56 _ rfl ?_;refine plan.ah 57 _ rfl ?_;refine plan.ah 58 _ rfl ?_;refine plan.ah 59 _ rfl ?_
 exact t104):P:=h
theorem t105{P:Prop}(h:P:=by
 refine plan.af 18 _ (.bool true) rfl ?_;refine plan.af 19 _ (.bool true) rfl ?_;refine plan.ah 20 _ rfl ?_;refine plan.ah 21 _ rfl ?_;refine plan.ah 22 _ rfl ?_;refine plan.ah 23 _ rfl ?_;refine plan.ah 24 _ rfl ?_
 exact t134):P:=h
theorem t104{P:Prop}(h:P:=by
 refine plan.af 60 _ (.bool true) rfl ?_;refine plan.af 61 _ (.bool true) rfl ?_;refine plan.ah 62 _ rfl ?_;refine plan.ah 63 _ rfl ?_;refine plan.ah 64 _ rfl ?_;refine plan.ah 65 _ rfl ?_;refine plan.ah 66 _ rfl ?_;refine plan.ah 67 _ rfl ?_;refine plan.ah 68 _ rfl ?_
 exact t135):P:=h
theorem t56{P:Prop}(h:P:=by
 clear fQ;go_wp2;go_quiet (fail);go_wp2;go_ret;exact⟨rfl,below_drewN (HB0.o.trans (HB.o.mono HB0.o.size)) _⟩):P:=h
theorem t1{P:Prop}(h:P:=by
 refine plan.af 39 _ (.bool true) rfl ?_;refine plan.af 40 _ (.bool true) rfl ?_;refine plan.ah 41 _ rfl ?_;refine plan.ah 42 _ rfl ?_;refine plan.ah 43 _ rfl ?_;refine plan.ah 44 _ rfl ?_;refine plan.ah 45 _ rfl ?_
 exact t139):P:=h
namespace step
open Go.RowKit
open field (Gives aI ay)
open ak (aX aH eu pV eX aY aj aC ai ax dm)
set_option maxRecDepth 20000 in
set_option maxHeartbeats 6400000 in
theorem iG(s:Sp)(ta:Option Addr)(tc:Nat)(la:Option Addr)(lc:Nat)(u:Sp)(ua:Option Addr)(uc:Nat)(va:Option Addr)(vc:Nat)(w:World)(h:Lists w s ta la)(h':Lists w u ua va):
  Calls prog 45 #[zP s ta tc la lc,zP u ua uc va vc] w (Gives (.bool (decide (s=u))) w):=by
 obtain⟨hA,hU,hw⟩:=WP2.all s ta tc la lc u ua uc va vc w;have qA:=h.below hw;have qB:=h'.below hw;unfold WP2 at hA hU hw qA qB;obtain⟨W0,xQ⟩:∃x,(w.alloc (.cells (zP s ta tc la lc) 52)).alloc (.cells (zP u ua uc va vc) 52)=x:=⟨_,rfl⟩;have HW0:=hid xQ;rw[xQ] at hA hU hw qA qB;have HZ:Hid (∀w',Below W0.heap.size W0 w'->Block w' w.heap.size 52 (zP s ta tc la lc)/\Block w' (w.heap.size+1) 52 (zP u ua uc va vc)):=hid (fun w' hb=>⟨hA.later hb,hU.later hb⟩);have bZ:=hid hA;have cu:=hid hU;have yE:=hid qA;have HL2:=hid qB;have HB0:=hid hw;have b1:(s.t.length:Int)<=9223372036854775807:=by have:=qA.mt;unfold maxLen at this;omega
 have b2:(u.t.length:Int)<=9223372036854775807:=by have:=qB.mt;unfold maxLen at this;omega
 have b3:(s.l.length:Int)<=9223372036854775807:=by have:=qA.ml;unfold maxLen at this;omega
 have b4:(u.l.length:Int)<=9223372036854775807:=by have:=qB.ml;unfold maxLen at this;omega
 obtain⟨r,hr⟩:∃r:Bool,Hid (decide (s=u)=r):=⟨_,rfl⟩;rw[hr.o];unfold Gives;clear h h' hA hU hw qA qB xQ;by_cases hx:s.op=u.op;rotate_left
 ·have d0:(s.op == u.op)=false:=by rw[beq_eq_false_iff_ne];exact hx
  have e0:(s.op != u.op)=true:=by simp[hx]
  obtain rfl:false=r:=by rw[<-hr.o];exact(decide_eq_false (fun e=>hx (jf.1 e).1.1)).symm
  clear hx;go_enter func45,ntmps45;go_upto_region 1 with fail
  rw[HW0.o];refine plan.line ?_;refine plan.af 0 _ (.pointer (some ⟨w.heap.size,0,none⟩)) rfl ?_;refine plan.af 1 _ (.int .i64 s.op) rfl (hv:=(ai (ad:=⟨w.heap.size,0,none⟩) rfl kr_ (bZ.o.cell 0) isAgg3)) ?_;refine plan.af 2 _ (.pointer (some ⟨w.heap.size+1,0,none⟩)) rfl ?_;refine plan.af 3 _ (.int .i64 u.op) rfl (hv:=(ai (ad:=⟨w.heap.size+1,0,none⟩) rfl kr_ (cu.o.cell 0) isAgg3)) ?_;refine plan.af 4 _ (.bool true) rfl (hv:=(ax (n:=s.op) (m:=u.op) rfl (hid e0))) ?_;refine plan.af 5 _ (.bool true) rfl ?_;refine plan.ah 6 _ rfl ?_;refine plan.ah 7 _ rfl ?_;refine plan.ah 8 _ rfl ?_;refine plan.ah 9 _ rfl ?_;refine plan.ah 10 _ rfl ?_
  exact t136
 have d0:(s.op == u.op)=true:=by rw[beq_iff_eq];exact hx
 have e0:(s.op != u.op)=false:=by simp[hx]
 have H0:=hid hx;clear hx;by_cases hx:s.fm=u.fm;rotate_left
 ·have d1:(s.fm == u.fm)=false:=by rw[beq_eq_false_iff_ne];exact hx
  have e1:(s.fm != u.fm)=true:=by simp[hx]
  obtain rfl:false=r:=by rw[<-hr.o];exact(decide_eq_false (fun e=>hx (jf.1 e).1.2.1)).symm
  clear hx;go_enter func45,ntmps45;go_upto_region 1 with fail
  rw[HW0.o];refine plan.line ?_;refine plan.af 0 _ (.pointer (some ⟨w.heap.size,0,none⟩)) rfl ?_;refine plan.af 1 _ (.int .i64 s.op) rfl (hv:=(ai (ad:=⟨w.heap.size,0,none⟩) rfl kr_ (bZ.o.cell 0) isAgg3)) ?_;refine plan.af 2 _ (.pointer (some ⟨w.heap.size+1,0,none⟩)) rfl ?_;refine plan.af 3 _ (.int .i64 u.op) rfl (hv:=(ai (ad:=⟨w.heap.size+1,0,none⟩) rfl kr_ (cu.o.cell 0) isAgg3)) ?_;refine plan.af 4 _ (.bool false) rfl (hv:=(ax (n:=s.op) (m:=u.op) rfl (hid e0))) ?_;refine plan.af 5 _ (.bool false) rfl ?_;refine plan.af 6 _ (.pointer (some ⟨w.heap.size,1,none⟩)) rfl ?_;refine plan.af 7 _ (.int .i64 s.fm) rfl (hv:=(ai (ad:=⟨w.heap.size,1,none⟩) rfl kr_ (bZ.o.cell 1) isAgg3)) ?_;refine plan.af 8 _ (.pointer (some ⟨w.heap.size+1,1,none⟩)) rfl ?_;refine plan.af 9 _ (.int .i64 u.fm) rfl (hv:=(ai (ad:=⟨w.heap.size+1,1,none⟩) rfl kr_ (cu.o.cell 1) isAgg3)) ?_;refine plan.af 10 _ (.bool true) rfl (hv:=(ax (n:=s.fm) (m:=u.fm) rfl (hid e1))) ?_
  exact t136
 have d1:(s.fm == u.fm)=true:=by rw[beq_iff_eq];exact hx
 have e1:(s.fm != u.fm)=false:=by simp[hx]
 have H1:=hid hx;clear hx;by_cases hx:s.fd=u.fd;rotate_left
 ·have d2:(s.fd == u.fd)=false:=by rw[beq_eq_false_iff_ne];exact hx
  have e2:(s.fd != u.fd)=true:=by simp[hx]
  obtain rfl:false=r:=by rw[<-hr.o];exact(decide_eq_false (fun e=>hx (jf.1 e).1.2.2.1)).symm
  clear hx;go_enter func45,ntmps45;go_upto_region 1 with fail
  rw[HW0.o];refine plan.line ?_;refine plan.af 0 _ (.pointer (some ⟨w.heap.size,0,none⟩)) rfl ?_;refine plan.af 1 _ (.int .i64 s.op) rfl (hv:=(ai (ad:=⟨w.heap.size,0,none⟩) rfl kr_ (bZ.o.cell 0) isAgg3)) ?_;refine plan.af 2 _ (.pointer (some ⟨w.heap.size+1,0,none⟩)) rfl ?_;refine plan.af 3 _ (.int .i64 u.op) rfl (hv:=(ai (ad:=⟨w.heap.size+1,0,none⟩) rfl kr_ (cu.o.cell 0) isAgg3)) ?_;refine plan.af 4 _ (.bool false) rfl (hv:=(ax (n:=s.op) (m:=u.op) rfl (hid e0))) ?_;refine plan.af 5 _ (.bool false) rfl ?_;refine plan.af 6 _ (.pointer (some ⟨w.heap.size,1,none⟩)) rfl ?_;refine plan.af 7 _ (.int .i64 s.fm) rfl (hv:=(ai (ad:=⟨w.heap.size,1,none⟩) rfl kr_ (bZ.o.cell 1) isAgg3)) ?_;refine plan.af 8 _ (.pointer (some ⟨w.heap.size+1,1,none⟩)) rfl ?_;refine plan.af 9 _ (.int .i64 u.fm) rfl (hv:=(ai (ad:=⟨w.heap.size+1,1,none⟩) rfl kr_ (cu.o.cell 1) isAgg3)) ?_;refine plan.af 10 _ (.bool false) rfl (hv:=(ax (n:=s.fm) (m:=u.fm) rfl (hid e1))) ?_;refine plan.af 11 _ (.bool false) rfl ?_;refine plan.af 12 _ (.bool false) rfl ?_;refine plan.af 13 _ (.pointer (some ⟨w.heap.size,2,none⟩)) rfl ?_;refine plan.af 14 _ (.int .i64 s.fd) rfl (hv:=(ai (ad:=⟨w.heap.size,2,none⟩) rfl kr_ (bZ.o.cell 2) isAgg3)) ?_;refine plan.af 15 _ (.pointer (some ⟨w.heap.size+1,2,none⟩)) rfl ?_;refine plan.af 16 _ (.int .i64 u.fd) rfl (hv:=(ai (ad:=⟨w.heap.size+1,2,none⟩) rfl kr_ (cu.o.cell 2) isAgg3)) ?_;refine plan.af 17 _ (.bool true) rfl (hv:=(ax (n:=s.fd) (m:=u.fd) rfl (hid e2))) ?_
  exact t105
 have d2:(s.fd == u.fd)=true:=by rw[beq_iff_eq];exact hx
 have e2:(s.fd != u.fd)=false:=by simp[hx]
 have H2:=hid hx;clear hx;by_cases hx:s.pl=u.pl;rotate_left
 ·have d3:(s.pl == u.pl)=false:=by rw[beq_eq_false_iff_ne];exact hx
  have e3:(s.pl != u.pl)=true:=by simp[hx]
  obtain rfl:false=r:=by rw[<-hr.o];exact(decide_eq_false (fun e=>hx (jf.1 e).1.2.2.2.1)).symm
  clear hx;go_enter func45,ntmps45;go_upto_region 1 with fail
  rw[HW0.o];refine plan.line ?_;refine plan.af 0 _ (.pointer (some ⟨w.heap.size,0,none⟩)) rfl ?_;refine plan.af 1 _ (.int .i64 s.op) rfl (hv:=(ai (ad:=⟨w.heap.size,0,none⟩) rfl kr_ (bZ.o.cell 0) isAgg3)) ?_;refine plan.af 2 _ (.pointer (some ⟨w.heap.size+1,0,none⟩)) rfl ?_;refine plan.af 3 _ (.int .i64 u.op) rfl (hv:=(ai (ad:=⟨w.heap.size+1,0,none⟩) rfl kr_ (cu.o.cell 0) isAgg3)) ?_;refine plan.af 4 _ (.bool false) rfl (hv:=(ax (n:=s.op) (m:=u.op) rfl (hid e0))) ?_;refine plan.af 5 _ (.bool false) rfl ?_;refine plan.af 6 _ (.pointer (some ⟨w.heap.size,1,none⟩)) rfl ?_;refine plan.af 7 _ (.int .i64 s.fm) rfl (hv:=(ai (ad:=⟨w.heap.size,1,none⟩) rfl kr_ (bZ.o.cell 1) isAgg3)) ?_;refine plan.af 8 _ (.pointer (some ⟨w.heap.size+1,1,none⟩)) rfl ?_;refine plan.af 9 _ (.int .i64 u.fm) rfl (hv:=(ai (ad:=⟨w.heap.size+1,1,none⟩) rfl kr_ (cu.o.cell 1) isAgg3)) ?_;refine plan.af 10 _ (.bool false) rfl (hv:=(ax (n:=s.fm) (m:=u.fm) rfl (hid e1))) ?_;refine plan.af 11 _ (.bool false) rfl ?_;refine plan.af 12 _ (.bool false) rfl ?_;refine plan.af 13 _ (.pointer (some ⟨w.heap.size,2,none⟩)) rfl ?_;refine plan.af 14 _ (.int .i64 s.fd) rfl (hv:=(ai (ad:=⟨w.heap.size,2,none⟩) rfl kr_ (bZ.o.cell 2) isAgg3)) ?_;refine plan.af 15 _ (.pointer (some ⟨w.heap.size+1,2,none⟩)) rfl ?_;refine plan.af 16 _ (.int .i64 u.fd) rfl (hv:=(ai (ad:=⟨w.heap.size+1,2,none⟩) rfl kr_ (cu.o.cell 2) isAgg3)) ?_;refine plan.af 17 _ (.bool false) rfl (hv:=(ax (n:=s.fd) (m:=u.fd) rfl (hid e2))) ?_;refine plan.af 18 _ (.bool false) rfl ?_;refine plan.af 19 _ (.bool false) rfl ?_;refine plan.af 20 _ (.pointer (some ⟨w.heap.size,3,none⟩)) rfl ?_;refine plan.af 21 _ (.int .i64 s.pl) rfl (hv:=(ai (ad:=⟨w.heap.size,3,none⟩) rfl kr_ (bZ.o.cell 3) isAgg3)) ?_;refine plan.af 22 _ (.pointer (some ⟨w.heap.size+1,3,none⟩)) rfl ?_;refine plan.af 23 _ (.int .i64 u.pl) rfl (hv:=(ai (ad:=⟨w.heap.size+1,3,none⟩) rfl kr_ (cu.o.cell 3) isAgg3)) ?_;refine plan.af 24 _ (.bool true) rfl (hv:=(ax (n:=s.pl) (m:=u.pl) rfl (hid e3))) ?_
  exact t134
 have d3:(s.pl == u.pl)=true:=by rw[beq_iff_eq];exact hx
 have e3:(s.pl != u.pl)=false:=by simp[hx]
 have H3:=hid hx;clear hx;by_cases hx:s.tt=u.tt;rotate_left
 ·have d4:(s.tt == u.tt)=false:=by rw[beq_eq_false_iff_ne];exact hx
  have e4:(s.tt != u.tt)=true:=by simp[hx]
  obtain rfl:false=r:=by rw[<-hr.o];exact(decide_eq_false (fun e=>hx (jf.1 e).1.2.2.2.2.1)).symm
  clear hx;go_enter func45,ntmps45;go_upto_region 1 with fail
  rw[HW0.o];refine plan.line ?_;refine plan.af 0 _ (.pointer (some ⟨w.heap.size,0,none⟩)) rfl ?_;refine plan.af 1 _ (.int .i64 s.op) rfl (hv:=(ai (ad:=⟨w.heap.size,0,none⟩) rfl kr_ (bZ.o.cell 0) isAgg3)) ?_;refine plan.af 2 _ (.pointer (some ⟨w.heap.size+1,0,none⟩)) rfl ?_;refine plan.af 3 _ (.int .i64 u.op) rfl (hv:=(ai (ad:=⟨w.heap.size+1,0,none⟩) rfl kr_ (cu.o.cell 0) isAgg3)) ?_;refine plan.af 4 _ (.bool false) rfl (hv:=(ax (n:=s.op) (m:=u.op) rfl (hid e0))) ?_;refine plan.af 5 _ (.bool false) rfl ?_;refine plan.af 6 _ (.pointer (some ⟨w.heap.size,1,none⟩)) rfl ?_;refine plan.af 7 _ (.int .i64 s.fm) rfl (hv:=(ai (ad:=⟨w.heap.size,1,none⟩) rfl kr_ (bZ.o.cell 1) isAgg3)) ?_;refine plan.af 8 _ (.pointer (some ⟨w.heap.size+1,1,none⟩)) rfl ?_;refine plan.af 9 _ (.int .i64 u.fm) rfl (hv:=(ai (ad:=⟨w.heap.size+1,1,none⟩) rfl kr_ (cu.o.cell 1) isAgg3)) ?_;refine plan.af 10 _ (.bool false) rfl (hv:=(ax (n:=s.fm) (m:=u.fm) rfl (hid e1))) ?_;refine plan.af 11 _ (.bool false) rfl ?_;refine plan.af 12 _ (.bool false) rfl ?_;refine plan.af 13 _ (.pointer (some ⟨w.heap.size,2,none⟩)) rfl ?_;refine plan.af 14 _ (.int .i64 s.fd) rfl (hv:=(ai (ad:=⟨w.heap.size,2,none⟩) rfl kr_ (bZ.o.cell 2) isAgg3)) ?_;refine plan.af 15 _ (.pointer (some ⟨w.heap.size+1,2,none⟩)) rfl ?_;refine plan.af 16 _ (.int .i64 u.fd) rfl (hv:=(ai (ad:=⟨w.heap.size+1,2,none⟩) rfl kr_ (cu.o.cell 2) isAgg3)) ?_;refine plan.af 17 _ (.bool false) rfl (hv:=(ax (n:=s.fd) (m:=u.fd) rfl (hid e2))) ?_;refine plan.af 18 _ (.bool false) rfl ?_;refine plan.af 19 _ (.bool false) rfl ?_;refine plan.af 20 _ (.pointer (some ⟨w.heap.size,3,none⟩)) rfl ?_;refine plan.af 21 _ (.int .i64 s.pl) rfl (hv:=(ai (ad:=⟨w.heap.size,3,none⟩) rfl kr_ (bZ.o.cell 3) isAgg3)) ?_;refine plan.af 22 _ (.pointer (some ⟨w.heap.size+1,3,none⟩)) rfl ?_;refine plan.af 23 _ (.int .i64 u.pl) rfl (hv:=(ai (ad:=⟨w.heap.size+1,3,none⟩) rfl kr_ (cu.o.cell 3) isAgg3)) ?_;refine plan.af 24 _ (.bool false) rfl (hv:=(ax (n:=s.pl) (m:=u.pl) rfl (hid e3))) ?_;refine plan.af 25 _ (.bool false) rfl ?_;refine plan.af 26 _ (.bool false) rfl ?_;refine plan.af 27 _ (.pointer (some ⟨w.heap.size,4,none⟩)) rfl ?_;refine plan.af 28 _ (.int .i64 s.tt) rfl (hv:=(ai (ad:=⟨w.heap.size,4,none⟩) rfl kr_ (bZ.o.cell 4) isAgg3)) ?_;refine plan.af 29 _ (.pointer (some ⟨w.heap.size+1,4,none⟩)) rfl ?_;refine plan.af 30 _ (.int .i64 u.tt) rfl (hv:=(ai (ad:=⟨w.heap.size+1,4,none⟩) rfl kr_ (cu.o.cell 4) isAgg3)) ?_;refine plan.af 31 _ (.bool true) rfl (hv:=(ax (n:=s.tt) (m:=u.tt) rfl (hid e4))) ?_
  exact t140
 have d4:(s.tt == u.tt)=true:=by rw[beq_iff_eq];exact hx
 have e4:(s.tt != u.tt)=false:=by simp[hx]
 have H4:=hid hx;clear hx;by_cases hx:s.a=u.a;rotate_left
 ·have d5:(s.a == u.a)=false:=by rw[beq_eq_false_iff_ne];exact hx
  have e5:(s.a != u.a)=true:=by simp[hx]
  obtain rfl:false=r:=by rw[<-hr.o];exact(decide_eq_false (fun e=>hx (jf.1 e).1.2.2.2.2.2.1)).symm
  clear hx;go_enter func45,ntmps45;go_upto_region 1 with fail
  rw[HW0.o];refine plan.line ?_;refine plan.af 0 _ (.pointer (some ⟨w.heap.size,0,none⟩)) rfl ?_;refine plan.af 1 _ (.int .i64 s.op) rfl (hv:=(ai (ad:=⟨w.heap.size,0,none⟩) rfl kr_ (bZ.o.cell 0) isAgg3)) ?_;refine plan.af 2 _ (.pointer (some ⟨w.heap.size+1,0,none⟩)) rfl ?_;refine plan.af 3 _ (.int .i64 u.op) rfl (hv:=(ai (ad:=⟨w.heap.size+1,0,none⟩) rfl kr_ (cu.o.cell 0) isAgg3)) ?_;refine plan.af 4 _ (.bool false) rfl (hv:=(ax (n:=s.op) (m:=u.op) rfl (hid e0))) ?_;refine plan.af 5 _ (.bool false) rfl ?_;refine plan.af 6 _ (.pointer (some ⟨w.heap.size,1,none⟩)) rfl ?_;refine plan.af 7 _ (.int .i64 s.fm) rfl (hv:=(ai (ad:=⟨w.heap.size,1,none⟩) rfl kr_ (bZ.o.cell 1) isAgg3)) ?_;refine plan.af 8 _ (.pointer (some ⟨w.heap.size+1,1,none⟩)) rfl ?_;refine plan.af 9 _ (.int .i64 u.fm) rfl (hv:=(ai (ad:=⟨w.heap.size+1,1,none⟩) rfl kr_ (cu.o.cell 1) isAgg3)) ?_;refine plan.af 10 _ (.bool false) rfl (hv:=(ax (n:=s.fm) (m:=u.fm) rfl (hid e1))) ?_;refine plan.af 11 _ (.bool false) rfl ?_;refine plan.af 12 _ (.bool false) rfl ?_;refine plan.af 13 _ (.pointer (some ⟨w.heap.size,2,none⟩)) rfl ?_;refine plan.af 14 _ (.int .i64 s.fd) rfl (hv:=(ai (ad:=⟨w.heap.size,2,none⟩) rfl kr_ (bZ.o.cell 2) isAgg3)) ?_;refine plan.af 15 _ (.pointer (some ⟨w.heap.size+1,2,none⟩)) rfl ?_;refine plan.af 16 _ (.int .i64 u.fd) rfl (hv:=(ai (ad:=⟨w.heap.size+1,2,none⟩) rfl kr_ (cu.o.cell 2) isAgg3)) ?_;refine plan.af 17 _ (.bool false) rfl (hv:=(ax (n:=s.fd) (m:=u.fd) rfl (hid e2))) ?_;refine plan.af 18 _ (.bool false) rfl ?_;refine plan.af 19 _ (.bool false) rfl ?_;refine plan.af 20 _ (.pointer (some ⟨w.heap.size,3,none⟩)) rfl ?_;refine plan.af 21 _ (.int .i64 s.pl) rfl (hv:=(ai (ad:=⟨w.heap.size,3,none⟩) rfl kr_ (bZ.o.cell 3) isAgg3)) ?_;refine plan.af 22 _ (.pointer (some ⟨w.heap.size+1,3,none⟩)) rfl ?_;refine plan.af 23 _ (.int .i64 u.pl) rfl (hv:=(ai (ad:=⟨w.heap.size+1,3,none⟩) rfl kr_ (cu.o.cell 3) isAgg3)) ?_;refine plan.af 24 _ (.bool false) rfl (hv:=(ax (n:=s.pl) (m:=u.pl) rfl (hid e3))) ?_;refine plan.af 25 _ (.bool false) rfl ?_;refine plan.af 26 _ (.bool false) rfl ?_;refine plan.af 27 _ (.pointer (some ⟨w.heap.size,4,none⟩)) rfl ?_;refine plan.af 28 _ (.int .i64 s.tt) rfl (hv:=(ai (ad:=⟨w.heap.size,4,none⟩) rfl kr_ (bZ.o.cell 4) isAgg3)) ?_;refine plan.af 29 _ (.pointer (some ⟨w.heap.size+1,4,none⟩)) rfl ?_;refine plan.af 30 _ (.int .i64 u.tt) rfl (hv:=(ai (ad:=⟨w.heap.size+1,4,none⟩) rfl kr_ (cu.o.cell 4) isAgg3)) ?_;refine plan.af 31 _ (.bool false) rfl (hv:=(ax (n:=s.tt) (m:=u.tt) rfl (hid e4))) ?_;refine plan.af 32 _ (.bool false) rfl ?_;refine plan.af 33 _ (.bool false) rfl ?_;refine plan.af 34 _ (.pointer (some ⟨w.heap.size,5,none⟩)) rfl ?_;refine plan.af 35 _ (.int .i64 s.a) rfl (hv:=(ai (ad:=⟨w.heap.size,5,none⟩) rfl kr_ (bZ.o.cell 5) isAgg3)) ?_;refine plan.af 36 _ (.pointer (some ⟨w.heap.size+1,5,none⟩)) rfl ?_;refine plan.af 37 _ (.int .i64 u.a) rfl (hv:=(ai (ad:=⟨w.heap.size+1,5,none⟩) rfl kr_ (cu.o.cell 5) isAgg3)) ?_;refine plan.af 38 _ (.bool true) rfl (hv:=(ax (n:=s.a) (m:=u.a) rfl (hid e5))) ?_
  exact t1
 have d5:(s.a == u.a)=true:=by rw[beq_iff_eq];exact hx
 have e5:(s.a != u.a)=false:=by simp[hx]
 have H5:=hid hx;clear hx;by_cases hx:s.b=u.b;rotate_left
 ·have d6:(s.b == u.b)=false:=by rw[beq_eq_false_iff_ne];exact hx
  have e6:(s.b != u.b)=true:=by simp[hx]
  obtain rfl:false=r:=by rw[<-hr.o];exact(decide_eq_false (fun e=>hx (jf.1 e).1.2.2.2.2.2.2)).symm
  clear hx;go_enter func45,ntmps45;go_upto_region 1 with fail
  rw[HW0.o];refine plan.line ?_;refine plan.af 0 _ (.pointer (some ⟨w.heap.size,0,none⟩)) rfl ?_;refine plan.af 1 _ (.int .i64 s.op) rfl (hv:=(ai (ad:=⟨w.heap.size,0,none⟩) rfl kr_ (bZ.o.cell 0) isAgg3)) ?_;refine plan.af 2 _ (.pointer (some ⟨w.heap.size+1,0,none⟩)) rfl ?_;refine plan.af 3 _ (.int .i64 u.op) rfl (hv:=(ai (ad:=⟨w.heap.size+1,0,none⟩) rfl kr_ (cu.o.cell 0) isAgg3)) ?_;refine plan.af 4 _ (.bool false) rfl (hv:=(ax (n:=s.op) (m:=u.op) rfl (hid e0))) ?_;refine plan.af 5 _ (.bool false) rfl ?_;refine plan.af 6 _ (.pointer (some ⟨w.heap.size,1,none⟩)) rfl ?_;refine plan.af 7 _ (.int .i64 s.fm) rfl (hv:=(ai (ad:=⟨w.heap.size,1,none⟩) rfl kr_ (bZ.o.cell 1) isAgg3)) ?_;refine plan.af 8 _ (.pointer (some ⟨w.heap.size+1,1,none⟩)) rfl ?_;refine plan.af 9 _ (.int .i64 u.fm) rfl (hv:=(ai (ad:=⟨w.heap.size+1,1,none⟩) rfl kr_ (cu.o.cell 1) isAgg3)) ?_;refine plan.af 10 _ (.bool false) rfl (hv:=(ax (n:=s.fm) (m:=u.fm) rfl (hid e1))) ?_;refine plan.af 11 _ (.bool false) rfl ?_;refine plan.af 12 _ (.bool false) rfl ?_;refine plan.af 13 _ (.pointer (some ⟨w.heap.size,2,none⟩)) rfl ?_;refine plan.af 14 _ (.int .i64 s.fd) rfl (hv:=(ai (ad:=⟨w.heap.size,2,none⟩) rfl kr_ (bZ.o.cell 2) isAgg3)) ?_;refine plan.af 15 _ (.pointer (some ⟨w.heap.size+1,2,none⟩)) rfl ?_;refine plan.af 16 _ (.int .i64 u.fd) rfl (hv:=(ai (ad:=⟨w.heap.size+1,2,none⟩) rfl kr_ (cu.o.cell 2) isAgg3)) ?_;refine plan.af 17 _ (.bool false) rfl (hv:=(ax (n:=s.fd) (m:=u.fd) rfl (hid e2))) ?_;refine plan.af 18 _ (.bool false) rfl ?_;refine plan.af 19 _ (.bool false) rfl ?_;refine plan.af 20 _ (.pointer (some ⟨w.heap.size,3,none⟩)) rfl ?_;refine plan.af 21 _ (.int .i64 s.pl) rfl (hv:=(ai (ad:=⟨w.heap.size,3,none⟩) rfl kr_ (bZ.o.cell 3) isAgg3)) ?_;refine plan.af 22 _ (.pointer (some ⟨w.heap.size+1,3,none⟩)) rfl ?_;refine plan.af 23 _ (.int .i64 u.pl) rfl (hv:=(ai (ad:=⟨w.heap.size+1,3,none⟩) rfl kr_ (cu.o.cell 3) isAgg3)) ?_;refine plan.af 24 _ (.bool false) rfl (hv:=(ax (n:=s.pl) (m:=u.pl) rfl (hid e3))) ?_;refine plan.af 25 _ (.bool false) rfl ?_;refine plan.af 26 _ (.bool false) rfl ?_;refine plan.af 27 _ (.pointer (some ⟨w.heap.size,4,none⟩)) rfl ?_;refine plan.af 28 _ (.int .i64 s.tt) rfl (hv:=(ai (ad:=⟨w.heap.size,4,none⟩) rfl kr_ (bZ.o.cell 4) isAgg3)) ?_;refine plan.af 29 _ (.pointer (some ⟨w.heap.size+1,4,none⟩)) rfl ?_;refine plan.af 30 _ (.int .i64 u.tt) rfl (hv:=(ai (ad:=⟨w.heap.size+1,4,none⟩) rfl kr_ (cu.o.cell 4) isAgg3)) ?_;refine plan.af 31 _ (.bool false) rfl (hv:=(ax (n:=s.tt) (m:=u.tt) rfl (hid e4))) ?_;refine plan.af 32 _ (.bool false) rfl ?_;refine plan.af 33 _ (.bool false) rfl ?_;refine plan.af 34 _ (.pointer (some ⟨w.heap.size,5,none⟩)) rfl ?_;refine plan.af 35 _ (.int .i64 s.a) rfl (hv:=(ai (ad:=⟨w.heap.size,5,none⟩) rfl kr_ (bZ.o.cell 5) isAgg3)) ?_;refine plan.af 36 _ (.pointer (some ⟨w.heap.size+1,5,none⟩)) rfl ?_;refine plan.af 37 _ (.int .i64 u.a) rfl (hv:=(ai (ad:=⟨w.heap.size+1,5,none⟩) rfl kr_ (cu.o.cell 5) isAgg3)) ?_;refine plan.af 38 _ (.bool false) rfl (hv:=(ax (n:=s.a) (m:=u.a) rfl (hid e5))) ?_;refine plan.af 39 _ (.bool false) rfl ?_;refine plan.af 40 _ (.bool false) rfl ?_;refine plan.af 41 _ (.pointer (some ⟨w.heap.size,6,none⟩)) rfl ?_;refine plan.af 42 _ (.int .i64 s.b) rfl (hv:=(ai (ad:=⟨w.heap.size,6,none⟩) rfl kr_ (bZ.o.cell 6) isAgg3)) ?_;refine plan.af 43 _ (.pointer (some ⟨w.heap.size+1,6,none⟩)) rfl ?_;refine plan.af 44 _ (.int .i64 u.b) rfl (hv:=(ai (ad:=⟨w.heap.size+1,6,none⟩) rfl kr_ (cu.o.cell 6) isAgg3)) ?_;refine plan.af 45 _ (.bool true) rfl (hv:=(ax (n:=s.b) (m:=u.b) rfl (hid e6))) ?_
  exact t139
 have d6:(s.b == u.b)=true:=by rw[beq_iff_eq];exact hx
 have e6:(s.b != u.b)=false:=by simp[hx]
 have H6:=hid hx;clear hx;have Il:=fun W=>pV s.f u.f W
 have hgf:=fun(x y:Operand) (p q:Array Value) W=>kG .neq x y p q W
 by_cases hx:s.f=u.f;rotate_left
 ·rw[decide_eq_false hx] at Il;obtain rfl:false=r:=by rw[<-hr.o];exact(decide_eq_false (fun e=>hx (jf.1 e).2.1)).symm
  clear hx;go_enter func45,ntmps45;go_upto_region 1 with fail
  rw[HW0.o];refine plan.line ?_;refine plan.af 0 _ (.pointer (some ⟨w.heap.size,0,none⟩)) rfl ?_;refine plan.af 1 _ (.int .i64 s.op) rfl (hv:=(ai (ad:=⟨w.heap.size,0,none⟩) rfl kr_ (bZ.o.cell 0) isAgg3)) ?_;refine plan.af 2 _ (.pointer (some ⟨w.heap.size+1,0,none⟩)) rfl ?_;refine plan.af 3 _ (.int .i64 u.op) rfl (hv:=(ai (ad:=⟨w.heap.size+1,0,none⟩) rfl kr_ (cu.o.cell 0) isAgg3)) ?_;refine plan.af 4 _ (.bool false) rfl (hv:=(ax (n:=s.op) (m:=u.op) rfl (hid e0))) ?_;refine plan.af 5 _ (.bool false) rfl ?_;refine plan.af 6 _ (.pointer (some ⟨w.heap.size,1,none⟩)) rfl ?_;refine plan.af 7 _ (.int .i64 s.fm) rfl (hv:=(ai (ad:=⟨w.heap.size,1,none⟩) rfl kr_ (bZ.o.cell 1) isAgg3)) ?_;refine plan.af 8 _ (.pointer (some ⟨w.heap.size+1,1,none⟩)) rfl ?_;refine plan.af 9 _ (.int .i64 u.fm) rfl (hv:=(ai (ad:=⟨w.heap.size+1,1,none⟩) rfl kr_ (cu.o.cell 1) isAgg3)) ?_;refine plan.af 10 _ (.bool false) rfl (hv:=(ax (n:=s.fm) (m:=u.fm) rfl (hid e1))) ?_;refine plan.af 11 _ (.bool false) rfl ?_;refine plan.af 12 _ (.bool false) rfl ?_;refine plan.af 13 _ (.pointer (some ⟨w.heap.size,2,none⟩)) rfl ?_;refine plan.af 14 _ (.int .i64 s.fd) rfl (hv:=(ai (ad:=⟨w.heap.size,2,none⟩) rfl kr_ (bZ.o.cell 2) isAgg3)) ?_;refine plan.af 15 _ (.pointer (some ⟨w.heap.size+1,2,none⟩)) rfl ?_;refine plan.af 16 _ (.int .i64 u.fd) rfl (hv:=(ai (ad:=⟨w.heap.size+1,2,none⟩) rfl kr_ (cu.o.cell 2) isAgg3)) ?_;refine plan.af 17 _ (.bool false) rfl (hv:=(ax (n:=s.fd) (m:=u.fd) rfl (hid e2))) ?_;refine plan.af 18 _ (.bool false) rfl ?_;refine plan.af 19 _ (.bool false) rfl ?_;refine plan.af 20 _ (.pointer (some ⟨w.heap.size,3,none⟩)) rfl ?_;refine plan.af 21 _ (.int .i64 s.pl) rfl (hv:=(ai (ad:=⟨w.heap.size,3,none⟩) rfl kr_ (bZ.o.cell 3) isAgg3)) ?_;refine plan.af 22 _ (.pointer (some ⟨w.heap.size+1,3,none⟩)) rfl ?_;refine plan.af 23 _ (.int .i64 u.pl) rfl (hv:=(ai (ad:=⟨w.heap.size+1,3,none⟩) rfl kr_ (cu.o.cell 3) isAgg3)) ?_;refine plan.af 24 _ (.bool false) rfl (hv:=(ax (n:=s.pl) (m:=u.pl) rfl (hid e3))) ?_;refine plan.af 25 _ (.bool false) rfl ?_;refine plan.af 26 _ (.bool false) rfl ?_;refine plan.af 27 _ (.pointer (some ⟨w.heap.size,4,none⟩)) rfl ?_;refine plan.af 28 _ (.int .i64 s.tt) rfl (hv:=(ai (ad:=⟨w.heap.size,4,none⟩) rfl kr_ (bZ.o.cell 4) isAgg3)) ?_;refine plan.af 29 _ (.pointer (some ⟨w.heap.size+1,4,none⟩)) rfl ?_;refine plan.af 30 _ (.int .i64 u.tt) rfl (hv:=(ai (ad:=⟨w.heap.size+1,4,none⟩) rfl kr_ (cu.o.cell 4) isAgg3)) ?_;refine plan.af 31 _ (.bool false) rfl (hv:=(ax (n:=s.tt) (m:=u.tt) rfl (hid e4))) ?_;refine plan.af 32 _ (.bool false) rfl ?_;refine plan.af 33 _ (.bool false) rfl ?_;refine plan.af 34 _ (.pointer (some ⟨w.heap.size,5,none⟩)) rfl ?_;refine plan.af 35 _ (.int .i64 s.a) rfl (hv:=(ai (ad:=⟨w.heap.size,5,none⟩) rfl kr_ (bZ.o.cell 5) isAgg3)) ?_;refine plan.af 36 _ (.pointer (some ⟨w.heap.size+1,5,none⟩)) rfl ?_;refine plan.af 37 _ (.int .i64 u.a) rfl (hv:=(ai (ad:=⟨w.heap.size+1,5,none⟩) rfl kr_ (cu.o.cell 5) isAgg3)) ?_;refine plan.af 38 _ (.bool false) rfl (hv:=(ax (n:=s.a) (m:=u.a) rfl (hid e5))) ?_;refine plan.af 39 _ (.bool false) rfl ?_;refine plan.af 40 _ (.bool false) rfl ?_;refine plan.af 41 _ (.pointer (some ⟨w.heap.size,6,none⟩)) rfl ?_;refine plan.af 42 _ (.int .i64 s.b) rfl (hv:=(ai (ad:=⟨w.heap.size,6,none⟩) rfl kr_ (bZ.o.cell 6) isAgg3)) ?_;refine plan.af 43 _ (.pointer (some ⟨w.heap.size+1,6,none⟩)) rfl ?_;refine plan.af 44 _ (.int .i64 u.b) rfl (hv:=(ai (ad:=⟨w.heap.size+1,6,none⟩) rfl kr_ (cu.o.cell 6) isAgg3)) ?_;refine plan.af 45 _ (.bool false) rfl (hv:=(ax (n:=s.b) (m:=u.b) rfl (hid e6))) ?_;refine plan.af 46 _ (.bool false) rfl ?_;refine plan.af 47 _ (.bool false) rfl ?_;refine plan.af 48 _ (.pointer (some ⟨w.heap.size,7,none⟩)) rfl ?_;refine plan.af 49 _ (zF s.f) rfl (hv:=(aj (b:=w.heap.size) (off:=7) rfl (eF bZ.o) underlying47 rfl dm.o)) ?_;refine plan.af 50 _ (.pointer (some ⟨w.heap.size+1,7,none⟩)) rfl ?_;refine plan.af 51 _ (zF u.f) rfl (hv:=(aj (b:=w.heap.size+1) (off:=7) rfl (eF cu.o) underlying47 rfl dm.o)) ?_;refine plan.af 52 _ (.bool true) rfl (hv:=(aY rfl (kG _ _ _ _ _ _) (Il _))) ?_
  exact t133
 rw[decide_eq_true hx] at Il;have H7:=hid hx;clear hx;have JX:=fun W=>Kw s.v u.v W
 have hgv:=fun(x y:Operand) (p q:Array Value) W=>lW .neq x y p q W
 by_cases hx:s.v=u.v;rotate_left
 ·rw[decide_eq_false hx] at JX;obtain rfl:false=r:=by rw[<-hr.o];exact(decide_eq_false (fun e=>hx (jf.1 e).2.2.1)).symm
  clear hx;go_enter func45,ntmps45;go_upto_region 1 with fail
  rw[HW0.o];refine plan.line ?_;refine plan.af 0 _ (.pointer (some ⟨w.heap.size,0,none⟩)) rfl ?_;refine plan.af 1 _ (.int .i64 s.op) rfl (hv:=(ai (ad:=⟨w.heap.size,0,none⟩) rfl kr_ (bZ.o.cell 0) isAgg3)) ?_;refine plan.af 2 _ (.pointer (some ⟨w.heap.size+1,0,none⟩)) rfl ?_;refine plan.af 3 _ (.int .i64 u.op) rfl (hv:=(ai (ad:=⟨w.heap.size+1,0,none⟩) rfl kr_ (cu.o.cell 0) isAgg3)) ?_;refine plan.af 4 _ (.bool false) rfl (hv:=(ax (n:=s.op) (m:=u.op) rfl (hid e0))) ?_;refine plan.af 5 _ (.bool false) rfl ?_;refine plan.af 6 _ (.pointer (some ⟨w.heap.size,1,none⟩)) rfl ?_;refine plan.af 7 _ (.int .i64 s.fm) rfl (hv:=(ai (ad:=⟨w.heap.size,1,none⟩) rfl kr_ (bZ.o.cell 1) isAgg3)) ?_;refine plan.af 8 _ (.pointer (some ⟨w.heap.size+1,1,none⟩)) rfl ?_;refine plan.af 9 _ (.int .i64 u.fm) rfl (hv:=(ai (ad:=⟨w.heap.size+1,1,none⟩) rfl kr_ (cu.o.cell 1) isAgg3)) ?_;refine plan.af 10 _ (.bool false) rfl (hv:=(ax (n:=s.fm) (m:=u.fm) rfl (hid e1))) ?_;refine plan.af 11 _ (.bool false) rfl ?_;refine plan.af 12 _ (.bool false) rfl ?_;refine plan.af 13 _ (.pointer (some ⟨w.heap.size,2,none⟩)) rfl ?_;refine plan.af 14 _ (.int .i64 s.fd) rfl (hv:=(ai (ad:=⟨w.heap.size,2,none⟩) rfl kr_ (bZ.o.cell 2) isAgg3)) ?_;refine plan.af 15 _ (.pointer (some ⟨w.heap.size+1,2,none⟩)) rfl ?_;refine plan.af 16 _ (.int .i64 u.fd) rfl (hv:=(ai (ad:=⟨w.heap.size+1,2,none⟩) rfl kr_ (cu.o.cell 2) isAgg3)) ?_;refine plan.af 17 _ (.bool false) rfl (hv:=(ax (n:=s.fd) (m:=u.fd) rfl (hid e2))) ?_;refine plan.af 18 _ (.bool false) rfl ?_;refine plan.af 19 _ (.bool false) rfl ?_;refine plan.af 20 _ (.pointer (some ⟨w.heap.size,3,none⟩)) rfl ?_;refine plan.af 21 _ (.int .i64 s.pl) rfl (hv:=(ai (ad:=⟨w.heap.size,3,none⟩) rfl kr_ (bZ.o.cell 3) isAgg3)) ?_;refine plan.af 22 _ (.pointer (some ⟨w.heap.size+1,3,none⟩)) rfl ?_;refine plan.af 23 _ (.int .i64 u.pl) rfl (hv:=(ai (ad:=⟨w.heap.size+1,3,none⟩) rfl kr_ (cu.o.cell 3) isAgg3)) ?_;refine plan.af 24 _ (.bool false) rfl (hv:=(ax (n:=s.pl) (m:=u.pl) rfl (hid e3))) ?_;refine plan.af 25 _ (.bool false) rfl ?_;refine plan.af 26 _ (.bool false) rfl ?_;refine plan.af 27 _ (.pointer (some ⟨w.heap.size,4,none⟩)) rfl ?_;refine plan.af 28 _ (.int .i64 s.tt) rfl (hv:=(ai (ad:=⟨w.heap.size,4,none⟩) rfl kr_ (bZ.o.cell 4) isAgg3)) ?_;refine plan.af 29 _ (.pointer (some ⟨w.heap.size+1,4,none⟩)) rfl ?_;refine plan.af 30 _ (.int .i64 u.tt) rfl (hv:=(ai (ad:=⟨w.heap.size+1,4,none⟩) rfl kr_ (cu.o.cell 4) isAgg3)) ?_;refine plan.af 31 _ (.bool false) rfl (hv:=(ax (n:=s.tt) (m:=u.tt) rfl (hid e4))) ?_;refine plan.af 32 _ (.bool false) rfl ?_;refine plan.af 33 _ (.bool false) rfl ?_;refine plan.af 34 _ (.pointer (some ⟨w.heap.size,5,none⟩)) rfl ?_;refine plan.af 35 _ (.int .i64 s.a) rfl (hv:=(ai (ad:=⟨w.heap.size,5,none⟩) rfl kr_ (bZ.o.cell 5) isAgg3)) ?_;refine plan.af 36 _ (.pointer (some ⟨w.heap.size+1,5,none⟩)) rfl ?_;refine plan.af 37 _ (.int .i64 u.a) rfl (hv:=(ai (ad:=⟨w.heap.size+1,5,none⟩) rfl kr_ (cu.o.cell 5) isAgg3)) ?_;refine plan.af 38 _ (.bool false) rfl (hv:=(ax (n:=s.a) (m:=u.a) rfl (hid e5))) ?_;refine plan.af 39 _ (.bool false) rfl ?_;refine plan.af 40 _ (.bool false) rfl ?_;refine plan.af 41 _ (.pointer (some ⟨w.heap.size,6,none⟩)) rfl ?_;refine plan.af 42 _ (.int .i64 s.b) rfl (hv:=(ai (ad:=⟨w.heap.size,6,none⟩) rfl kr_ (bZ.o.cell 6) isAgg3)) ?_;refine plan.af 43 _ (.pointer (some ⟨w.heap.size+1,6,none⟩)) rfl ?_;refine plan.af 44 _ (.int .i64 u.b) rfl (hv:=(ai (ad:=⟨w.heap.size+1,6,none⟩) rfl kr_ (cu.o.cell 6) isAgg3)) ?_;refine plan.af 45 _ (.bool false) rfl (hv:=(ax (n:=s.b) (m:=u.b) rfl (hid e6))) ?_;refine plan.af 46 _ (.bool false) rfl ?_;refine plan.af 47 _ (.bool false) rfl ?_;refine plan.af 48 _ (.pointer (some ⟨w.heap.size,7,none⟩)) rfl ?_;refine plan.af 49 _ (zF s.f) rfl (hv:=(aj (b:=w.heap.size) (off:=7) rfl (eF bZ.o) underlying47 rfl dm.o)) ?_;refine plan.af 50 _ (.pointer (some ⟨w.heap.size+1,7,none⟩)) rfl ?_;refine plan.af 51 _ (zF u.f) rfl (hv:=(aj (b:=w.heap.size+1) (off:=7) rfl (eF cu.o) underlying47 rfl dm.o)) ?_;refine plan.af 52 _ (.bool false) rfl (hv:=(aY rfl (kG _ _ _ _ _ _) (Il _))) ?_;refine plan.af 53 _ (.bool false) rfl ?_;refine plan.af 54 _ (.bool false) rfl ?_;refine plan.af 55 _ (.pointer (some ⟨w.heap.size,12,none⟩)) rfl ?_;refine plan.af 56 _ (zV s.v) rfl (hv:=(aj (b:=w.heap.size) (off:=12) rfl (gG bZ.o) underlying49 rfl gB.o)) ?_;refine plan.af 57 _ (.pointer (some ⟨w.heap.size+1,12,none⟩)) rfl ?_;refine plan.af 58 _ (zV u.v) rfl (hv:=(aj (b:=w.heap.size+1) (off:=12) rfl (gG cu.o) underlying49 rfl gB.o)) ?_;refine plan.af 59 _ (.bool true) rfl (hv:=(aY rfl (lW _ _ _ _ _ _) (JX _))) ?_
  exact t104
 rw[decide_eq_true hx] at JX;have H8:=hid hx;clear hx;by_cases hx:s.t.length=u.t.length;rotate_left
 ·have d9:((s.t.length:Int) == (u.t.length:Int))=false:=by rw[beq_eq_false_iff_ne];omega
  have e9:((s.t.length:Int) != (u.t.length:Int))=true:=by rw[bne_iff_ne];omega
  replace hx:¬s.t=u.t:=fun e=>hx (by rw[e])
  obtain rfl:false=r:=by rw[<-hr.o];exact(decide_eq_false (fun e=>hx (jf.1 e).2.2.2.1)).symm
  clear hx;go_enter func45,ntmps45;go_upto_region 1 with fail
  rw[HW0.o];refine plan.line ?_;refine plan.af 0 _ (.pointer (some ⟨w.heap.size,0,none⟩)) rfl ?_;refine plan.af 1 _ (.int .i64 s.op) rfl (hv:=(ai (ad:=⟨w.heap.size,0,none⟩) rfl kr_ (bZ.o.cell 0) isAgg3)) ?_;refine plan.af 2 _ (.pointer (some ⟨w.heap.size+1,0,none⟩)) rfl ?_;refine plan.af 3 _ (.int .i64 u.op) rfl (hv:=(ai (ad:=⟨w.heap.size+1,0,none⟩) rfl kr_ (cu.o.cell 0) isAgg3)) ?_;refine plan.af 4 _ (.bool false) rfl (hv:=(ax (n:=s.op) (m:=u.op) rfl (hid e0))) ?_;refine plan.af 5 _ (.bool false) rfl ?_;refine plan.af 6 _ (.pointer (some ⟨w.heap.size,1,none⟩)) rfl ?_;refine plan.af 7 _ (.int .i64 s.fm) rfl (hv:=(ai (ad:=⟨w.heap.size,1,none⟩) rfl kr_ (bZ.o.cell 1) isAgg3)) ?_;refine plan.af 8 _ (.pointer (some ⟨w.heap.size+1,1,none⟩)) rfl ?_;refine plan.af 9 _ (.int .i64 u.fm) rfl (hv:=(ai (ad:=⟨w.heap.size+1,1,none⟩) rfl kr_ (cu.o.cell 1) isAgg3)) ?_;refine plan.af 10 _ (.bool false) rfl (hv:=(ax (n:=s.fm) (m:=u.fm) rfl (hid e1))) ?_;refine plan.af 11 _ (.bool false) rfl ?_;refine plan.af 12 _ (.bool false) rfl ?_;refine plan.af 13 _ (.pointer (some ⟨w.heap.size,2,none⟩)) rfl ?_;refine plan.af 14 _ (.int .i64 s.fd) rfl (hv:=(ai (ad:=⟨w.heap.size,2,none⟩) rfl kr_ (bZ.o.cell 2) isAgg3)) ?_;refine plan.af 15 _ (.pointer (some ⟨w.heap.size+1,2,none⟩)) rfl ?_;refine plan.af 16 _ (.int .i64 u.fd) rfl (hv:=(ai (ad:=⟨w.heap.size+1,2,none⟩) rfl kr_ (cu.o.cell 2) isAgg3)) ?_;refine plan.af 17 _ (.bool false) rfl (hv:=(ax (n:=s.fd) (m:=u.fd) rfl (hid e2))) ?_;refine plan.af 18 _ (.bool false) rfl ?_;refine plan.af 19 _ (.bool false) rfl ?_;refine plan.af 20 _ (.pointer (some ⟨w.heap.size,3,none⟩)) rfl ?_;refine plan.af 21 _ (.int .i64 s.pl) rfl (hv:=(ai (ad:=⟨w.heap.size,3,none⟩) rfl kr_ (bZ.o.cell 3) isAgg3)) ?_;refine plan.af 22 _ (.pointer (some ⟨w.heap.size+1,3,none⟩)) rfl ?_;refine plan.af 23 _ (.int .i64 u.pl) rfl (hv:=(ai (ad:=⟨w.heap.size+1,3,none⟩) rfl kr_ (cu.o.cell 3) isAgg3)) ?_;refine plan.af 24 _ (.bool false) rfl (hv:=(ax (n:=s.pl) (m:=u.pl) rfl (hid e3))) ?_;refine plan.af 25 _ (.bool false) rfl ?_;refine plan.af 26 _ (.bool false) rfl ?_;refine plan.af 27 _ (.pointer (some ⟨w.heap.size,4,none⟩)) rfl ?_;refine plan.af 28 _ (.int .i64 s.tt) rfl (hv:=(ai (ad:=⟨w.heap.size,4,none⟩) rfl kr_ (bZ.o.cell 4) isAgg3)) ?_;refine plan.af 29 _ (.pointer (some ⟨w.heap.size+1,4,none⟩)) rfl ?_;refine plan.af 30 _ (.int .i64 u.tt) rfl (hv:=(ai (ad:=⟨w.heap.size+1,4,none⟩) rfl kr_ (cu.o.cell 4) isAgg3)) ?_;refine plan.af 31 _ (.bool false) rfl (hv:=(ax (n:=s.tt) (m:=u.tt) rfl (hid e4))) ?_;refine plan.af 32 _ (.bool false) rfl ?_;refine plan.af 33 _ (.bool false) rfl ?_;refine plan.af 34 _ (.pointer (some ⟨w.heap.size,5,none⟩)) rfl ?_;refine plan.af 35 _ (.int .i64 s.a) rfl (hv:=(ai (ad:=⟨w.heap.size,5,none⟩) rfl kr_ (bZ.o.cell 5) isAgg3)) ?_;refine plan.af 36 _ (.pointer (some ⟨w.heap.size+1,5,none⟩)) rfl ?_;refine plan.af 37 _ (.int .i64 u.a) rfl (hv:=(ai (ad:=⟨w.heap.size+1,5,none⟩) rfl kr_ (cu.o.cell 5) isAgg3)) ?_;refine plan.af 38 _ (.bool false) rfl (hv:=(ax (n:=s.a) (m:=u.a) rfl (hid e5))) ?_;refine plan.af 39 _ (.bool false) rfl ?_;refine plan.af 40 _ (.bool false) rfl ?_;refine plan.af 41 _ (.pointer (some ⟨w.heap.size,6,none⟩)) rfl ?_;refine plan.af 42 _ (.int .i64 s.b) rfl (hv:=(ai (ad:=⟨w.heap.size,6,none⟩) rfl kr_ (bZ.o.cell 6) isAgg3)) ?_;refine plan.af 43 _ (.pointer (some ⟨w.heap.size+1,6,none⟩)) rfl ?_;refine plan.af 44 _ (.int .i64 u.b) rfl (hv:=(ai (ad:=⟨w.heap.size+1,6,none⟩) rfl kr_ (cu.o.cell 6) isAgg3)) ?_;refine plan.af 45 _ (.bool false) rfl (hv:=(ax (n:=s.b) (m:=u.b) rfl (hid e6))) ?_;refine plan.af 46 _ (.bool false) rfl ?_;refine plan.af 47 _ (.bool false) rfl ?_;refine plan.af 48 _ (.pointer (some ⟨w.heap.size,7,none⟩)) rfl ?_;refine plan.af 49 _ (zF s.f) rfl (hv:=(aj (b:=w.heap.size) (off:=7) rfl (eF bZ.o) underlying47 rfl dm.o)) ?_;refine plan.af 50 _ (.pointer (some ⟨w.heap.size+1,7,none⟩)) rfl ?_;refine plan.af 51 _ (zF u.f) rfl (hv:=(aj (b:=w.heap.size+1) (off:=7) rfl (eF cu.o) underlying47 rfl dm.o)) ?_;refine plan.af 52 _ (.bool false) rfl (hv:=(aY rfl (kG _ _ _ _ _ _) (Il _))) ?_;refine plan.af 53 _ (.bool false) rfl ?_;refine plan.af 54 _ (.bool false) rfl ?_;refine plan.af 55 _ (.pointer (some ⟨w.heap.size,12,none⟩)) rfl ?_;refine plan.af 56 _ (zV s.v) rfl (hv:=(aj (b:=w.heap.size) (off:=12) rfl (gG bZ.o) underlying49 rfl gB.o)) ?_;refine plan.af 57 _ (.pointer (some ⟨w.heap.size+1,12,none⟩)) rfl ?_;refine plan.af 58 _ (zV u.v) rfl (hv:=(aj (b:=w.heap.size+1) (off:=12) rfl (gG cu.o) underlying49 rfl gB.o)) ?_;refine plan.af 59 _ (.bool false) rfl (hv:=(aY rfl (lW _ _ _ _ _ _) (JX _))) ?_;refine plan.af 60 _ (.bool false) rfl ?_;refine plan.af 61 _ (.bool false) rfl ?_;refine plan.af 62 _ (.pointer (some ⟨w.heap.size,14,none⟩)) rfl ?_;refine plan.af 63 _ (.slice ta s.t.length tc) rfl (hv:=(aC (ad:=⟨w.heap.size,14,none⟩) rfl (bZ.o.cell 14) isAgg50)) ?_;refine plan.af 64 _ (.int .i64 (s.t.length:Int)) rfl ?_;refine plan.af 65 _ (.pointer (some ⟨w.heap.size+1,14,none⟩)) rfl ?_;refine plan.af 66 _ (.slice ua u.t.length uc) rfl (hv:=(aC (ad:=⟨w.heap.size+1,14,none⟩) rfl (cu.o.cell 14) isAgg50)) ?_;refine plan.af 67 _ (.int .i64 (u.t.length:Int)) rfl ?_;refine plan.af 68 _ (.bool true) rfl (hv:=(ax (n:=(s.t.length:Int)) (m:=(u.t.length:Int)) rfl (hid e9))) ?_
  exact t135
 have d9:((s.t.length:Int) == (u.t.length:Int))=true:=by rw[beq_iff_eq];omega
 have e9:((s.t.length:Int) != (u.t.length:Int))=false:=by simp[hx]
 have Ls:=hid hx;clear hx;by_cases hx:s.l.length=u.l.length;rotate_left
 ·have d10:((s.l.length:Int) == (u.l.length:Int))=false:=by rw[beq_eq_false_iff_ne];omega
  have e10:((s.l.length:Int) != (u.l.length:Int))=true:=by rw[bne_iff_ne];omega
  replace hx:¬s.l=u.l:=fun e=>hx (by rw[e])
  obtain rfl:false=r:=by rw[<-hr.o];exact(decide_eq_false (fun e=>hx (jf.1 e).2.2.2.2)).symm
  clear hx;go_enter func45,ntmps45;go_upto_region 1 with fail
  rw[HW0.o];refine plan.line ?_;refine plan.af 0 _ (.pointer (some ⟨w.heap.size,0,none⟩)) rfl ?_;refine plan.af 1 _ (.int .i64 s.op) rfl (hv:=(ai (ad:=⟨w.heap.size,0,none⟩) rfl kr_ (bZ.o.cell 0) isAgg3)) ?_;refine plan.af 2 _ (.pointer (some ⟨w.heap.size+1,0,none⟩)) rfl ?_;refine plan.af 3 _ (.int .i64 u.op) rfl (hv:=(ai (ad:=⟨w.heap.size+1,0,none⟩) rfl kr_ (cu.o.cell 0) isAgg3)) ?_;refine plan.af 4 _ (.bool false) rfl (hv:=(ax (n:=s.op) (m:=u.op) rfl (hid e0))) ?_;refine plan.af 5 _ (.bool false) rfl ?_;refine plan.af 6 _ (.pointer (some ⟨w.heap.size,1,none⟩)) rfl ?_;refine plan.af 7 _ (.int .i64 s.fm) rfl (hv:=(ai (ad:=⟨w.heap.size,1,none⟩) rfl kr_ (bZ.o.cell 1) isAgg3)) ?_;refine plan.af 8 _ (.pointer (some ⟨w.heap.size+1,1,none⟩)) rfl ?_;refine plan.af 9 _ (.int .i64 u.fm) rfl (hv:=(ai (ad:=⟨w.heap.size+1,1,none⟩) rfl kr_ (cu.o.cell 1) isAgg3)) ?_;refine plan.af 10 _ (.bool false) rfl (hv:=(ax (n:=s.fm) (m:=u.fm) rfl (hid e1))) ?_;refine plan.af 11 _ (.bool false) rfl ?_;refine plan.af 12 _ (.bool false) rfl ?_;refine plan.af 13 _ (.pointer (some ⟨w.heap.size,2,none⟩)) rfl ?_;refine plan.af 14 _ (.int .i64 s.fd) rfl (hv:=(ai (ad:=⟨w.heap.size,2,none⟩) rfl kr_ (bZ.o.cell 2) isAgg3)) ?_;refine plan.af 15 _ (.pointer (some ⟨w.heap.size+1,2,none⟩)) rfl ?_;refine plan.af 16 _ (.int .i64 u.fd) rfl (hv:=(ai (ad:=⟨w.heap.size+1,2,none⟩) rfl kr_ (cu.o.cell 2) isAgg3)) ?_;refine plan.af 17 _ (.bool false) rfl (hv:=(ax (n:=s.fd) (m:=u.fd) rfl (hid e2))) ?_;refine plan.af 18 _ (.bool false) rfl ?_;refine plan.af 19 _ (.bool false) rfl ?_;refine plan.af 20 _ (.pointer (some ⟨w.heap.size,3,none⟩)) rfl ?_;refine plan.af 21 _ (.int .i64 s.pl) rfl (hv:=(ai (ad:=⟨w.heap.size,3,none⟩) rfl kr_ (bZ.o.cell 3) isAgg3)) ?_;refine plan.af 22 _ (.pointer (some ⟨w.heap.size+1,3,none⟩)) rfl ?_;refine plan.af 23 _ (.int .i64 u.pl) rfl (hv:=(ai (ad:=⟨w.heap.size+1,3,none⟩) rfl kr_ (cu.o.cell 3) isAgg3)) ?_;refine plan.af 24 _ (.bool false) rfl (hv:=(ax (n:=s.pl) (m:=u.pl) rfl (hid e3))) ?_;refine plan.af 25 _ (.bool false) rfl ?_;refine plan.af 26 _ (.bool false) rfl ?_;refine plan.af 27 _ (.pointer (some ⟨w.heap.size,4,none⟩)) rfl ?_;refine plan.af 28 _ (.int .i64 s.tt) rfl (hv:=(ai (ad:=⟨w.heap.size,4,none⟩) rfl kr_ (bZ.o.cell 4) isAgg3)) ?_;refine plan.af 29 _ (.pointer (some ⟨w.heap.size+1,4,none⟩)) rfl ?_;refine plan.af 30 _ (.int .i64 u.tt) rfl (hv:=(ai (ad:=⟨w.heap.size+1,4,none⟩) rfl kr_ (cu.o.cell 4) isAgg3)) ?_;refine plan.af 31 _ (.bool false) rfl (hv:=(ax (n:=s.tt) (m:=u.tt) rfl (hid e4))) ?_;refine plan.af 32 _ (.bool false) rfl ?_;refine plan.af 33 _ (.bool false) rfl ?_;refine plan.af 34 _ (.pointer (some ⟨w.heap.size,5,none⟩)) rfl ?_;refine plan.af 35 _ (.int .i64 s.a) rfl (hv:=(ai (ad:=⟨w.heap.size,5,none⟩) rfl kr_ (bZ.o.cell 5) isAgg3)) ?_;refine plan.af 36 _ (.pointer (some ⟨w.heap.size+1,5,none⟩)) rfl ?_;refine plan.af 37 _ (.int .i64 u.a) rfl (hv:=(ai (ad:=⟨w.heap.size+1,5,none⟩) rfl kr_ (cu.o.cell 5) isAgg3)) ?_;refine plan.af 38 _ (.bool false) rfl (hv:=(ax (n:=s.a) (m:=u.a) rfl (hid e5))) ?_;refine plan.af 39 _ (.bool false) rfl ?_;refine plan.af 40 _ (.bool false) rfl ?_;refine plan.af 41 _ (.pointer (some ⟨w.heap.size,6,none⟩)) rfl ?_;refine plan.af 42 _ (.int .i64 s.b) rfl (hv:=(ai (ad:=⟨w.heap.size,6,none⟩) rfl kr_ (bZ.o.cell 6) isAgg3)) ?_;refine plan.af 43 _ (.pointer (some ⟨w.heap.size+1,6,none⟩)) rfl ?_;refine plan.af 44 _ (.int .i64 u.b) rfl (hv:=(ai (ad:=⟨w.heap.size+1,6,none⟩) rfl kr_ (cu.o.cell 6) isAgg3)) ?_;refine plan.af 45 _ (.bool false) rfl (hv:=(ax (n:=s.b) (m:=u.b) rfl (hid e6))) ?_;refine plan.af 46 _ (.bool false) rfl ?_;refine plan.af 47 _ (.bool false) rfl ?_;refine plan.af 48 _ (.pointer (some ⟨w.heap.size,7,none⟩)) rfl ?_;refine plan.af 49 _ (zF s.f) rfl (hv:=(aj (b:=w.heap.size) (off:=7) rfl (eF bZ.o) underlying47 rfl dm.o)) ?_;refine plan.af 50 _ (.pointer (some ⟨w.heap.size+1,7,none⟩)) rfl ?_;refine plan.af 51 _ (zF u.f) rfl (hv:=(aj (b:=w.heap.size+1) (off:=7) rfl (eF cu.o) underlying47 rfl dm.o)) ?_;refine plan.af 52 _ (.bool false) rfl (hv:=(aY rfl (kG _ _ _ _ _ _) (Il _))) ?_;refine plan.af 53 _ (.bool false) rfl ?_;refine plan.af 54 _ (.bool false) rfl ?_;refine plan.af 55 _ (.pointer (some ⟨w.heap.size,12,none⟩)) rfl ?_;refine plan.af 56 _ (zV s.v) rfl (hv:=(aj (b:=w.heap.size) (off:=12) rfl (gG bZ.o) underlying49 rfl gB.o)) ?_;refine plan.af 57 _ (.pointer (some ⟨w.heap.size+1,12,none⟩)) rfl ?_;refine plan.af 58 _ (zV u.v) rfl (hv:=(aj (b:=w.heap.size+1) (off:=12) rfl (gG cu.o) underlying49 rfl gB.o)) ?_;refine plan.af 59 _ (.bool false) rfl (hv:=(aY rfl (lW _ _ _ _ _ _) (JX _))) ?_;refine plan.af 60 _ (.bool false) rfl ?_;refine plan.af 61 _ (.bool false) rfl ?_;refine plan.af 62 _ (.pointer (some ⟨w.heap.size,14,none⟩)) rfl ?_;refine plan.af 63 _ (.slice ta s.t.length tc) rfl (hv:=(aC (ad:=⟨w.heap.size,14,none⟩) rfl (bZ.o.cell 14) isAgg50)) ?_;refine plan.af 64 _ (.int .i64 (s.t.length:Int)) rfl ?_;refine plan.af 65 _ (.pointer (some ⟨w.heap.size+1,14,none⟩)) rfl ?_;refine plan.af 66 _ (.slice ua u.t.length uc) rfl (hv:=(aC (ad:=⟨w.heap.size+1,14,none⟩) rfl (cu.o.cell 14) isAgg50)) ?_;refine plan.af 67 _ (.int .i64 (u.t.length:Int)) rfl ?_;refine plan.af 68 _ (.bool false) rfl (hv:=(ax (n:=(s.t.length:Int)) (m:=(u.t.length:Int)) rfl (hid e9))) ?_;refine plan.af 69 _ (.bool false) rfl ?_;refine plan.af 70 _ (.bool false) rfl ?_;refine plan.af 71 _ (.pointer (some ⟨w.heap.size,15,none⟩)) rfl ?_;refine plan.af 72 _ (.slice la s.l.length lc) rfl (hv:=(aC (ad:=⟨w.heap.size,15,none⟩) rfl (bZ.o.cell 15) isAgg38)) ?_;refine plan.af 73 _ (.int .i64 (s.l.length:Int)) rfl ?_;refine plan.af 74 _ (.pointer (some ⟨w.heap.size+1,15,none⟩)) rfl ?_;refine plan.af 75 _ (.slice va u.l.length vc) rfl (hv:=(aC (ad:=⟨w.heap.size+1,15,none⟩) rfl (cu.o.cell 15) isAgg38)) ?_;refine plan.af 76 _ (.int .i64 (u.l.length:Int)) rfl ?_;refine plan.af 77 _ (.bool true) rfl (hv:=(ax (n:=(s.l.length:Int)) (m:=(u.l.length:Int)) rfl (hid e10))) ?_
  exact t141
 have d10:((s.l.length:Int) == (u.l.length:Int))=true:=by rw[beq_iff_eq];omega
 have e10:((s.l.length:Int) != (u.l.length:Int))=false:=by simp[hx]
 have DW:=hid hx;clear hx;go_enter func45,ntmps45;go_upto_region 1 with fail
 rw[HW0.o];refine plan.line ?_;refine plan.af 0 _ (.pointer (some ⟨w.heap.size,0,none⟩)) rfl ?_;refine plan.af 1 _ (.int .i64 s.op) rfl (hv:=(ai (ad:=⟨w.heap.size,0,none⟩) rfl kr_ (bZ.o.cell 0) isAgg3)) ?_;refine plan.af 2 _ (.pointer (some ⟨w.heap.size+1,0,none⟩)) rfl ?_;refine plan.af 3 _ (.int .i64 u.op) rfl (hv:=(ai (ad:=⟨w.heap.size+1,0,none⟩) rfl kr_ (cu.o.cell 0) isAgg3)) ?_;refine plan.af 4 _ (.bool false) rfl (hv:=(ax (n:=s.op) (m:=u.op) rfl (hid e0))) ?_;refine plan.af 5 _ (.bool false) rfl ?_;refine plan.af 6 _ (.pointer (some ⟨w.heap.size,1,none⟩)) rfl ?_;refine plan.af 7 _ (.int .i64 s.fm) rfl (hv:=(ai (ad:=⟨w.heap.size,1,none⟩) rfl kr_ (bZ.o.cell 1) isAgg3)) ?_;refine plan.af 8 _ (.pointer (some ⟨w.heap.size+1,1,none⟩)) rfl ?_;refine plan.af 9 _ (.int .i64 u.fm) rfl (hv:=(ai (ad:=⟨w.heap.size+1,1,none⟩) rfl kr_ (cu.o.cell 1) isAgg3)) ?_;refine plan.af 10 _ (.bool false) rfl (hv:=(ax (n:=s.fm) (m:=u.fm) rfl (hid e1))) ?_;refine plan.af 11 _ (.bool false) rfl ?_;refine plan.af 12 _ (.bool false) rfl ?_;refine plan.af 13 _ (.pointer (some ⟨w.heap.size,2,none⟩)) rfl ?_;refine plan.af 14 _ (.int .i64 s.fd) rfl (hv:=(ai (ad:=⟨w.heap.size,2,none⟩) rfl kr_ (bZ.o.cell 2) isAgg3)) ?_;refine plan.af 15 _ (.pointer (some ⟨w.heap.size+1,2,none⟩)) rfl ?_;refine plan.af 16 _ (.int .i64 u.fd) rfl (hv:=(ai (ad:=⟨w.heap.size+1,2,none⟩) rfl kr_ (cu.o.cell 2) isAgg3)) ?_;refine plan.af 17 _ (.bool false) rfl (hv:=(ax (n:=s.fd) (m:=u.fd) rfl (hid e2))) ?_;refine plan.af 18 _ (.bool false) rfl ?_;refine plan.af 19 _ (.bool false) rfl ?_;refine plan.af 20 _ (.pointer (some ⟨w.heap.size,3,none⟩)) rfl ?_;refine plan.af 21 _ (.int .i64 s.pl) rfl (hv:=(ai (ad:=⟨w.heap.size,3,none⟩) rfl kr_ (bZ.o.cell 3) isAgg3)) ?_;refine plan.af 22 _ (.pointer (some ⟨w.heap.size+1,3,none⟩)) rfl ?_;refine plan.af 23 _ (.int .i64 u.pl) rfl (hv:=(ai (ad:=⟨w.heap.size+1,3,none⟩) rfl kr_ (cu.o.cell 3) isAgg3)) ?_;refine plan.af 24 _ (.bool false) rfl (hv:=(ax (n:=s.pl) (m:=u.pl) rfl (hid e3))) ?_;refine plan.af 25 _ (.bool false) rfl ?_;refine plan.af 26 _ (.bool false) rfl ?_;refine plan.af 27 _ (.pointer (some ⟨w.heap.size,4,none⟩)) rfl ?_;refine plan.af 28 _ (.int .i64 s.tt) rfl (hv:=(ai (ad:=⟨w.heap.size,4,none⟩) rfl kr_ (bZ.o.cell 4) isAgg3)) ?_;refine plan.af 29 _ (.pointer (some ⟨w.heap.size+1,4,none⟩)) rfl ?_;refine plan.af 30 _ (.int .i64 u.tt) rfl (hv:=(ai (ad:=⟨w.heap.size+1,4,none⟩) rfl kr_ (cu.o.cell 4) isAgg3)) ?_;refine plan.af 31 _ (.bool false) rfl (hv:=(ax (n:=s.tt) (m:=u.tt) rfl (hid e4))) ?_;refine plan.af 32 _ (.bool false) rfl ?_;refine plan.af 33 _ (.bool false) rfl ?_;refine plan.af 34 _ (.pointer (some ⟨w.heap.size,5,none⟩)) rfl ?_;refine plan.af 35 _ (.int .i64 s.a) rfl (hv:=(ai (ad:=⟨w.heap.size,5,none⟩) rfl kr_ (bZ.o.cell 5) isAgg3)) ?_;refine plan.af 36 _ (.pointer (some ⟨w.heap.size+1,5,none⟩)) rfl ?_;refine plan.af 37 _ (.int .i64 u.a) rfl (hv:=(ai (ad:=⟨w.heap.size+1,5,none⟩) rfl kr_ (cu.o.cell 5) isAgg3)) ?_;refine plan.af 38 _ (.bool false) rfl (hv:=(ax (n:=s.a) (m:=u.a) rfl (hid e5))) ?_;refine plan.af 39 _ (.bool false) rfl ?_;refine plan.af 40 _ (.bool false) rfl ?_;refine plan.af 41 _ (.pointer (some ⟨w.heap.size,6,none⟩)) rfl ?_;refine plan.af 42 _ (.int .i64 s.b) rfl (hv:=(ai (ad:=⟨w.heap.size,6,none⟩) rfl kr_ (bZ.o.cell 6) isAgg3)) ?_;refine plan.af 43 _ (.pointer (some ⟨w.heap.size+1,6,none⟩)) rfl ?_;refine plan.af 44 _ (.int .i64 u.b) rfl (hv:=(ai (ad:=⟨w.heap.size+1,6,none⟩) rfl kr_ (cu.o.cell 6) isAgg3)) ?_;refine plan.af 45 _ (.bool false) rfl (hv:=(ax (n:=s.b) (m:=u.b) rfl (hid e6))) ?_;refine plan.af 46 _ (.bool false) rfl ?_;refine plan.af 47 _ (.bool false) rfl ?_;refine plan.af 48 _ (.pointer (some ⟨w.heap.size,7,none⟩)) rfl ?_;refine plan.af 49 _ (zF s.f) rfl (hv:=(aj (b:=w.heap.size) (off:=7) rfl (eF bZ.o) underlying47 rfl dm.o)) ?_;refine plan.af 50 _ (.pointer (some ⟨w.heap.size+1,7,none⟩)) rfl ?_;refine plan.af 51 _ (zF u.f) rfl (hv:=(aj (b:=w.heap.size+1) (off:=7) rfl (eF cu.o) underlying47 rfl dm.o)) ?_;refine plan.af 52 _ (.bool false) rfl (hv:=(aY rfl (kG _ _ _ _ _ _) (Il _))) ?_;refine plan.af 53 _ (.bool false) rfl ?_;refine plan.af 54 _ (.bool false) rfl ?_;refine plan.af 55 _ (.pointer (some ⟨w.heap.size,12,none⟩)) rfl ?_;refine plan.af 56 _ (zV s.v) rfl (hv:=(aj (b:=w.heap.size) (off:=12) rfl (gG bZ.o) underlying49 rfl gB.o)) ?_;refine plan.af 57 _ (.pointer (some ⟨w.heap.size+1,12,none⟩)) rfl ?_;refine plan.af 58 _ (zV u.v) rfl (hv:=(aj (b:=w.heap.size+1) (off:=12) rfl (gG cu.o) underlying49 rfl gB.o)) ?_;refine plan.af 59 _ (.bool false) rfl (hv:=(aY rfl (lW _ _ _ _ _ _) (JX _))) ?_;refine plan.af 60 _ (.bool false) rfl ?_;refine plan.af 61 _ (.bool false) rfl ?_;refine plan.af 62 _ (.pointer (some ⟨w.heap.size,14,none⟩)) rfl ?_;refine plan.af 63 _ (.slice ta s.t.length tc) rfl (hv:=(aC (ad:=⟨w.heap.size,14,none⟩) rfl (bZ.o.cell 14) isAgg50)) ?_;refine plan.af 64 _ (.int .i64 (s.t.length:Int)) rfl ?_;refine plan.af 65 _ (.pointer (some ⟨w.heap.size+1,14,none⟩)) rfl ?_;refine plan.af 66 _ (.slice ua u.t.length uc) rfl (hv:=(aC (ad:=⟨w.heap.size+1,14,none⟩) rfl (cu.o.cell 14) isAgg50)) ?_;refine plan.af 67 _ (.int .i64 (u.t.length:Int)) rfl ?_;refine plan.af 68 _ (.bool false) rfl (hv:=(ax (n:=(s.t.length:Int)) (m:=(u.t.length:Int)) rfl (hid e9))) ?_;refine plan.af 69 _ (.bool false) rfl ?_;refine plan.af 70 _ (.bool false) rfl ?_;refine plan.af 71 _ (.pointer (some ⟨w.heap.size,15,none⟩)) rfl ?_;refine plan.af 72 _ (.slice la s.l.length lc) rfl (hv:=(aC (ad:=⟨w.heap.size,15,none⟩) rfl (bZ.o.cell 15) isAgg38)) ?_;refine plan.af 73 _ (.int .i64 (s.l.length:Int)) rfl ?_;refine plan.af 74 _ (.pointer (some ⟨w.heap.size+1,15,none⟩)) rfl ?_;refine plan.af 75 _ (.slice va u.l.length vc) rfl (hv:=(aC (ad:=⟨w.heap.size+1,15,none⟩) rfl (cu.o.cell 15) isAgg38)) ?_;refine plan.af 76 _ (.int .i64 (u.l.length:Int)) rfl ?_;refine plan.af 77 _ (.bool false) rfl (hv:=(ax (n:=(s.l.length:Int)) (m:=(u.l.length:Int)) rfl (hid e10))) ?_;refine plan.af 78 _ (.bool false) rfl ?_;refine plan.aK de_ ?_;walk_nrm;go_wp2;clear d0 e0 d1 e1 d2 e2 d3 e3 d4 e4 d5 e5 d6 e6 Il hgf JX hgv d9 e9 d10 e10;go_loopw [5] (fun n wr=>∃k:Nat,k<=s.t.length/\n=.int .i64 (k:Int)/\Hid (s.t.take k=u.t.take k)/\Hid (Below W0.heap.size W0 wr)) (fun n _=>s.t.length - (intOf n).toNat);case atStart=>exact⟨0,Nat.zero_le _,rfl,hid rfl,hid (Below.refl _ _)⟩
 case round=>
  obtain⟨k,hk,rfl,qU,HB⟩:=hrel;have lm:=(HZ.o _ HB.o).1.cell 14;have Hy:=(HZ.o _ HB.o).2.cell 14;by_cases bI:k<s.t.length
  ·obtain⟨g,off,p,hg,jV,hp,c0⟩:=mM yE.o.t HB.o bI;obtain⟨g',off',q,hg',qX,hq,c1⟩:=mM HL2.o.t HB.o (k:=k) (by rw[<-Ls.o];exact bI);have HS:=hid (eu hp hq);have tN:=hid (fun(fQ:¬p=q)=>show ¬s.t=u.t from fun e=>by rw[e] at hp;exact fQ (Option.some.inj (hp.symm.trans hq)));have i1:(k:Int)<s.t.length:=by omega
   have i2:(k:Int)<u.t.length:=by have:=Ls.o;omega
   replace lm:(World.cell? _ ⟨w.heap.size,14,none⟩)=some (.slice (some ⟨g,off,none⟩) s.t.length tc):=lm.trans (by rw[<-hg];rfl);replace Hy:(World.cell? _ ⟨w.heap.size+1,14,none⟩)=some (.slice (some ⟨g',off',none⟩) u.t.length uc):=Hy.trans (by rw[<-hg'];rfl);clear hp hq hg hg';by_cases fQ:p=q
   ·exact t119
   ·obtain rfl:false=r:=by rw[<-hr.o];exact(decide_eq_false (fun e=>tN.o fQ (jf.1 e).2.2.2.1)).symm
    have hd:(p == q)=false:=by rw[beq_eq_false_iff_ne];exact fQ
    have hd2:(p != q)=true:=by simp[fQ]
    exact t56
  ·obtain rfl:k=s.t.length:=by omega
   have TV:Hid (s.t=u.t):=hid (by
    have:=qU.o;rw[List.take_of_length_le (Nat.le_refl _),List.take_of_length_le (by rw[Ls.o];exact Nat.le_refl _)] at this;exact this)
   clear Hy qU;go_wp2;clear lm;rename_i wr0;go_loopw [6] (fun n wr=>∃k:Nat,k<=s.l.length/\n=.int .i64 (k:Int)/\Hid (s.l.take k=u.l.take k)/\Hid (Below W0.heap.size W0 wr)) (fun n _=>s.l.length - (intOf n).toNat);case atStart=>exact⟨0,Nat.zero_le _,rfl,hid rfl,HB⟩
   case round=>
    obtain⟨k,hk,rfl,qU,HB⟩:=hrel;have lU:=(HZ.o _ HB.o).1.cell 15;have Oi:=(HZ.o _ HB.o).2.cell 15;by_cases bI:k<s.l.length
    ·obtain⟨g,off,p,hg,jV,hp,c0,c1,c2,c3,c4⟩:=eX yE.o.l HB.o bI;obtain⟨g',off',q,hg',qX,hq,a0,a1,a2,a3,a4⟩:=eX HL2.o.l HB.o (k:=k) (by rw[<-DW.o];exact bI);have HS:=hid (eu hp hq);have tN:=hid (fun(fQ:¬p=q)=>show ¬s.l=u.l from fun e=>by rw[e] at hp;exact fQ (Option.some.inj (hp.symm.trans hq)));have i1:(k:Int)<s.l.length:=by omega
     have i2:(k:Int)<u.l.length:=by have:=DW.o;omega
     replace lU:(World.cell? _ ⟨w.heap.size,15,none⟩)=some (.slice (some ⟨g,off,none⟩) s.l.length lc):=lU.trans (by rw[<-hg];rfl);replace Oi:(World.cell? _ ⟨w.heap.size+1,15,none⟩)=some (.slice (some ⟨g',off',none⟩) u.l.length vc):=Oi.trans (by rw[<-hg'];rfl);have dR:=fun W=>pV p q W
     clear hp hq hg hg';by_cases fQ:p=q
     ·have HPQ:=hid fQ;rw[decide_eq_true fQ] at dR
      exact t15
     ·obtain rfl:false=r:=by rw[<-hr.o];exact(decide_eq_false (fun e=>tN.o fQ (jf.1 e).2.2.2.2)).symm
      rw[decide_eq_false fQ] at dR
      exact t56
    ·obtain rfl:k=s.l.length:=by omega
     obtain rfl:true=r:=by
      rw[<-hr.o];have:=qU.o;rw[List.take_of_length_le (Nat.le_refl _),List.take_of_length_le (by rw[DW.o];exact Nat.le_refl _)] at this;exact(decide_eq_true (jf.2 ⟨⟨H0.o,H1.o,H2.o,H3.o,H4.o,H5.o,H6.o⟩,H7.o,H8.o,TV.o,this⟩)).symm
     go_wp2;go_ret;exact⟨rfl,HB0.o.trans (HB.o.mono HB0.o.size)⟩
end step
end Go.Proofs.Ytogfefdlffmioaa
