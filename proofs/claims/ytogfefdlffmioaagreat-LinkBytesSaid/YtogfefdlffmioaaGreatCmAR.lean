/- Contracts and lemmas that claims of this seat share: PenPS, StepPen, StepTS, LateS, StepTakeM, SchemaPrintF, PlanPair, StepRefSame. Each says its own conditions. -/
import Derived.Test.YtogfefdlffmioaaGreatCmWord
import Derived.WalkMore
import Derived.Deep.CutRange
import Derived.Test.YtogfefdlffmioaaGreatCmD
import Derived.Test.YtogfefdlffmioaaGreatCmAK
import Derived.Test.YtogfefdlffmioaaGreatCmJ
import Derived.Test.YtogfefdlffmioaaGreatCmZ
import Derived.Test.YtogfefdlffmioaaGreatCmAB
import Derived.Test.YtogfefdlffmioaaGreatCmAD
import Derived.Test.YtogfefdlffmioaaGreatCmI
import Derived.Test.YtogfefdlffmioaaGreatCmAE
import Derived.Test.YtogfefdlffmioaaGreatCmAQ
import Derived.Test.YtogfefdlffmioaaGreatCmK
import Derived.Test.YtogfefdlffmioaaGreatCmM
import Derived.Test.YtogfefdlffmioaaGreatCmAA
set_option linter.unusedVariables false
namespace Go.Proofs.YtogfefdlffmioaaGreat
open Go.Proofs.Tryz
namespace schema
open Go.RowKit pen
theorem count_int(lo b:Nat)(v:Value)(xs:List Nat)(w:World)(h:PenAt lo b v xs 0 w)(fF:lo<=w.heap.size)(n:Int)(h0:0<=n)(jF:n<=9223372036854775807)(hn:xs.length<=1000000):
  Calls prog 15 #[.pointer (some ⟨b,0,none⟩),.int .i64 n] w (Wrote lo b v xs (vb n.toNat) 0 w):=by
 obtain⟨m,rfl⟩:=Int.eq_ofNat_of_zero_le h0;exact count_any lo b v xs 0 w h fF m om_ om_
theorem pen_block{lo b:Nat}{v v':Value}{xs:List Nat}{bad:Int}{w w':World}(hp:PenAt lo b v xs bad w)(ht:Turns w b v w' v'){k:Nat}{t:TypeId}{cs:List Value}(hB:Block w k t cs)(hT:t≠5)(hk:k≠b):Block w' k t cs:=by
 refine(ht.block k hB.lt hk ?_).trans hB;intro e;rcases hp.2.2.2 with ⟨hv,_⟩ | ⟨g,cap,cur,hv,_,hg,_⟩
 ·rw[hv] at e;simp[Value.ownBlock] at e
 ·rw[hv] at e;simp[Value.ownBlock] at e;subst e;unfold Block at hB;rw[hg] at hB;exact hT ((Obj.cells.inj (Option.some.inj hB)).2.1.symm)
theorem turns_alloc(w:World)(b:Nat)(v:Value)(d:Obj):Turns w b v (w.alloc d) v:=turns_later ((Below.refl _ _).alloc (Nat.le_refl _) _)
def PS(g:Nat)(w1:World)(xs:List Nat)(v:Value)(w:World):Prop:=PenAt g g v xs 0 w/\Below g w1 w/\g<=w.heap.size
theorem PS.step{g:Nat}{w1:World}{xs ys:List Nat}{v v':Value}{w w':World}(h:PS g w1 xs v w)(hp:PenAt g g v' (xs++ys) 0 w')(ht:Turns w g v w' v'):PS g w1 (xs++ys) v' w':=
 ⟨hp,h.2.1.trans (ht.below h.2.2 (Nat.le_refl _) (fun x hx=>(h.1.lo x hx).1)),Nat.le_trans h.2.2 ht.size⟩
theorem PS.later{g:Nat}{w1:World}{xs:List Nat}{v:Value}{w w':World}(h:PS g w1 xs v w)(hb:Below w.heap.size w w'):PS g w1 xs v w':=⟨h.1.later hb,h.2.1.trans (hb.mono h.2.2),Nat.le_trans h.2.2 hb.size⟩
theorem PS.count{g:Nat}{w1:World}{xs:List Nat}{v:Value}{w:World}(h:PS g w1 xs v w)(n:Int)(h0:0<=n)(jF:n<=9223372036854775807)(hn:xs.length<=1000000):
  Calls prog 15 #[.pointer (some ⟨g,0,none⟩),.int .i64 n] w fun e w'=>e=.returned (.tuple #[])/\∃v',PS g w1 (xs++vb n.toNat) v' w'/\∀k t cs,Block w k t cs->t≠5->k≠g->Block w' k t cs:=
 (count_int g g v xs w h.1 h.2.2 n h0 jF hn).mono fun _ _ ⟨he,v',hp,ht⟩=>⟨he,v',h.step hp ht,fun k t cs hB hT hk=>pen_block h.1 ht hB hT hk⟩
end schema
namespace step
open Go.RowKit pen
open field (newB bytesOf)
open schema (PS pen_block below_out)
theorem fd_ty:(79:TypeId)≠5:=by decide
theorem st_ty:(84:TypeId)≠5:=by decide
theorem mem_ty:(115:TypeId)≠5:=by decide
def Stays(g:Nat)(w w':World):Prop:=∀k t cs,Block w k t cs->t≠5->k≠g->Block w' k t cs
theorem Stays.refl(g:Nat)(w:World):Stays g w w:=fun _ _ _ h _ _=>h
theorem Stays.trans{g:Nat}{a b c:World}(h:Stays g a b)(k:Stays g b c):Stays g a c:=fun i t cs hB ht hg=>k i t cs (h i t cs hB ht hg) ht hg
theorem Stays.later{g:Nat}{w w':World}(hb:Below w.heap.size w w'):Stays g w w':=fun _ _ _ h _ _=>h.later hb
def Pens(g:Nat)(w1:World)(xs ys:List Nat)(w:World)(e:Ending)(w':World):Prop:=e=.returned (.tuple #[])/\∃v',PS g w1 (xs++ys) v' w'/\Stays g w w'
theorem count_pen{g:Nat}{w1:World}{xs:List Nat}{v:Value}{w:World}(h:PS g w1 xs v w)(n:Int)(h0:0<=n)(jF:n<=9223372036854775807)(hn:xs.length<=1000000):
  Calls prog 15 #[.pointer (some ⟨g,0,none⟩),.int .i64 n] w (Pens g w1 xs (vb n.toNat) w):=h.count n h0 jF hn
theorem num_pen{g:Nat}{w1:World}{xs:List Nat}{v:Value}{w:World}(h:PS g w1 xs v w)(n:Int)(h0: -9223372036854775808<=n)(jF:n<=9223372036854775807)(hn:xs.length<=1000000):
  Calls prog 94 #[.pointer (some ⟨g,0,none⟩),.int .i64 n] w (Pens g w1 xs (vb (zig n)) w):=
 (num_any g g v xs 0 w h.1 h.2.2 n h0 jF om_).mono fun _ _ ⟨he,v',hp,ht⟩=>⟨he,v',h.step hp ht,fun k t cs hB hT hk=>pen_block h.1 ht hB hT hk⟩
theorem text_pen{g:Nat}{w1:World}{xs:List Nat}{v:Value}{w:World}(h:PS g w1 xs v w)(s:ByteArray)(hs:s.size<=1000)(hn:xs.length<=1000000):
  Calls prog 17 #[.pointer (some ⟨g,0,none⟩),.string s] w (Pens g w1 xs (vb s.size++bytesOf s) w):=by
 have hl:s.data.toList.length=s.size:=by rw[Array.length_toList];rfl
 have c:=text_any g g v xs 0 w h.1 h.2.2 s.data.toList om_ om_;rw[texts.strL_of,hl] at c;exact c.mono fun _ _ ⟨he,v',hp,ht⟩=>⟨he,v',h.step hp ht,fun k t cs hB hT hk=>pen_block h.1 ht hB hT hk⟩
theorem printField_any{g:Nat}{w1:World}{xs:List Nat}{v:Value}{w:World}(h:PS g w1 xs v w)(p:field.Fd)(hr:FieldOk p)(hn:xs.length<=900000):
  Calls prog 95 #[.pointer (some ⟨g,0,none⟩),zF p] w (Pens g w1 xs (fieldA p) w):=by
 have aW:=h.later (newB w (.cells (zF p) 79));have dV:=Block.new w 79 (zF p);have aH:w.heap.size≠g:=by have:=h.1.1.lt;omega
 have HK0:Hid (Stays g w (w.alloc (.cells (zF p) 79))):=hid (Stays.later (newB _ _));obtain⟨⟨i0,i1⟩,⟨k0,k1⟩,⟨a0,a1⟩,⟨b0,b1⟩,m0,m1⟩:=hr;have l1:=vb_ten p.id.toNat om_;have l2:=vb_ten p.kind.toNat om_;have l3:=vb_ten (zig p.lo) (zig_lt _ om_ om_);have l4:=vb_ten (zig p.hi) (zig_lt _ om_ om_);have iI:fieldA p=vb p.id.toNat++vb p.kind.toNat++vb (zig p.lo)++vb (zig p.hi)++vb p.most.toNat:=rfl;rw[iI];clear iI h;obtain⟨i,k,lw,hi,m⟩:=p;simp only at *;unfold Pens;have c1:=count_pen aW i i0 om_ om_;have C2:=hid (fun v w' (h:PS g w1 (xs++vb i.toNat) v w')=>count_pen h k k0 om_ (by simp only[List.length_append];omega));have C3:=hid (fun v w' (h:PS g w1 (xs++vb i.toNat++vb k.toNat) v w')=>num_pen h lw a0 a1 (by simp only[List.length_append];omega));have C4:=hid (fun v w' (h:PS g w1 (xs++vb i.toNat++vb k.toNat++vb (zig lw)) v w')=>num_pen h hi b0 b1 (by simp only[List.length_append];omega));have C5:=hid (fun v w' (h:PS g w1 (xs++vb i.toNat++vb k.toNat++vb (zig lw)++vb (zig hi)) v w')=>count_pen h m m0 om_ (by simp only[List.length_append];omega));have HB0:=hid dV;clear dV l1 l2 l3 l4 i0 i1 k0 k1 a0 a1 b0 b1 m0 m1 hn aW;go_enter func95,ntmps95;go_wp2_with (first
  | (go_at_call 15;((with_reducible refine c1.mono ?_);clear c1;rintro e w2 ⟨rfl,v2,aP,hK2⟩;have bZ:=hK2 _ _ _ HB0.o fd_ty aH;have z1:=bZ.cell 1;have c2:=C2.o _ _ aP;clear aP))
  | (go_at_call 15;((with_reducible refine c2.mono ?_);clear c2;rintro e w3 ⟨rfl,v3,cu,hK3⟩;have dF:=hK3 _ _ _ bZ fd_ty aH;have z2:=dF.cell 2;have c3:=C3.o _ _ cu;clear cu))
  | (go_at_call 94;((with_reducible refine c3.mono ?_);clear c3;rintro e w4 ⟨rfl,v4,bD,hK4⟩;have kJ:=hK4 _ _ _ dF fd_ty aH;have z3:=kJ.cell 3;have c4:=C4.o _ _ bD;clear bD))
  | (go_at_call 94;((with_reducible refine c4.mono ?_);clear c4;rintro e w5 ⟨rfl,v5,bP,hK5⟩;have jQ:=hK5 _ _ _ kJ fd_ty aH;have z4:=jQ.cell 4;have c5:=C5.o _ _ bP;clear bP))
  | (go_at_call 15;((with_reducible refine c5.mono ?_);clear c5;rintro e w6 ⟨rfl,v6,bF,hK6⟩;have HS6:=hid bF;clear bF)))
 exact ret0 rfl rfl ⟨rfl,v6,by simpa only[List.append_assoc] using HS6.o,HK0.o.trans (hK2.trans (hK3.trans (hK4.trans (hK5.trans hK6))))⟩
end step
namespace step
open Go.RowKit pen
open field (newB)
open schema (blk_but but_store EyeAt.blk eye_past eye_grown but_grown fdV StayT stay_but stay_grown stay_store stay_below own_low exec_push own_fds own_cap)
theorem exec_push_int{o:Oper}{a:Act}{w:World}{x y:Operand}{u:Value}{B n g:Nat}{L:List Int}{p:Int}
  (ho:o.op=.call { callee:=.builtin .append,args:=#[x,y],argTypes:=#[82,82]})
  (hown:w.ownsRow B 3 1 u n (intV L)) (hb:Block w g 3 [.int .i64 p]) (hn:n<=1000) (hB:B<=w.heap.size) (hx:a.eval x=u:=by kernel_rfl) (hy:a.eval y=.slice (some ⟨g,0,none⟩) 1 1:=by kernel_rfl):
  ∃q w',(execOp a.eval o).run prog w=.ok (.value q) w'/\w'.ownsRow B 3 1 q (n+1) (intV (L++[p]))/\w.grownBy w' u.ownBlock:=by
 obtain⟨i0,hi,hz0,hz1,hz2⟩:=int_info_parts;obtain⟨q,w',h1,h2,h3⟩:=exec_push (sz:=1) (bytes:=8) underlying82 hi hz0 hz1 hz2 (by simp[Value.cells]) om_ ho hx hy hown (news:=[.int .i64 p]) rfl (fun j v hj=>(hb.cell j).trans hj) (by intro v hv;rw[List.mem_singleton.1 hv];rfl) om_ om_ hB;exact⟨q,w',h1,by unfold intV at h2 ⊢;rw[List.map_append];exact h2,h3⟩
theorem exec_put_int{o:Oper}{a:Act}{w:World}{x y:Operand}{ad:Addr}{v:Value}{p:Option Addr}{n c:Nat}(ho:o.op=.store 82 x y)(hc:w.cell? ad=some v)(hf:w.frozen? ad=false)(hx:a.eval x=.pointer (some ad):=by kernel_rfl)(hy:a.eval y=.slice p n c:=by kernel_rfl):(execOp a.eval o).run prog w=.ok .skip (w.setCell ad (.slice p n c)):=by
 unfold execOp;rw[ho];simp only[hx,hy];go_simp
theorem own_past{w:World}{B e sz n S o:Nat}{u v:Value}{xs:List Value}(h:w.ownsRow B e sz u n xs)(hS:S<B):(w.setCell ⟨S,o,none⟩ v).ownsRow B e sz u n xs:=
 ownsRow_heap h (fun g hg=>by have:=World.ownsRow.lt h g hg;exact Below.heap_setCell w ⟨S,o,none⟩ v g (by show g≠S;omega))
theorem own_but{w w':World}{b B e sz n:Nat}{u:Value}{xs:List Value}(h:w.ownsRow B e sz u n xs)(hu:But w.heap.size b w w')(hb:b<B):w'.ownsRow B e sz u n xs:=
 ownsRow_heap h (fun g hg=>by have:=World.ownsRow.lt h g hg;exact hu.2.2.2.2 g om_ om_)
structure TS (Ty:TypeId) (b T:Nat) (w0:World) (s:Sp) (e:Sight) (ta:Option Addr) (tc:Nat) (la:Option Addr) (lc:Nat) (wr:World):Prop where
 f:Block wr T 84 [.int .i64 s.op,.int .i64 s.fm,.int .i64 s.fd,.int .i64 s.pl,.int .i64 s.tt,.int .i64 s.a,.int .i64 s.b,.int .i64 s.f.id,.int .i64 s.f.kind,.int .i64 s.f.lo,.int .i64 s.f.hi,.int .i64 s.f.most,.int .i64 s.v.n,.string s.v.s,.slice ta s.t.length tc,.slice la s.l.length lc]
 rt:wr.ownsRow (T+1) 3 1 (.slice ta s.t.length tc) s.t.length (intV s.t)
 rl:wr.ownsRow (T+1) 79 5 (.slice la s.l.length lc) s.l.length (fdV s.l)
 eye:EyeAt Ty b e wr
 but:But T b w0 wr
 low:b<T
variable {Ty:TypeId} {b T:Nat} {w0:World} {s:Sp} {e:Sight} {ta la:Option Addr} {tc lc:Nat}
theorem TS.later{w w':World}(h:TS Ty b T w0 s e ta tc la lc w)(hb:Below w.heap.size w w'):TS Ty b T w0 s e ta tc la lc w':=
 ⟨h.f.later hb,ownsRow_later h.rt hb,ownsRow_later h.rl hb,h.eye.later hb,h.but.trans ((Below.but hb).mono (Nat.le_of_lt h.f.lt)),h.low⟩
theorem TS.call{w w':World}{e':Sight}(h:TS Ty b T w0 s e ta tc la lc w)(hE:EyeAt Ty b e' w')(hu:But w.heap.size b w w'):TS Ty b T w0 s e' ta tc la lc w':=
 ⟨blk_but h.f hu (Nat.ne_of_gt h.low),own_but h.rt hu (by have:=h.low;omega),own_but h.rl hu (by have:=h.low;omega),hE,h.but.trans (hu.mono (Nat.le_of_lt h.f.lt)),h.low⟩
theorem TS.put{w:World}(h:TS Ty b T w0 s e ta tc la lc w)(j:Nat)(v:Value)(s':Sp)(hs: [.int .i64 s'.op,.int .i64 s'.fm,.int .i64 s'.fd,.int .i64 s'.pl,.int .i64 s'.tt,.int .i64 s'.a,.int .i64 s'.b,.int .i64 s'.f.id,.int .i64 s'.f.kind,.int .i64 s'.f.lo,.int .i64 s'.f.hi,.int .i64 s'.f.most,.int .i64 s'.v.n,.string s'.v.s,.slice ta s'.t.length tc,.slice la s'.l.length lc]=[.int .i64 s.op,.int .i64 s.fm,.int .i64 s.fd,.int .i64 s.pl,.int .i64 s.tt,.int .i64 s.a,.int .i64 s.b,.int .i64 s.f.id,.int .i64 s.f.kind,.int .i64 s.f.lo,.int .i64 s.f.hi,.int .i64 s.f.most,.int .i64 s.v.n,.string s.v.s,.slice ta s.t.length tc,.slice la s.l.length lc].set j v)(ht:s'.t=s.t)(hl:s'.l=s.l):TS Ty b T w0 s' e ta tc la lc (w.setCell ⟨T,j,none⟩ v):=by
 refine⟨?_, ?_, ?_,eye_past h.eye h.low ((But.refl _ T w).setCell j v),but_store h.but (Nat.le_refl _) j v,h.low⟩
 ·rw[hs];exact h.f.setCell j v
 ·rw[ht];exact own_past h.rt om_
 ·rw[hl];exact own_past h.rl om_
theorem int_fd:(3:TypeId)≠79:=by decide
theorem TS.held{w w':World}{B ee sz n:Nat}{u:Value}{xs:List Value}(h:TS Ty b T w0 s e ta tc la lc w)(ho:w.ownsRow (T+1) ee sz u n xs)(hg:w.grownBy w' u.ownBlock):Block w' T 84 [.int .i64 s.op,.int .i64 s.fm,.int .i64 s.fd,.int .i64 s.pl,.int .i64 s.tt,.int .i64 s.a,.int .i64 s.b,.int .i64 s.f.id,.int .i64 s.f.kind,.int .i64 s.f.lo,.int .i64 s.f.hi,.int .i64 s.f.most,.int .i64 s.v.n,.string s.v.s,.slice ta s.t.length tc,.slice la s.l.length lc]:=
 (hg.block T h.f.lt (by intro he;have:=World.ownsRow.lt ho T he.symm;omega)).trans h.f
theorem TS.pushT{w w':World}{p:Int}{q:Option Addr}{qc:Nat}(h:TS Ty b T w0 s e ta tc la lc w)(hg:w.grownBy w' (Value.slice ta s.t.length tc).ownBlock)(ho:w'.ownsRow (T+1) 3 1 (.slice q (s.t.length+1) qc) (s.t.length+1) (intV (s.t++[p]))):
  TS Ty b T w0 { s with t:=s.t++[p]} e q qc la lc (w'.setCell ⟨T,14,none⟩ (.slice q (s.t.length+1) qc)):=by
 have hF:=h.held (B:=0) h.rt hg;have lU:(s.t++[p]).length=s.t.length+1:=by simp
 refine⟨?_, ?_,own_past ((stay_grown 79 h.rt hg int_fd).row h.rl) om_, ?_, ?_,h.low⟩
 ·have:=hF.setCell 14 (.slice q (s.t.length+1) qc);rw[<-lU] at this ⊢;exact this
 ·rw[lU];exact own_past ho om_
 ·exact eye_past (eye_grown h.eye h.rt hg (by have:=h.low;omega)) h.low ((But.refl _ T w').setCell 14 _)
 ·exact but_store (but_grown h.but (own_low h.rt om_) hg (Nat.le_of_lt h.f.lt)) (Nat.le_refl _) 14 _
theorem TS.pushL{w w':World}{p:field.Fd}{q:Option Addr}{qc:Nat}(h:TS Ty b T w0 s e ta tc la lc w)(hg:w.grownBy w' (Value.slice la s.l.length lc).ownBlock)(ho:w'.ownsRow (T+1) 79 5 (.slice q (s.l.length+1) qc) (s.l.length+1) (fdV (s.l++[p]))):
  TS Ty b T w0 { s with l:=s.l++[p]} e ta tc q qc (w'.setCell ⟨T,15,none⟩ (.slice q (s.l.length+1) qc)):=by
 have hF:=h.held (B:=0) h.rl hg;have lU:(s.l++[p]).length=s.l.length+1:=by simp
 refine⟨?_,own_past ((stay_grown 3 h.rl hg (Ne.symm int_fd)).row h.rt) om_, ?_, ?_, ?_,h.low⟩
 ·have:=hF.setCell 15 (.slice q (s.l.length+1) qc);rw[<-lU] at this ⊢;exact this
 ·rw[lU];exact own_past ho om_
 ·exact eye_past (eye_grown h.eye h.rl hg (by have:=h.low;omega)) h.low ((But.refl _ T w').setCell 15 _)
 ·exact but_store (but_grown h.but (own_low h.rl om_) hg (Nat.le_of_lt h.f.lt)) (Nat.le_refl _) 15 _
theorem TS.start{w1:World}(hE:EyeAt Ty b e w1)(op:Int):TS Ty b w1.heap.size w1 (startS op) e none 0 none 0 (w1.alloc (.cells #[.int .i64 op,.int .i64 0,.int .i64 0,.int .i64 0,.int .i64 0,.int .i64 0,.int .i64 0,.int .i64 0,.int .i64 0,.int .i64 0,.int .i64 0,.int .i64 0,.int .i64 0,.string ⟨#[]⟩,.slice none 0 0,.slice none 0 0] 84)):=
 ⟨Block.new w1 84 [.int .i64 op,.int .i64 0,.int .i64 0,.int .i64 0,.int .i64 0,.int .i64 0,.int .i64 0,.int .i64 0,.int .i64 0,.int .i64 0,.int .i64 0,.int .i64 0,.int .i64 0,.string ⟨#[]⟩,.slice none 0 0,.slice none 0 0],World.ownsRow_nil _ _ _ _,World.ownsRow_nil _ _ _ _,hE.later (newB _ _),Below.but (newB _ _),hE.lt⟩
theorem TS.lists{w:World}(h:TS Ty b T w0 s e ta tc la lc w):Lists w s ta la:=
 ⟨(own_ints h.rt).1,(own_fds h.rl).1,Nat.le_trans (own_cap h.rt).1 (own_cap h.rt).2,Nat.le_trans (own_cap h.rl).1 (own_cap h.rl).2⟩
end step
namespace plan
open Go Go.RowKit
section
variable {P:Program} {md:Region.Mode} {Q:Exit->Act->World->Prop} {l:List Oper}
end
end plan
theorem t122{P:Prop}(h:P:=by
 have HS6:=hid bF;have HK6:=hid hK6;clear bF hF5 ho5 hg5 bD cu hS hK3 hK4 hK6;walk_nrm;go_wp2;exact⟨⟨k+1,by omega,by go_num,hid ⟨_,_,_,_,by rw[HT1.o,HT2.o,<-List.append_assoc,hZ.o];exact HS6.o⟩,hid (HK.o.trans HK6.o)⟩,by simp[intOf];omega⟩):P:=h
theorem t51{P:Prop}(h:P:=by
 rintro en w3 ⟨rfl,hE3,hu3⟩;exact⟨_,rfl,rfl,hS.call hE3 hu3,stay_eye hS.eye eye_ty hu3⟩):P:=h
theorem t36{P:Prop}(h:P:=by
 obtain rfl:k=N:=by omega
 have HSE:=hid hS;clear hS HS;go_wp2;exact ret0 rfl rfl ⟨rfl,⟨_,_,_,_,by rw[HTT.o];exact HSE.o⟩,HK.o⟩):P:=h
theorem t7{P:Prop}(h:P:=by
 rintro v w3 ⟨rfl,cu,hK3⟩;have bD:=cu.later (newB w3 (.cells #[.int .i64 (p:Int)] 3));have hK4:StayM wr (w3.alloc (.cells #[.int .i64 (p:Int)] 3)):=hK3.trans (stay_below _ (newB w3 (.cells #[.int .i64 (p:Int)] 3)));refine plan.oneE 8 _ (fun q w5=>w5.ownsRow (T+1) 3 1 q (Z.length+1) (intV (Z++[(p:Int)]))/\(w3.alloc (.cells #[.int .i64 (p:Int)] 3)).grownBy w5 (Value.slice ta' Z.length tc').ownBlock) rfl rfl
  (exec_push_int (g:=w3.heap.size) rfl bD.rt (Block.new w3 3 [.int .i64 (p:Int)]) HLEN.o bD.f.lt) ?_
 rintro q w5 ⟨ho5,hg5⟩;have hF5:=bD.held (B:=0) bD.rt hg5;obtain⟨qa,qc,rfl,_⟩:=ownsRow_slice ho5;have bF:=bD.pushT hg5 ho5;have hK6:StayM wr (w5.setCell ⟨T,14,none⟩ (.slice qa (Z.length+1) qc)):=hK4.trans ((stay_grown _ bD.rt hg5 de_).trans (stay_store _ hF5 de_ 14 _));refine plan.oneT (w1:=w5) 9 _ (.pointer (some ⟨T,0,none⟩)) rfl rfl ?_;refine plan.oneT (w1:=w5) 10 _ (.pointer (some ⟨T,14,none⟩)) rfl rfl ?_;refine plan.lastT (w1:=w5.setCell ⟨T,14,none⟩ (.slice qa (Z.length+1) qc)) 11 _ rfl rfl rfl (exec_put_int (ad:=⟨T,14,none⟩) rfl (hF5.cell 14) (hF5.frozen 14)) ?_
 exact t122):P:=h
namespace step
open Go.RowKit pen
open field (newB)
open schema (eCount_le StayT stay_but stay_grown stay_store stay_below EyeAt.blk fdV fdC exec_push_fd exec_put_fd exec_cell_slice')
variable {Ty:TypeId} {b T:Nat} {w0:World} {s:Sp} {e:Sight} {ta la:Option Addr} {tc lc:Nat}
abbrev StayM(w w':World):Prop:=StayT 115 w w'
theorem stay_eye{w w':World}(hE:EyeAt Ty b e w)(hT:Ty≠115)(hu:But w.heap.size b w w'):StayM w w':=by
 obtain⟨cs,hB⟩:=schema.EyeAt.blk hE;exact stay_but _ hu hB hT
theorem stay_put{w:World}(h:TS Ty b T w0 s e ta tc la lc w)(j:Nat)(v:Value):StayM w (w.setCell ⟨T,j,none⟩ v):=stay_store _ h.f de_ j v
theorem eye_ty:(123:TypeId)≠115:=by decide
theorem TS.putF{w:World}(h:TS Ty b T w0 s e ta tc la lc w)(p:field.Fd):TS Ty b T w0 { s with f:=p} e ta tc la lc (((((w.setCell ⟨T,7,none⟩ (.int .i64 p.id)).setCell ⟨T,8,none⟩ (.int .i64 p.kind)).setCell ⟨T,9,none⟩ (.int .i64 p.lo)).setCell ⟨T,10,none⟩ (.int .i64 p.hi)).setCell ⟨T,11,none⟩ (.int .i64 p.most))/\
  StayM w (((((w.setCell ⟨T,7,none⟩ (.int .i64 p.id)).setCell ⟨T,8,none⟩ (.int .i64 p.kind)).setCell ⟨T,9,none⟩ (.int .i64 p.lo)).setCell ⟨T,10,none⟩ (.int .i64 p.hi)).setCell ⟨T,11,none⟩ (.int .i64 p.most)):=by
 have h1:=h.put 7 (.int .i64 p.id) { s with f:={ s.f with id:=p.id}} rfl rfl rfl;have h2:=h1.put 8 (.int .i64 p.kind) { s with f:={ s.f with id:=p.id,kind:=p.kind}} rfl rfl rfl;have h3:=h2.put 9 (.int .i64 p.lo) { s with f:={ s.f with id:=p.id,kind:=p.kind,lo:=p.lo}} rfl rfl rfl;have h4:=h3.put 10 (.int .i64 p.hi) { s with f:={ s.f with id:=p.id,kind:=p.kind,lo:=p.lo,hi:=p.hi}} rfl rfl rfl;have h5:=h4.put 11 (.int .i64 p.most) { s with f:=p} rfl rfl rfl;exact⟨h5,(stay_put h _ _).trans ((stay_put h1 _ _).trans ((stay_put h2 _ _).trans ((stay_put h3 _ _).trans (stay_put h4 _ _))))⟩
theorem TS.putV{w:World}(h:TS Ty b T w0 s e ta tc la lc w)(p:field.Va):TS Ty b T w0 { s with v:=p} e ta tc la lc ((w.setCell ⟨T,12,none⟩ (.int .i64 p.n)).setCell ⟨T,13,none⟩ (.string p.s))/\
  StayM w ((w.setCell ⟨T,12,none⟩ (.int .i64 p.n)).setCell ⟨T,13,none⟩ (.string p.s)):=by
 have h1:=h.put 12 (.int .i64 p.n) { s with v:={ s.v with n:=p.n}} rfl rfl rfl;have h2:=h1.put 13 (.string p.s) { s with v:=p} rfl rfl rfl;exact⟨h2,(stay_put h _ _).trans (stay_put h1 _ _)⟩
def TakesM(b T:Nat)(w0:World)(s:Sp)(e:Sight)(m:Nat)(w:World)(en:Ending)(w':World):Prop:=
 en=.returned (.tuple #[])/\(∃ta tc la lc,TS 123 b T w0 (run (lets m) (s,e)).1 (run (lets m) (s,e)).2 ta tc la lc w')/\StayM w w'
set_option maxRecDepth 20000 in
set_option maxHeartbeats 1600000 in
theorem tm0(w:World)(h:TS 123 b T w0 s e ta tc la lc w):Calls prog 85 #[.pointer (some ⟨b,0,none⟩),.pointer (some ⟨T,0,none⟩),.int .i64 0] w (TakesM b T w0 s e 0 w):=by
 have H0:=hid h;obtain⟨A,e1,hA⟩:∃A q,eCount 200 e=(A,q):=⟨_,_,rfl⟩;have hT:run (lets 0) (s,e)=({ s with fm:=(A:Int)},e1):=by
  show(({ s with fm:=((eCount 200 e).1:Int)}:Sp),(eCount 200 e).2)=_
  rw[hA]
 have c1:=eyeCount_any b e w h.eye 200 om_ om_;rw[hA] at c1;have HTT:=hid hT;clear hT;unfold TakesM;unfold Saw at c1;clear hA h;go_enter func85,ntmps85;go_wp2_with (go_at_call 49;((with_reducible refine c1.mono ?_);clear c1;rintro en w1 ⟨rfl,hE1,hu1⟩;have hT1:=H0.o.call hE1 hu1;have bI:=hT1.f;have x1:=bI.cell 1;have p1:=bI.frozen 1;have HT1:=hid hT1;have HE1:=hid hE1;have HU1:=hid hu1;clear hT1 bI hE1 hu1));exact ret0 rfl rfl ⟨rfl,⟨_,_,_,_,by rw[HTT.o];exact HT1.o.put 1 (.int .i64 (A:Int)) _ rfl rfl rfl⟩,(stay_eye H0.o.eye eye_ty HU1.o).trans (stay_put HT1.o _ _)⟩
set_option maxRecDepth 20000 in
set_option maxHeartbeats 1600000 in
theorem tm1(w:World)(h:TS 123 b T w0 s e ta tc la lc w):Calls prog 85 #[.pointer (some ⟨b,0,none⟩),.pointer (some ⟨T,0,none⟩),.int .i64 1] w (TakesM b T w0 s e 1 w):=by
 have H0:=hid h;obtain⟨A,e1,hA⟩:∃A q,eCount 255 e=(A,q):=⟨_,_,rfl⟩;have hT:run (lets 1) (s,e)=({ s with fd:=(A:Int)},e1):=by
  show(({ s with fd:=((eCount 255 e).1:Int)}:Sp),(eCount 255 e).2)=_
  rw[hA]
 have c1:=eyeCount_any b e w h.eye 255 om_ om_;rw[hA] at c1;have HTT:=hid hT;clear hT;unfold TakesM;unfold Saw at c1;clear hA h;go_enter func85,ntmps85;go_wp2_with (go_at_call 49;((with_reducible refine c1.mono ?_);clear c1;rintro en w1 ⟨rfl,hE1,hu1⟩;have hT1:=H0.o.call hE1 hu1;have bI:=hT1.f;have x2:=bI.cell 2;have p2:=bI.frozen 2;have HT1:=hid hT1;have HE1:=hid hE1;have HU1:=hid hu1;clear hT1 bI hE1 hu1));exact ret0 rfl rfl ⟨rfl,⟨_,_,_,_,by rw[HTT.o];exact HT1.o.put 2 (.int .i64 (A:Int)) _ rfl rfl rfl⟩,(stay_eye H0.o.eye eye_ty HU1.o).trans (stay_put HT1.o _ _)⟩
set_option maxRecDepth 20000 in
set_option maxHeartbeats 1600000 in
theorem tm2(w:World)(h:TS 123 b T w0 s e ta tc la lc w):Calls prog 85 #[.pointer (some ⟨b,0,none⟩),.pointer (some ⟨T,0,none⟩),.int .i64 2] w (TakesM b T w0 s e 2 w):=by
 have H0:=hid h;obtain⟨A,e1,hA⟩:∃A q,eCount 8 e=(A,q):=⟨_,_,rfl⟩;have hT:run (lets 2) (s,e)=({ s with pl:=(A:Int)},e1):=by
  show(({ s with pl:=((eCount 8 e).1:Int)}:Sp),(eCount 8 e).2)=_
  rw[hA]
 have c1:=eyeCount_any b e w h.eye 8 om_ om_;rw[hA] at c1;have HTT:=hid hT;clear hT;unfold TakesM;unfold Saw at c1;clear hA h;go_enter func85,ntmps85;go_wp2_with (go_at_call 49;((with_reducible refine c1.mono ?_);clear c1;rintro en w1 ⟨rfl,hE1,hu1⟩;have hT1:=H0.o.call hE1 hu1;have bI:=hT1.f;have x3:=bI.cell 3;have p3:=bI.frozen 3;have HT1:=hid hT1;have HE1:=hid hE1;have HU1:=hid hu1;clear hT1 bI hE1 hu1));exact ret0 rfl rfl ⟨rfl,⟨_,_,_,_,by rw[HTT.o];exact HT1.o.put 3 (.int .i64 (A:Int)) _ rfl rfl rfl⟩,(stay_eye H0.o.eye eye_ty HU1.o).trans (stay_put HT1.o _ _)⟩
set_option maxRecDepth 20000 in
set_option maxHeartbeats 1600000 in
theorem tm3(w:World)(h:TS 123 b T w0 s e ta tc la lc w):Calls prog 85 #[.pointer (some ⟨b,0,none⟩),.pointer (some ⟨T,0,none⟩),.int .i64 3] w (TakesM b T w0 s e 3 w):=by
 have H0:=hid h;obtain⟨A,e1,hA⟩:∃A q,eCount 255 e=(A,q):=⟨_,_,rfl⟩;have hT:run (lets 3) (s,e)=({ s with tt:=(A:Int)},e1):=by
  show(({ s with tt:=((eCount 255 e).1:Int)}:Sp),(eCount 255 e).2)=_
  rw[hA]
 have c1:=eyeCount_any b e w h.eye 255 om_ om_;rw[hA] at c1;have HTT:=hid hT;clear hT;unfold TakesM;unfold Saw at c1;clear hA h;go_enter func85,ntmps85;go_wp2_with (go_at_call 49;((with_reducible refine c1.mono ?_);clear c1;rintro en w1 ⟨rfl,hE1,hu1⟩;have hT1:=H0.o.call hE1 hu1;have bI:=hT1.f;have x4:=bI.cell 4;have p4:=bI.frozen 4;have HT1:=hid hT1;have HE1:=hid hE1;have HU1:=hid hu1;clear hT1 bI hE1 hu1));exact ret0 rfl rfl ⟨rfl,⟨_,_,_,_,by rw[HTT.o];exact HT1.o.put 4 (.int .i64 (A:Int)) _ rfl rfl rfl⟩,(stay_eye H0.o.eye eye_ty HU1.o).trans (stay_put HT1.o _ _)⟩
set_option maxRecDepth 20000 in
set_option maxHeartbeats 1600000 in
theorem tm4(w:World)(h:TS 123 b T w0 s e ta tc la lc w):Calls prog 85 #[.pointer (some ⟨b,0,none⟩),.pointer (some ⟨T,0,none⟩),.int .i64 4] w (TakesM b T w0 s e 4 w):=by
 have H0:=hid h;obtain⟨A,e1,hA⟩:∃A q,eCount 1048576 e=(A,q):=⟨_,_,rfl⟩;have hT:run (lets 4) (s,e)=({ s with a:=(A:Int)},e1):=by
  show(({ s with a:=((eCount 1048576 e).1:Int)}:Sp),(eCount 1048576 e).2)=_
  rw[hA]
 have c1:=eyeCount_any b e w h.eye 1048576 om_ om_;rw[hA] at c1;have HTT:=hid hT;clear hT;unfold TakesM;unfold Saw at c1;clear hA h;go_enter func85,ntmps85;go_wp2_with (go_at_call 49;((with_reducible refine c1.mono ?_);clear c1;rintro en w1 ⟨rfl,hE1,hu1⟩;have hT1:=H0.o.call hE1 hu1;have bI:=hT1.f;have x5:=bI.cell 5;have p5:=bI.frozen 5;have HT1:=hid hT1;have HE1:=hid hE1;have HU1:=hid hu1;clear hT1 bI hE1 hu1));exact ret0 rfl rfl ⟨rfl,⟨_,_,_,_,by rw[HTT.o];exact HT1.o.put 5 (.int .i64 (A:Int)) _ rfl rfl rfl⟩,(stay_eye H0.o.eye eye_ty HU1.o).trans (stay_put HT1.o _ _)⟩
set_option maxRecDepth 20000 in
set_option maxHeartbeats 1600000 in
theorem tm5(w:World)(h:TS 123 b T w0 s e ta tc la lc w):Calls prog 85 #[.pointer (some ⟨b,0,none⟩),.pointer (some ⟨T,0,none⟩),.int .i64 5] w (TakesM b T w0 s e 5 w):=by
 have H0:=hid h;obtain⟨A,e1,hA⟩:∃A q,eInt e=(A,q):=⟨_,_,rfl⟩;obtain⟨B,e2,hB⟩:∃A q,eInt e1=(A,q):=⟨_,_,rfl⟩;have hT:run (lets 5) (s,e)=({ s with a:=A,b:=B},e2):=by
  show(({ s with a:=(eInt e).1,b:=(eInt (eInt e).2).1}:Sp),(eInt (eInt e).2).2)=_
  rw[hA];simp only;rw[hB]
 have c1:=eyeNum_any b e w h.eye;have c2:=fun w' hE=>eyeNum_any b e1 w' hE
 rw[hA] at c1;rw[hB] at c2;have HTT:=hid hT;clear hT;unfold TakesM;unfold Saw at c1 c2;clear hA hB h;go_enter func85,ntmps85;go_wp2_with (first
  | (go_at_call 100;((with_reducible refine c1.mono ?_);clear c1;rintro en w1 ⟨rfl,hE1,hu1⟩;have HT1:=hid (H0.o.call hE1 hu1);have HE1:=hid hE1;have HU1:=hid hu1;clear hE1 hu1))
  | (go_at_call 100;((with_reducible refine(c2 _ HE1.o).mono ?_);clear c2;rintro en w2 ⟨rfl,hE2,hu2⟩;have hT2:=HT1.o.call hE2 hu2;have fD:=hT2.f;have x5:=fD.cell 5;have p5:=fD.frozen 5;have x6:=fD.cell 6;have p6:=fD.frozen 6;have HT2:=hid hT2;have HU2:=hid hu2;clear hT2 fD hE2 hu2)))
 have h3:=HT2.o.put 5 (.int .i64 A) { s with a:=A} rfl rfl rfl;exact ret0 rfl rfl ⟨rfl,⟨_,_,_,_,by rw[HTT.o];exact h3.put 6 (.int .i64 B) _ rfl rfl rfl⟩,(stay_eye H0.o.eye eye_ty HU1.o).trans ((stay_eye HE1.o eye_ty HU2.o).trans ((stay_put HT2.o _ _).trans (stay_put h3 _ _)))⟩
set_option maxRecDepth 20000 in
set_option maxHeartbeats 1600000 in
theorem tm8(w:World)(h:TS 123 b T w0 s e ta tc la lc w):Calls prog 85 #[.pointer (some ⟨b,0,none⟩),.pointer (some ⟨T,0,none⟩),.int .i64 8] w (TakesM b T w0 s e 8 w):=by
 have H0:=hid h;obtain⟨p,e1,hA⟩:∃A q,takeA e=(A,q):=⟨_,_,rfl⟩;have hT:run (lets 8) (s,e)=({ s with f:=p},e1):=by
  show(({ s with f:=(takeA e).1}:Sp),(takeA e).2)=_
  rw[hA]
 have c1:=parseField_any b e w h.eye;rw[hA] at c1;have HTT:=hid hT;clear hT;unfold TakesM;unfold Saw at c1;simp only[field.Fd.val] at c1;clear hA h;go_enter func85,ntmps85;go_wp2_with (go_at_call 101;((with_reducible refine c1.mono ?_);clear c1;rintro en w1 ⟨rfl,hE1,hu1⟩;have hT1:=H0.o.call hE1 hu1;have bI:=hT1.f;have x7:=bI.cell 7;have p7:=bI.frozen 7;have x8:=bI.cell 8;have p8:=bI.frozen 8;have x9:=bI.cell 9;have p9:=bI.frozen 9;have x10:=bI.cell 10;have p10:=bI.frozen 10;have x11:=bI.cell 11;have p11:=bI.frozen 11;have HT1:=hid hT1;have HE1:=hid hE1;have HU1:=hid hu1;clear hT1 bI hE1 hu1));exact ret0 rfl rfl ⟨rfl,⟨_,_,_,_,by rw[HTT.o];exact(HT1.o.putF p).1⟩,(stay_eye H0.o.eye eye_ty HU1.o).trans (HT1.o.putF p).2⟩
set_option maxRecDepth 20000 in
set_option maxHeartbeats 1600000 in
theorem tm10(w:World)(h:TS 123 b T w0 s e ta tc la lc w):Calls prog 85 #[.pointer (some ⟨b,0,none⟩),.pointer (some ⟨T,0,none⟩),.int .i64 10] w (TakesM b T w0 s e 10 w):=by
 have H0:=hid h;obtain⟨n,e1,hB⟩:∃A q,eInt e=(A,q):=⟨_,_,rfl⟩;obtain⟨t,e2,hC⟩:∃A q,eText 32 e1=(A,q):=⟨_,_,rfl⟩;have hT:run (lets 10) (s,e)=({ s with v:=⟨n,strOf t⟩},e2):=by
  show(({ s with v:=⟨(eInt e).1,strOf (eText 32 (eInt e).2).1⟩}:Sp),(eText 32 (eInt e).2).2)=_
  rw[hB];simp only;rw[hC]
 have c1:=eyeNum_any b e w h.eye;have c2:=fun w' hE=>eyeText_any b e1 w' hE 32 om_ om_
 rw[hB] at c1;rw[hC] at c2;have HTT:=hid hT;clear hT;unfold TakesM;unfold Saw at c1 c2;clear hB hC h;go_enter func85,ntmps85;go_wp2_with (first
  | (go_at_call 100;((with_reducible refine c1.mono ?_);clear c1;rintro en w1 ⟨rfl,hE1,hu1⟩;have HT1:=hid (H0.o.call hE1 hu1);have HE1:=hid hE1;have HU1:=hid hu1;clear hE1 hu1))
  | (go_at_call 50;((with_reducible refine(c2 _ HE1.o).mono ?_);clear c2;rintro en w2 ⟨rfl,hE2,hu2⟩;have hT2:=HT1.o.call hE2 hu2;have fD:=hT2.f;have x12:=fD.cell 12;have p12:=fD.frozen 12;have x13:=fD.cell 13;have p13:=fD.frozen 13;have HT2:=hid hT2;have HU2:=hid hu2;clear hT2 fD hE2 hu2)))
 exact ret0 rfl rfl ⟨rfl,⟨_,_,_,_,by rw[HTT.o];exact(HT2.o.putV ⟨n,strOf t⟩).1⟩,(stay_eye H0.o.eye eye_ty HU1.o).trans ((stay_eye HE1.o eye_ty HU2.o).trans (HT2.o.putV ⟨n,strOf t⟩).2)⟩
set_option maxRecDepth 20000 in
set_option maxHeartbeats 1600000 in
theorem tm9(w:World)(h:TS 123 b T w0 s e ta tc la lc w):Calls prog 85 #[.pointer (some ⟨b,0,none⟩),.pointer (some ⟨T,0,none⟩),.int .i64 9] w (TakesM b T w0 s e 9 w):=by
 have H0:=hid h;obtain⟨p,e1,hA⟩:∃A q,takeA e=(A,q):=⟨_,_,rfl⟩;obtain⟨n,e2,hB⟩:∃A q,eInt e1=(A,q):=⟨_,_,rfl⟩;obtain⟨t,e3,hC⟩:∃A q,eText 32 e2=(A,q):=⟨_,_,rfl⟩;have hT:run (lets 9) (s,e)=({ s with f:=p,v:=⟨n,strOf t⟩},e3):=by
  show(({ s with f:=(takeA e).1,v:=⟨(eInt (takeA e).2).1,strOf (eText 32 (eInt (takeA e).2).2).1⟩}:Sp),(eText 32 (eInt (takeA e).2).2).2)=_
  rw[hA];simp only;rw[hB];simp only;rw[hC]
 have c1:=parseField_any b e w h.eye;have c2:=fun w' hE=>eyeNum_any b e1 w' hE
 have c3:=fun w' hE=>eyeText_any b e2 w' hE 32 om_ om_
 rw[hA] at c1;rw[hB] at c2;rw[hC] at c3;have HTT:=hid hT;clear hT;unfold TakesM;unfold Saw at c1 c2 c3;simp only[field.Fd.val] at c1;clear hA hB hC h;go_enter func85,ntmps85;go_wp2_with (first
  | (go_at_call 101;((with_reducible refine c1.mono ?_);clear c1;rintro en w1 ⟨rfl,hE1,hu1⟩;have hT1:=H0.o.call hE1 hu1;have bI:=hT1.f;have x7:=bI.cell 7;have p7:=bI.frozen 7;have x8:=bI.cell 8;have p8:=bI.frozen 8;have x9:=bI.cell 9;have p9:=bI.frozen 9;have x10:=bI.cell 10;have p10:=bI.frozen 10;have x11:=bI.cell 11;have p11:=bI.frozen 11;have HT1:=hid hT1;have HU1:=hid hu1;have HTF:=hid (HT1.o.putF p);clear hT1 bI hE1 hu1))
  | (go_at_call 100;((with_reducible refine(c2 _ HTF.o.1.eye).mono ?_);clear c2;rintro en w2 ⟨rfl,hE2,hu2⟩;have HT2:=hid (HTF.o.1.call hE2 hu2);have HE2:=hid hE2;have HU2:=hid hu2;clear hE2 hu2))
  | (go_at_call 50;((with_reducible refine(c3 _ HE2.o).mono ?_);clear c3;rintro en w3 ⟨rfl,hE3,hu3⟩;have hT3:=HT2.o.call hE3 hu3;have bK:=hT3.f;have x12:=bK.cell 12;have p12:=bK.frozen 12;have x13:=bK.cell 13;have p13:=bK.frozen 13;have HT3:=hid hT3;have HU3:=hid hu3;clear hT3 bK hE3 hu3)))
 exact ret0 rfl rfl ⟨rfl,⟨_,_,_,_,by rw[HTT.o];exact(HT3.o.putV ⟨n,strOf t⟩).1⟩,(stay_eye H0.o.eye eye_ty HU1.o).trans (HTF.o.2.trans ((stay_eye HTF.o.1.eye eye_ty HU2.o).trans ((stay_eye HE2.o eye_ty HU3.o).trans (HT3.o.putV ⟨n,strOf t⟩).2)))⟩
set_option maxRecDepth 20000 in
set_option maxHeartbeats 1600000 in
theorem tm7(w:World)(hsl:s.t.length<=900)(h:TS 123 b T w0 s e ta tc la lc w):Calls prog 85 #[.pointer (some ⟨b,0,none⟩),.pointer (some ⟨T,0,none⟩),.int .i64 7] w (TakesM b T w0 s e 7 w):=by
 have H0:=hid h;obtain⟨N,e1,hN⟩:∃A q,eCount 64 e=(A,q):=⟨_,_,rfl⟩;have hNl:N<=64:=by have:=eCount_le 64 e;rw[show((64:Nat):Int)=64 from rfl,hN] at this;exact this
 have HLL:Hid (s.t.length<=900):=hid hsl;have hT:run (lets 7) (s,e)=({ s with t:=s.t++(takeNs N e1).1},(takeNs N e1).2):=by
  show(({ s with t:=s.t++(takeNs (eCount 64 e).1 (eCount 64 e).2).1}:Sp),(takeNs (eCount 64 e).1 (eCount 64 e).2).2)=_
  rw[hN]
 have c1:=eyeCount_any b e w h.eye 64 om_ om_;rw[hN] at c1;have HTT:=hid hT;clear hT;unfold TakesM;unfold Saw at c1;clear hN h hsl;go_enter func85,ntmps85;go_wp2_with (go_at_call 49;((with_reducible refine c1.mono ?_);clear c1;rintro en w1 ⟨rfl,hE1,hu1⟩;have HT1:=hid (H0.o.call hE1 hu1);have HU1:=hid (stay_eye H0.o.eye eye_ty hu1);clear hE1 hu1));go_loopw [73] (fun m wr=>∃k:Nat,k<=N/\m=.int .i64 (k:Int)/\Hid (∃ta tc la lc,TS 123 b T w0 { s with t:=s.t++(takeNs k e1).1} (takeNs k e1).2 ta tc la lc wr)/\Hid (StayM w wr)) (fun m _=>N - (intOf m).toNat);case atStart=>exact⟨0,Nat.zero_le _,rfl,hid ⟨_,_,_,_,by simpa[takeNs] using HT1.o⟩,HU1⟩
 case round=>
  obtain⟨k,hk,rfl,HS,HK⟩:=hrel;obtain⟨ta',tc',la',lc',hS⟩:=HS.o;by_cases au:k<N
  ·have i1:(k:Int)<N:=by omega
   obtain⟨p,e9,hp⟩:∃p q,eCount 1000 (takeNs k e1).2=(p,q):=⟨_,_,rfl⟩;have HT1:Hid ((takeNs (k+1) e1).1=(takeNs k e1).1++[(p:Int)]):=hid (by rw[takeNs,hp]);have HT2:Hid ((takeNs (k+1) e1).2=e9):=hid (by rw[takeNs,hp]);have hxl:(takeNs k e1).1.length=k:=takeNs_len k e1;have cP:=fun w' hE=>eyeCount_any b (takeNs k e1).2 w' hE 1000 om_ om_
   rw[hp] at cP;skip;unfold Saw at cP;clear hp HS;generalize (takeNs k e1).1=X at *;generalize (takeNs k e1).2=sk at *;have bH:=hS.later (w':=wr.drew) (below_drewN (Below.refl _ _) 1);have HS:=hid bH;have hlen:(s.t++X).length<=1000:=by have:=HLL.o;rw[List.length_append,hxl];omega
   have HLEN:=hid hlen;clear hS bH hlen hxl;obtain⟨Z,hZ⟩:∃Z,Hid (s.t++X=Z):=⟨_,hid rfl⟩;rw[hZ.o] at HS HLEN;go_wp2;refine plan.regionT ?_;have hS:=HS.o;refine plan.free 0 _ (.pointer (some ⟨T,0,none⟩)) rfl kr_ kr_ kr_ kr_ (fun w'=>kr_) ?_;refine plan.free 1 _ (.pointer (some ⟨T,0,none⟩)) rfl kr_ kr_ kr_ kr_ (fun w'=>kr_) ?_;refine plan.free 2 _ (.pointer (some ⟨T,0,none⟩)) rfl kr_ kr_ kr_ kr_ (fun w'=>kr_) ?_;refine plan.free 3 _ (.pointer (some ⟨T,14,none⟩)) rfl kr_ kr_ kr_ kr_ (fun w'=>kr_) ?_;refine plan.free 5 _ (.pointer (some ⟨b,0,none⟩)) rfl kr_ kr_ kr_ kr_ (fun w'=>kr_) ?_;refine plan.toL 4 (fun x y z=> #[true,true,true,true,x,true,y,z,false,false,false,false]) rfl ?_;refine plan.late 4 6 7 79 81 82 de_ de_ _ _ _ (fun x y z=> #[true,true,true,true,x,true,y,z,false,false,false,false]) rfl rfl rfl rfl rfl rfl rfl rfl rfl (by intro y z;cases y <;> cases z <;> rfl) (by intro x;cases x <;> rfl) (by intro x;cases x <;> rfl)
    kr_ kr_ kr_ kr_ kr_ (.slice ta' Z.length tc') 49 #[.pointer (some ⟨b,0,none⟩),.int .i64 1000]
    (fun v w'=>v=(.int .i64 (p:Int))/\TS 123 b T w0 { s with t:=Z} e9 ta' tc' la' lc' w'/\StayM wr w') (fun v w'=>.slice (some ⟨w'.heap.size,0,none⟩) 1 1) (fun v w'=>w'.alloc (.cells #[.int .i64 (p:Int)] 3))
    (exec_cell_slice' (ad:=⟨T,14,none⟩) rfl (hS.f.cell 14) isAgg82)
    (fun v w' hM=>exec_cell_slice' (ad:=⟨T,14,none⟩) rfl (hM.2.1.f.cell 14) isAgg82)
    (fun v w' hM=>exec_cell_slice' (ad:=⟨T,14,none⟩) rfl ((hM.2.1.f.alloc _).cell 14) isAgg82)
    kr_ kr_ ((cP _ hS.eye).mono ?_) (fun v w' hM=>by obtain⟨rfl,_⟩:=hM;kernel_rfl) (fun v w' hM=>by obtain⟨rfl,_⟩:=hM;kernel_rfl) ?_
   ·exact t51
   ·exact t7
  ·exact t36
set_option maxRecDepth 20000 in
set_option maxHeartbeats 1600000 in
theorem tm6(w:World)(hsl:s.t.length<=900)(h:TS 123 b T w0 s e ta tc la lc w):Calls prog 85 #[.pointer (some ⟨b,0,none⟩),.pointer (some ⟨T,0,none⟩),.int .i64 6] w (TakesM b T w0 s e 6 w):=by
 have H0:=hid h;obtain⟨A,e1,hA⟩:∃A q,eCount 1048576 e=(A,q):=⟨_,_,rfl⟩;obtain⟨N,e2,hN⟩:∃A q,eCount 64 e1=(A,q):=⟨_,_,rfl⟩;have hNl:N<=64:=by have:=eCount_le 64 e1;rw[show((64:Nat):Int)=64 from rfl,hN] at this;exact this
 have HLL:Hid (s.t.length<=900):=hid hsl;have hT:run (lets 6) (s,e)=({ s with a:=(A:Int),t:=s.t++(takeNs N e2).1},(takeNs N e2).2):=by
  show(({ s with a:=((eCount 1048576 e).1:Int),t:=s.t++(takeNs (eCount 64 (eCount 1048576 e).2).1 (eCount 64 (eCount 1048576 e).2).2).1}:Sp),(takeNs (eCount 64 (eCount 1048576 e).2).1 (eCount 64 (eCount 1048576 e).2).2).2)=_
  rw[hA];simp only;rw[hN]
 have c1:=eyeCount_any b e w h.eye 1048576 om_ om_;have c2:=fun w' hE=>eyeCount_any b e1 w' hE 64 om_ om_
 rw[hA] at c1;rw[hN] at c2;have HTT:=hid hT;clear hT;unfold TakesM;unfold Saw at c1 c2;clear hA hN h hsl;go_enter func85,ntmps85;go_wp2_with (first
  | (go_at_call 49;((with_reducible refine c1.mono ?_);clear c1;rintro en w1 ⟨rfl,hE1,hu1⟩;have hT1:=H0.o.call hE1 hu1;have bI:=hT1.f;have x5:=bI.cell 5;have p5:=bI.frozen 5;have HU1:=hid ((stay_eye H0.o.eye eye_ty hu1).trans (stay_put hT1 5 (.int .i64 (A:Int))));have HT1:=hid (hT1.put 5 (.int .i64 (A:Int)) { s with a:=(A:Int)} rfl rfl rfl);clear hT1 bI hE1 hu1))
  | (go_at_call 49;((with_reducible refine(c2 _ HT1.o.eye).mono ?_);clear c2;rintro en w2 ⟨rfl,hE2,hu2⟩;have HT2:=hid (HT1.o.call hE2 hu2);have HU2:=hid (HU1.o.trans (stay_eye HT1.o.eye eye_ty hu2));clear hE2 hu2)))
 go_loopw [73] (fun m wr=>∃k:Nat,k<=N/\m=.int .i64 (k:Int)/\Hid (∃ta tc la lc,TS 123 b T w0 { s with a:=(A:Int),t:=s.t++(takeNs k e2).1} (takeNs k e2).2 ta tc la lc wr)/\Hid (StayM w wr)) (fun m _=>N - (intOf m).toNat);case atStart=>exact⟨0,Nat.zero_le _,rfl,hid ⟨_,_,_,_,by simpa[takeNs] using HT2.o⟩,HU2⟩
 case round=>
  obtain⟨k,hk,rfl,HS,HK⟩:=hrel;obtain⟨ta',tc',la',lc',hS⟩:=HS.o;by_cases au:k<N
  ·have i1:(k:Int)<N:=by omega
   obtain⟨p,e9,hp⟩:∃p q,eCount 1000 (takeNs k e2).2=(p,q):=⟨_,_,rfl⟩;have HT1:Hid ((takeNs (k+1) e2).1=(takeNs k e2).1++[(p:Int)]):=hid (by rw[takeNs,hp]);have HT2:Hid ((takeNs (k+1) e2).2=e9):=hid (by rw[takeNs,hp]);have hxl:(takeNs k e2).1.length=k:=takeNs_len k e2;have cP:=fun w' hE=>eyeCount_any b (takeNs k e2).2 w' hE 1000 om_ om_
   rw[hp] at cP;skip;unfold Saw at cP;clear hp HS;generalize (takeNs k e2).1=X at *;generalize (takeNs k e2).2=sk at *;have bH:=hS.later (w':=wr.drew) (below_drewN (Below.refl _ _) 1);have HS:=hid bH;have hlen:(s.t++X).length<=1000:=by have:=HLL.o;rw[List.length_append,hxl];omega
   have HLEN:=hid hlen;clear hS bH hlen hxl;obtain⟨Z,hZ⟩:∃Z,Hid (s.t++X=Z):=⟨_,hid rfl⟩;rw[hZ.o] at HS HLEN;go_wp2;refine plan.regionT ?_;have hS:=HS.o;refine plan.free 0 _ (.pointer (some ⟨T,0,none⟩)) rfl kr_ kr_ kr_ kr_ (fun w'=>kr_) ?_;refine plan.free 1 _ (.pointer (some ⟨T,0,none⟩)) rfl kr_ kr_ kr_ kr_ (fun w'=>kr_) ?_;refine plan.free 2 _ (.pointer (some ⟨T,0,none⟩)) rfl kr_ kr_ kr_ kr_ (fun w'=>kr_) ?_;refine plan.free 3 _ (.pointer (some ⟨T,14,none⟩)) rfl kr_ kr_ kr_ kr_ (fun w'=>kr_) ?_;refine plan.free 5 _ (.pointer (some ⟨b,0,none⟩)) rfl kr_ kr_ kr_ kr_ (fun w'=>kr_) ?_;refine plan.toL 4 (fun x y z=> #[true,true,true,true,x,true,y,z,false,false,false,false]) rfl ?_;refine plan.late 4 6 7 79 81 82 de_ de_ _ _ _ (fun x y z=> #[true,true,true,true,x,true,y,z,false,false,false,false]) rfl rfl rfl rfl rfl rfl rfl rfl rfl (by intro y z;cases y <;> cases z <;> rfl) (by intro x;cases x <;> rfl) (by intro x;cases x <;> rfl)
    kr_ kr_ kr_ kr_ kr_ (.slice ta' Z.length tc') 49 #[.pointer (some ⟨b,0,none⟩),.int .i64 1000]
    (fun v w'=>v=(.int .i64 (p:Int))/\TS 123 b T w0 { s with a:=(A:Int),t:=Z} e9 ta' tc' la' lc' w'/\StayM wr w') (fun v w'=>.slice (some ⟨w'.heap.size,0,none⟩) 1 1) (fun v w'=>w'.alloc (.cells #[.int .i64 (p:Int)] 3))
    (exec_cell_slice' (ad:=⟨T,14,none⟩) rfl (hS.f.cell 14) isAgg82)
    (fun v w' hM=>exec_cell_slice' (ad:=⟨T,14,none⟩) rfl (hM.2.1.f.cell 14) isAgg82)
    (fun v w' hM=>exec_cell_slice' (ad:=⟨T,14,none⟩) rfl ((hM.2.1.f.alloc _).cell 14) isAgg82)
    kr_ kr_ ((cP _ hS.eye).mono ?_) (fun v w' hM=>by obtain⟨rfl,_⟩:=hM;kernel_rfl) (fun v w' hM=>by obtain⟨rfl,_⟩:=hM;kernel_rfl) ?_
   ·exact t51
   ·exact t7
  ·exact t36
set_option maxRecDepth 20000 in
set_option maxHeartbeats 1600000 in
theorem tm11(w:World)(hsl:s.l.length<=900)(h:TS 123 b T w0 s e ta tc la lc w):Calls prog 85 #[.pointer (some ⟨b,0,none⟩),.pointer (some ⟨T,0,none⟩),.int .i64 11] w (TakesM b T w0 s e 11 w):=by
 have H0:=hid h;obtain⟨N,e1,hN⟩:∃A q,eCount 8 e=(A,q):=⟨_,_,rfl⟩;have hNl:N<=8:=by have:=eCount_le 8 e;rw[show((8:Nat):Int)=8 from rfl,hN] at this;exact this
 have HLL:Hid (s.l.length<=900):=hid hsl;have hT:run (lets 11) (s,e)=({ s with l:=s.l++(takeAs N e1).1},(takeAs N e1).2):=by
  show(({ s with l:=s.l++(takeAs (eCount 8 e).1 (eCount 8 e).2).1}:Sp),(takeAs (eCount 8 e).1 (eCount 8 e).2).2)=_
  rw[hN]
 have c1:=eyeCount_any b e w h.eye 8 om_ om_;rw[hN] at c1;have HTT:=hid hT;clear hT;unfold TakesM;unfold Saw at c1;clear hN h hsl;go_enter func85,ntmps85;go_wp2_with (go_at_call 49;((with_reducible refine c1.mono ?_);clear c1;rintro en w1 ⟨rfl,hE1,hu1⟩;have HT1:=hid (H0.o.call hE1 hu1);have HU1:=hid (stay_eye H0.o.eye eye_ty hu1);clear hE1 hu1));go_loopw [107] (fun m wr=>∃k:Nat,k<=N/\m=.int .i64 (k:Int)/\Hid (∃ta tc la lc,TS 123 b T w0 { s with l:=s.l++(takeAs k e1).1} (takeAs k e1).2 ta tc la lc wr)/\Hid (StayM w wr)) (fun m _=>N - (intOf m).toNat);case atStart=>exact⟨0,Nat.zero_le _,rfl,hid ⟨_,_,_,_,by simpa[takeAs] using HT1.o⟩,HU1⟩
 case round=>
  obtain⟨k,hk,rfl,HS,HK⟩:=hrel;obtain⟨ta',tc',la',lc',hS⟩:=HS.o;by_cases au:k<N
  ·have i1:(k:Int)<N:=by omega
   obtain⟨p,e9,hp⟩:∃p q,takeA (takeAs k e1).2=(p,q):=⟨_,_,rfl⟩;have HT1:Hid ((takeAs (k+1) e1).1=(takeAs k e1).1++[p]):=hid (by rw[takeAs,hp]);have HT2:Hid ((takeAs (k+1) e1).2=e9):=hid (by rw[takeAs,hp]);have hxl:(takeAs k e1).1.length=k:=takeAs_len k e1;have cP:=fun w' hE=>parseField_any b (takeAs k e1).2 w' hE
   rw[hp] at cP;simp only[field.Fd.val] at cP;unfold Saw at cP;clear hp HS;generalize (takeAs k e1).1=X at *;generalize (takeAs k e1).2=sk at *;have bH:=hS.later (w':=wr.drew) (below_drewN (Below.refl _ _) 1);have HS:=hid bH;have hlen:(s.l++X).length<=1000:=by have:=HLL.o;rw[List.length_append,hxl];omega
   have HLEN:=hid hlen;clear hS bH hlen hxl;obtain⟨Z,hZ⟩:∃Z,Hid (s.l++X=Z):=⟨_,hid rfl⟩;rw[hZ.o] at HS HLEN;go_wp2;refine plan.regionT ?_;have hS:=HS.o;refine plan.free 0 _ (.pointer (some ⟨T,0,none⟩)) rfl kr_ kr_ kr_ kr_ (fun w'=>kr_) ?_;refine plan.free 1 _ (.pointer (some ⟨T,0,none⟩)) rfl kr_ kr_ kr_ kr_ (fun w'=>kr_) ?_;refine plan.free 2 _ (.pointer (some ⟨T,0,none⟩)) rfl kr_ kr_ kr_ kr_ (fun w'=>kr_) ?_;refine plan.free 3 _ (.pointer (some ⟨T,15,none⟩)) rfl kr_ kr_ kr_ kr_ (fun w'=>kr_) ?_;refine plan.free 5 _ (.pointer (some ⟨b,0,none⟩)) rfl kr_ kr_ kr_ kr_ (fun w'=>kr_) ?_;refine plan.toL 4 (fun x y z=> #[true,true,true,true,x,true,y,z,false,false,false,false]) rfl ?_;refine plan.late 4 6 7 113 115 116 de_ de_ _ _ _ (fun x y z=> #[true,true,true,true,x,true,y,z,false,false,false,false]) rfl rfl rfl rfl rfl rfl rfl rfl rfl (by intro y z;cases y <;> cases z <;> rfl) (by intro x;cases x <;> rfl) (by intro x;cases x <;> rfl)
    kr_ kr_ kr_ kr_ kr_ (.slice la' Z.length lc') 101 #[.pointer (some ⟨b,0,none⟩)]
    (fun v w'=>v=(zF p)/\TS 123 b T w0 { s with l:=Z} e9 ta' tc' la' lc' w'/\StayM wr w') (fun v w'=>.slice (some ⟨w'.heap.size,0,none⟩) 1 1) (fun v w'=>w'.alloc (.cells (zF p) 79))
    (exec_cell_slice' (ad:=⟨T,15,none⟩) rfl (hS.f.cell 15) isAgg41)
    (fun v w' hM=>exec_cell_slice' (ad:=⟨T,15,none⟩) rfl (hM.2.1.f.cell 15) isAgg41)
    (fun v w' hM=>exec_cell_slice' (ad:=⟨T,15,none⟩) rfl ((hM.2.1.f.alloc _).cell 15) isAgg41)
    kr_ kr_ ((cP _ hS.eye).mono ?_) (fun v w' hM=>by obtain⟨rfl,_⟩:=hM;kernel_rfl) (fun v w' hM=>by obtain⟨rfl,_⟩:=hM;kernel_rfl) ?_
   ·exact t51
   ·rintro v w3 ⟨rfl,cu,hK3⟩;have bD:=cu.later (newB w3 (.cells (zF p) 79));have hK4:StayM wr (w3.alloc (.cells (zF p) 79)):=hK3.trans (stay_below _ (newB w3 (.cells (zF p) 79)));refine plan.oneE 8 _ (fun q w5=>w5.ownsRow (T+1) 79 5 q (Z.length+1) (fdV (Z++[p]))/\(w3.alloc (.cells (zF p) 79)).grownBy w5 (Value.slice la' Z.length lc').ownBlock) rfl rfl
     (exec_push_fd (g:=w3.heap.size) rfl bD.rl (Block.new w3 79 (fdC p)) HLEN.o bD.f.lt) ?_
    rintro q w5 ⟨ho5,hg5⟩;have hF5:=bD.held (B:=0) bD.rl hg5;obtain⟨qa,qc,rfl,_⟩:=ownsRow_slice ho5;have bF:=bD.pushL hg5 ho5;have hK6:StayM wr (w5.setCell ⟨T,15,none⟩ (.slice qa (Z.length+1) qc)):=hK4.trans ((stay_grown _ bD.rl hg5 de_).trans (stay_store _ hF5 de_ 15 _));refine plan.oneT (w1:=w5) 9 _ (.pointer (some ⟨T,0,none⟩)) rfl rfl ?_;refine plan.oneT (w1:=w5) 10 _ (.pointer (some ⟨T,15,none⟩)) rfl rfl ?_;refine plan.lastT (w1:=w5.setCell ⟨T,15,none⟩ (.slice qa (Z.length+1) qc)) 11 _ rfl rfl rfl (exec_put_fd (ad:=⟨T,15,none⟩) rfl (hF5.cell 15) (hF5.frozen 15)) ?_
    exact t122
  ·exact t36
theorem parseMember_any(m:Nat)(hm:m<12)(w:World)(ht:s.t.length<=900)(hl:s.l.length<=900)(h:TS 123 b T w0 s e ta tc la lc w):Calls prog 85 #[.pointer (some ⟨b,0,none⟩),.pointer (some ⟨T,0,none⟩),.int .i64 (m:Int)] w (TakesM b T w0 s e m w):=by
 match m,hm with
 | 0,_=>exact tm0 w h
 | 1,_=>exact tm1 w h
 | 2,_=>exact tm2 w h
 | 3,_=>exact tm3 w h
 | 4,_=>exact tm4 w h
 | 5,_=>exact tm5 w h
 | 6,_=>exact tm6 w ht h
 | 7,_=>exact tm7 w ht h
 | 8,_=>exact tm8 w h
 | 9,_=>exact tm9 w h
 | 10,_=>exact tm10 w h
 | 11,_=>exact tm11 w hl h
end step
theorem t10{P:Prop}(h:P:=by
 have c5:=C5.o;clear C3 C4 C5;rw[if_neg de_,if_pos de_];go_enter func66,ntmps66;go_wp2_with (first
  | (go_at_call 15;((with_reducible refine c1.mono ?_);rintro e w1 ⟨rfl,v1,ig,fQ⟩;have bJ:=pen_block jL fQ HBL.o fd_ty aH;have z0:=bJ.cell 0;have z1:=bJ.cell 1;have dO:=Nat.le_trans kD fQ.size))
  | (go_at_call 15;((with_reducible refine(c2 _ _ ig dO).mono ?_);rintro e w2 ⟨rfl,v2,dD,eu⟩;have bZ:=pen_block ig eu bJ fd_ty aH;have z1:=bZ.cell 1;have z2:=bZ.cell 2;have z4:=bZ.cell 4;have dJ:=Nat.le_trans dO eu.size))
  | (go_at_call 94;((with_reducible refine(c3 _ _ dD dJ).mono ?_);rintro e w3 ⟨rfl,v3,iV,fU⟩;have dF:=pen_block dD fU bZ fd_ty aH;have z3:=dF.cell 3;have lN:=Nat.le_trans dJ fU.size))
  | (go_at_call 94;((with_reducible refine(c4 _ _ iV lN).mono ?_);rintro e w4 ⟨rfl,v4,nV,nX⟩))
  | (go_at_call 15;((with_reducible refine(c5 _ _ dD dJ).mono ?_);rintro e w3 ⟨rfl,v3,iV,fU⟩)))
 exact ret0 rfl rfl ⟨rfl,v3,by simpa only[List.append_assoc] using iV,HT0.o.trans (fQ.trans (eu.trans fU))⟩):P:=h
namespace schema
open Go.RowKit pen
theorem fd_ty:(79:TypeId)≠5:=by decide
theorem fm_ty:(43:TypeId)≠5:=by decide
theorem printField_any(lo b:Nat)(v:Value)(xs:List Nat)(w:World)(h:PenAt lo b v xs 0 w)(fF:lo<=w.heap.size)(p:field.Fd)(hr:p.Right)(hn:xs.length<=100000):
  Calls prog 66 #[.pointer (some ⟨b,0,none⟩),zF p] w (Wrote lo b v xs (fieldB p) 0 w):=by
 have hs:=right_span hr;have hk:p.kind=1\/p.kind=2\/p.kind=3\/p.kind=4:=by omega
 have bQ:=Block.new w 79 (zF p);have jL:=h.later (field.newB w (.cells (zF p) 79));have nP:=turns_alloc w b v (.cells (zF p) 79);have aH:w.heap.size≠b:=by have:=h.1.lt;omega
 have kD:lo<=(w.alloc (.cells (zF p) 79)).heap.size:=by simp;omega
 have l1:=vb_ten p.id.toNat om_;have l2:=vb_ten p.kind.toNat om_;have l3:=vb_ten (zig p.lo) (zig_lt _ om_ om_);have l4:=vb_ten (zig p.hi) (zig_lt _ om_ om_);have iI:fieldB p=vb p.id.toNat++vb p.kind.toNat++(if p.kind=1 then vb (zig p.lo)++vb (zig p.hi) else if p.kind=3\/p.kind=4 then vb p.most.toNat else []):=rfl;rw[iI];clear iI h hr;obtain⟨i,k,lw,hi,m⟩:=p;simp only at *;have c1:=count_int lo b v xs _ jL kD i om_ om_ om_;have c2:=fun v1 w1 hp hl=>count_int lo b v1 (xs++vb i.toNat) w1 hp hl k om_ om_ (by simp only[List.length_append];omega)
 have C3:=hid (fun v1 w1 hp hl=>num_any lo b v1 (xs++vb i.toNat++vb k.toNat) 0 w1 hp hl lw om_ om_ (by simp only[List.length_append];omega));have C4:=hid (fun v1 w1 hp hl=>num_any lo b v1 (xs++vb i.toNat++vb k.toNat++vb (zig lw)) 0 w1 hp hl hi om_ om_ (by simp only[List.length_append];omega));have C5:=hid (fun v1 w1 hp hl=>count_int lo b v1 (xs++vb i.toNat++vb k.toNat) w1 hp hl m om_ om_ (by simp only[List.length_append];omega));have HBL:=hid bQ;have HT0:=hid nP;clear hs l1 l2 l3 l4 nP bQ fF hn;rcases hk with rfl | rfl | rfl | rfl
 ·have c3:=C3.o;have c4:=C4.o;clear C3 C4 C5;rw[if_pos rfl];go_enter func66,ntmps66;go_wp2_with (first
   | (go_at_call 15;((with_reducible refine c1.mono ?_);rintro e w1 ⟨rfl,v1,ig,fQ⟩;have bJ:=pen_block jL fQ HBL.o fd_ty aH;have z0:=bJ.cell 0;have z1:=bJ.cell 1;have dO:=Nat.le_trans kD fQ.size))
   | (go_at_call 15;((with_reducible refine(c2 _ _ ig dO).mono ?_);rintro e w2 ⟨rfl,v2,dD,eu⟩;have bZ:=pen_block ig eu bJ fd_ty aH;have z1:=bZ.cell 1;have z2:=bZ.cell 2;have z4:=bZ.cell 4;have dJ:=Nat.le_trans dO eu.size))
   | (go_at_call 94;((with_reducible refine(c3 _ _ dD dJ).mono ?_);rintro e w3 ⟨rfl,v3,iV,fU⟩;have dF:=pen_block dD fU bZ fd_ty aH;have z3:=dF.cell 3;have lN:=Nat.le_trans dJ fU.size))
   | (go_at_call 94;((with_reducible refine(c4 _ _ iV lN).mono ?_);rintro e w4 ⟨rfl,v4,nV,nX⟩))
   | (go_at_call 15;((with_reducible refine(c5 _ _ dD dJ).mono ?_);rintro e w3 ⟨rfl,v3,iV,fU⟩)))
  exact ret0 rfl rfl ⟨rfl,v4,by simpa only[List.append_assoc] using nV,HT0.o.trans (fQ.trans (eu.trans (fU.trans nX)))⟩
 ·clear C3 C4 C5;rw[if_neg de_,if_neg de_,List.append_nil];go_enter func66,ntmps66;go_wp2_with (first
   | (go_at_call 15;((with_reducible refine c1.mono ?_);rintro e w1 ⟨rfl,v1,ig,fQ⟩;have bJ:=pen_block jL fQ HBL.o fd_ty aH;have z0:=bJ.cell 0;have z1:=bJ.cell 1;have dO:=Nat.le_trans kD fQ.size))
   | (go_at_call 15;((with_reducible refine(c2 _ _ ig dO).mono ?_);rintro e w2 ⟨rfl,v2,dD,eu⟩;have bZ:=pen_block ig eu bJ fd_ty aH;have z1:=bZ.cell 1;have z2:=bZ.cell 2;have z4:=bZ.cell 4;have dJ:=Nat.le_trans dO eu.size))
   | (go_at_call 94;((with_reducible refine(c3 _ _ dD dJ).mono ?_);rintro e w3 ⟨rfl,v3,iV,fU⟩;have dF:=pen_block dD fU bZ fd_ty aH;have z3:=dF.cell 3;have lN:=Nat.le_trans dJ fU.size))
   | (go_at_call 94;((with_reducible refine(c4 _ _ iV lN).mono ?_);rintro e w4 ⟨rfl,v4,nV,nX⟩))
   | (go_at_call 15;((with_reducible refine(c5 _ _ dD dJ).mono ?_);rintro e w3 ⟨rfl,v3,iV,fU⟩)))
  exact ret0 rfl rfl ⟨rfl,v2,by simpa only[List.append_assoc] using dD,HT0.o.trans (fQ.trans eu)⟩
 ·exact t10
 ·exact t10
end schema
namespace plan
open Go Go.RowKit
section
variable {P:Program} {md:Region.Mode} {Q:Exit->Act->World->Prop} {l:List Oper}
theorem exec_store_all{o:Oper}{a:Act}{w:World}{ty:TypeId}{x y:Operand}{g:Nat}{t:TypeId}{cs:List Value}{cells:Array Value}(ho:o.op=.store ty x y)
  (hb:Block w g t cs) (hl:cs.length=cells.size) (hs:(P.info? ty).map (·.size)=some cells.size) (h1:cells.all (·.oneCell')=true) (hx:a.eval x=.pointer (some ⟨g,0,none⟩):=by kernel_rfl) (hy:a.eval y=.agg cells:=by kernel_rfl):(execOp a.eval o).run P w=.ok .skip (w.setCells g 0 cells.toList):=by
 exact t82
end
end plan
theorem t155{P:Prop}(h:P:=by
 refine plan.line_same 78 _ (.bool true) rfl ?_;refine plan.line_done de_ ?_;walk_nrm;go_wp2;go_ret;exact⟨rfl,HB0.o⟩):P:=h
theorem t154{P:Prop}(h:P:=by
 refine plan.line_same 32 _ (.bool true) rfl ?_;refine plan.line_same 33 _ (.bool true) rfl ?_;refine plan.line_skip 34 _ rfl ?_;refine plan.line_skip 35 _ rfl ?_;refine plan.line_skip 36 _ rfl ?_;refine plan.line_skip 37 _ rfl ?_;refine plan.line_skip 38 _ rfl ?_
 exact t1):P:=h
theorem t153{P:Prop}(h:P:=by
 refine plan.line_same 46 _ (.bool true) rfl ?_;refine plan.line_same 47 _ (.bool true) rfl ?_;refine plan.line_skip 48 _ rfl ?_;refine plan.line_skip 49 _ rfl ?_;refine plan.line_skip 50 _ rfl ?_;refine plan.line_skip 51 _ rfl ?_;refine plan.line_skip 52 _ rfl ?_
 exact t147):P:=h
theorem t150{P:Prop}(h:P:=by
 refine plan.line_same 11 _ (.bool true) rfl ?_;refine plan.line_same 12 _ (.bool true) rfl ?_;refine plan.line_skip 13 _ rfl ?_;refine plan.line_skip 14 _ rfl ?_;refine plan.line_skip 15 _ rfl ?_;refine plan.line_skip 16 _ rfl ?_;refine plan.line_skip 17 _ rfl ?_
 exact t117):P:=h
theorem t149{P:Prop}(h:P:=by
 refine plan.line_same 69 _ (.bool true) rfl ?_;refine plan.line_same 70 _ (.bool true) rfl ?_;refine plan.line_skip 71 _ rfl ?_;refine plan.line_skip 72 _ rfl ?_;refine plan.line_skip 73 _ rfl ?_;refine plan.line_skip 74 _ rfl ?_;refine plan.line_skip 75 _ rfl ?_;refine plan.line_skip 76 _ rfl ?_;refine plan.line_skip 77 _ rfl ?_
 exact t155):P:=h
theorem t148{P:Prop}(h:P:=by
 refine plan.line_same 25 _ (.bool true) rfl ?_;refine plan.line_same 26 _ (.bool true) rfl ?_;refine plan.line_skip 27 _ rfl ?_;refine plan.line_skip 28 _ rfl ?_;refine plan.line_skip 29 _ rfl ?_;refine plan.line_skip 30 _ rfl ?_;refine plan.line_skip 31 _ rfl ?_
 exact t154):P:=h
theorem t147{P:Prop}(h:P:=by
 refine plan.line_same 53 _ (.bool true) rfl ?_;refine plan.line_same 54 _ (.bool true) rfl ?_;refine plan.line_skip 55 _ rfl ?_;refine plan.line_skip 56 _ rfl ?_;refine plan.line_skip 57 _ rfl ?_;refine plan.line_skip 58 _ rfl ?_;refine plan.line_skip 59 _ rfl ?_
 exact t116):P:=h
theorem t117{P:Prop}(h:P:=by
 refine plan.line_same 18 _ (.bool true) rfl ?_;refine plan.line_same 19 _ (.bool true) rfl ?_;refine plan.line_skip 20 _ rfl ?_;refine plan.line_skip 21 _ rfl ?_;refine plan.line_skip 22 _ rfl ?_;refine plan.line_skip 23 _ rfl ?_;refine plan.line_skip 24 _ rfl ?_
 exact t148):P:=h
theorem t116{P:Prop}(h:P:=by
 refine plan.line_same 60 _ (.bool true) rfl ?_;refine plan.line_same 61 _ (.bool true) rfl ?_;refine plan.line_skip 62 _ rfl ?_;refine plan.line_skip 63 _ rfl ?_;refine plan.line_skip 64 _ rfl ?_;refine plan.line_skip 65 _ rfl ?_;refine plan.line_skip 66 _ rfl ?_;refine plan.line_skip 67 _ rfl ?_;refine plan.line_skip 68 _ rfl ?_
 exact t149):P:=h
theorem t66{P:Prop}(h:P:=by
 clear aS;go_wp2;go_quiet (fail);go_wp2;go_ret;exact⟨rfl,below_drewN (HB0.o.trans (HB.o.mono HB0.o.size)) _⟩):P:=h
theorem t1{P:Prop}(h:P:=by
 refine plan.line_same 39 _ (.bool true) rfl ?_;refine plan.line_same 40 _ (.bool true) rfl ?_;refine plan.line_skip 41 _ rfl ?_;refine plan.line_skip 42 _ rfl ?_;refine plan.line_skip 43 _ rfl ?_;refine plan.line_skip 44 _ rfl ?_;refine plan.line_skip 45 _ rfl ?_
 exact t153):P:=h
namespace step
open Go.RowKit
open field (Gives newB gives_from)
open schema (below_out take_succ_at eq_take_succ neq_fd field_at exec_two exec_load_at exec_cell_slice exec_cell_int exec_neq_int info_fd)
set_option maxRecDepth 20000 in
set_option maxHeartbeats 6400000 in
theorem refSame_any(s:Sp)(ta:Option Addr)(tc:Nat)(la:Option Addr)(lc:Nat)(u:Sp)(ua:Option Addr)(uc:Nat)(va:Option Addr)(vc:Nat)(w:World)(h:Lists w s ta la)(h':Lists w u ua va):
  Calls prog 60 #[zP s ta tc la lc,zP u ua uc va vc] w (Gives (.bool (decide (s=u))) w):=by
 obtain⟨hA,hU,hw⟩:=WP2.all s ta tc la lc u ua uc va vc w;have dO:=h.below hw;have dJ:=h'.below hw;unfold WP2 at hA hU hw dO dJ;obtain⟨W0,dw⟩:∃x,(w.alloc (.cells (zP s ta tc la lc) 84)).alloc (.cells (zP u ua uc va vc) 84)=x:=⟨_,rfl⟩;have HW0:=hid dw;rw[dw] at hA hU hw dO dJ;have HZ:Hid (∀w',Below W0.heap.size W0 w'->Block w' w.heap.size 84 (zP s ta tc la lc)/\Block w' (w.heap.size+1) 84 (zP u ua uc va vc)):=hid (fun w' hb=>⟨hA.later hb,hU.later hb⟩);have HZ0s:=hid hA;have HZ0u:=hid hU;have HL1:=hid dO;have HL2:=hid dJ;have HB0:=hid hw;have b1:(s.t.length:Int)<=9223372036854775807:=by have:=dO.mt;unfold maxLen at this;omega
 have b2:(u.t.length:Int)<=9223372036854775807:=by have:=dJ.mt;unfold maxLen at this;omega
 have b3:(s.l.length:Int)<=9223372036854775807:=by have:=dO.ml;unfold maxLen at this;omega
 have b4:(u.l.length:Int)<=9223372036854775807:=by have:=dJ.ml;unfold maxLen at this;omega
 obtain⟨r,hr⟩:∃r:Bool,Hid (decide (s=u)=r):=⟨_,rfl⟩;rw[hr.o];unfold Gives;clear h h' hA hU hw dO dJ dw;by_cases hx:s.op=u.op;rotate_left
 ·have d0:(s.op == u.op)=false:=by rw[beq_eq_false_iff_ne];exact hx
  have e0:(s.op != u.op)=true:=by simp[hx]
  obtain rfl:false=r:=by rw[<-hr.o];exact(decide_eq_false (fun e=>hx (sp_eq.1 e).1.1)).symm
  clear hx;go_enter func60,ntmps60;go_upto_region 1 with fail
  rw[HW0.o];refine plan.line ?_;refine plan.line_same 0 _ (.pointer (some ⟨w.heap.size,0,none⟩)) rfl ?_;refine plan.line_same 1 _ (.int .i64 s.op) rfl (hv:=(exec_cell_int (ad:=⟨w.heap.size,0,none⟩) rfl kr_ (HZ0s.o.cell 0) isAgg3)) ?_;refine plan.line_same 2 _ (.pointer (some ⟨w.heap.size+1,0,none⟩)) rfl ?_;refine plan.line_same 3 _ (.int .i64 u.op) rfl (hv:=(exec_cell_int (ad:=⟨w.heap.size+1,0,none⟩) rfl kr_ (HZ0u.o.cell 0) isAgg3)) ?_;refine plan.line_same 4 _ (.bool true) rfl (hv:=(exec_neq_int (n:=s.op) (m:=u.op) rfl (hid e0))) ?_;refine plan.line_same 5 _ (.bool true) rfl ?_;refine plan.line_skip 6 _ rfl ?_;refine plan.line_skip 7 _ rfl ?_;refine plan.line_skip 8 _ rfl ?_;refine plan.line_skip 9 _ rfl ?_;refine plan.line_skip 10 _ rfl ?_
  exact t150
 have d0:(s.op == u.op)=true:=by rw[beq_iff_eq];exact hx
 have e0:(s.op != u.op)=false:=by simp[hx]
 have H0:=hid hx;clear hx;by_cases hx:s.fm=u.fm;rotate_left
 ·have d1:(s.fm == u.fm)=false:=by rw[beq_eq_false_iff_ne];exact hx
  have e1:(s.fm != u.fm)=true:=by simp[hx]
  obtain rfl:false=r:=by rw[<-hr.o];exact(decide_eq_false (fun e=>hx (sp_eq.1 e).1.2.1)).symm
  clear hx;go_enter func60,ntmps60;go_upto_region 1 with fail
  rw[HW0.o];refine plan.line ?_;refine plan.line_same 0 _ (.pointer (some ⟨w.heap.size,0,none⟩)) rfl ?_;refine plan.line_same 1 _ (.int .i64 s.op) rfl (hv:=(exec_cell_int (ad:=⟨w.heap.size,0,none⟩) rfl kr_ (HZ0s.o.cell 0) isAgg3)) ?_;refine plan.line_same 2 _ (.pointer (some ⟨w.heap.size+1,0,none⟩)) rfl ?_;refine plan.line_same 3 _ (.int .i64 u.op) rfl (hv:=(exec_cell_int (ad:=⟨w.heap.size+1,0,none⟩) rfl kr_ (HZ0u.o.cell 0) isAgg3)) ?_;refine plan.line_same 4 _ (.bool false) rfl (hv:=(exec_neq_int (n:=s.op) (m:=u.op) rfl (hid e0))) ?_;refine plan.line_same 5 _ (.bool false) rfl ?_;refine plan.line_same 6 _ (.pointer (some ⟨w.heap.size,1,none⟩)) rfl ?_;refine plan.line_same 7 _ (.int .i64 s.fm) rfl (hv:=(exec_cell_int (ad:=⟨w.heap.size,1,none⟩) rfl kr_ (HZ0s.o.cell 1) isAgg3)) ?_;refine plan.line_same 8 _ (.pointer (some ⟨w.heap.size+1,1,none⟩)) rfl ?_;refine plan.line_same 9 _ (.int .i64 u.fm) rfl (hv:=(exec_cell_int (ad:=⟨w.heap.size+1,1,none⟩) rfl kr_ (HZ0u.o.cell 1) isAgg3)) ?_;refine plan.line_same 10 _ (.bool true) rfl (hv:=(exec_neq_int (n:=s.fm) (m:=u.fm) rfl (hid e1))) ?_
  exact t150
 have d1:(s.fm == u.fm)=true:=by rw[beq_iff_eq];exact hx
 have e1:(s.fm != u.fm)=false:=by simp[hx]
 have H1:=hid hx;clear hx;by_cases hx:s.fd=u.fd;rotate_left
 ·have d2:(s.fd == u.fd)=false:=by rw[beq_eq_false_iff_ne];exact hx
  have e2:(s.fd != u.fd)=true:=by simp[hx]
  obtain rfl:false=r:=by rw[<-hr.o];exact(decide_eq_false (fun e=>hx (sp_eq.1 e).1.2.2.1)).symm
  clear hx;go_enter func60,ntmps60;go_upto_region 1 with fail
  rw[HW0.o];refine plan.line ?_;refine plan.line_same 0 _ (.pointer (some ⟨w.heap.size,0,none⟩)) rfl ?_;refine plan.line_same 1 _ (.int .i64 s.op) rfl (hv:=(exec_cell_int (ad:=⟨w.heap.size,0,none⟩) rfl kr_ (HZ0s.o.cell 0) isAgg3)) ?_;refine plan.line_same 2 _ (.pointer (some ⟨w.heap.size+1,0,none⟩)) rfl ?_;refine plan.line_same 3 _ (.int .i64 u.op) rfl (hv:=(exec_cell_int (ad:=⟨w.heap.size+1,0,none⟩) rfl kr_ (HZ0u.o.cell 0) isAgg3)) ?_;refine plan.line_same 4 _ (.bool false) rfl (hv:=(exec_neq_int (n:=s.op) (m:=u.op) rfl (hid e0))) ?_;refine plan.line_same 5 _ (.bool false) rfl ?_;refine plan.line_same 6 _ (.pointer (some ⟨w.heap.size,1,none⟩)) rfl ?_;refine plan.line_same 7 _ (.int .i64 s.fm) rfl (hv:=(exec_cell_int (ad:=⟨w.heap.size,1,none⟩) rfl kr_ (HZ0s.o.cell 1) isAgg3)) ?_;refine plan.line_same 8 _ (.pointer (some ⟨w.heap.size+1,1,none⟩)) rfl ?_;refine plan.line_same 9 _ (.int .i64 u.fm) rfl (hv:=(exec_cell_int (ad:=⟨w.heap.size+1,1,none⟩) rfl kr_ (HZ0u.o.cell 1) isAgg3)) ?_;refine plan.line_same 10 _ (.bool false) rfl (hv:=(exec_neq_int (n:=s.fm) (m:=u.fm) rfl (hid e1))) ?_;refine plan.line_same 11 _ (.bool false) rfl ?_;refine plan.line_same 12 _ (.bool false) rfl ?_;refine plan.line_same 13 _ (.pointer (some ⟨w.heap.size,2,none⟩)) rfl ?_;refine plan.line_same 14 _ (.int .i64 s.fd) rfl (hv:=(exec_cell_int (ad:=⟨w.heap.size,2,none⟩) rfl kr_ (HZ0s.o.cell 2) isAgg3)) ?_;refine plan.line_same 15 _ (.pointer (some ⟨w.heap.size+1,2,none⟩)) rfl ?_;refine plan.line_same 16 _ (.int .i64 u.fd) rfl (hv:=(exec_cell_int (ad:=⟨w.heap.size+1,2,none⟩) rfl kr_ (HZ0u.o.cell 2) isAgg3)) ?_;refine plan.line_same 17 _ (.bool true) rfl (hv:=(exec_neq_int (n:=s.fd) (m:=u.fd) rfl (hid e2))) ?_
  exact t117
 have d2:(s.fd == u.fd)=true:=by rw[beq_iff_eq];exact hx
 have e2:(s.fd != u.fd)=false:=by simp[hx]
 have H2:=hid hx;clear hx;by_cases hx:s.pl=u.pl;rotate_left
 ·have d3:(s.pl == u.pl)=false:=by rw[beq_eq_false_iff_ne];exact hx
  have e3:(s.pl != u.pl)=true:=by simp[hx]
  obtain rfl:false=r:=by rw[<-hr.o];exact(decide_eq_false (fun e=>hx (sp_eq.1 e).1.2.2.2.1)).symm
  clear hx;go_enter func60,ntmps60;go_upto_region 1 with fail
  rw[HW0.o];refine plan.line ?_;refine plan.line_same 0 _ (.pointer (some ⟨w.heap.size,0,none⟩)) rfl ?_;refine plan.line_same 1 _ (.int .i64 s.op) rfl (hv:=(exec_cell_int (ad:=⟨w.heap.size,0,none⟩) rfl kr_ (HZ0s.o.cell 0) isAgg3)) ?_;refine plan.line_same 2 _ (.pointer (some ⟨w.heap.size+1,0,none⟩)) rfl ?_;refine plan.line_same 3 _ (.int .i64 u.op) rfl (hv:=(exec_cell_int (ad:=⟨w.heap.size+1,0,none⟩) rfl kr_ (HZ0u.o.cell 0) isAgg3)) ?_;refine plan.line_same 4 _ (.bool false) rfl (hv:=(exec_neq_int (n:=s.op) (m:=u.op) rfl (hid e0))) ?_;refine plan.line_same 5 _ (.bool false) rfl ?_;refine plan.line_same 6 _ (.pointer (some ⟨w.heap.size,1,none⟩)) rfl ?_;refine plan.line_same 7 _ (.int .i64 s.fm) rfl (hv:=(exec_cell_int (ad:=⟨w.heap.size,1,none⟩) rfl kr_ (HZ0s.o.cell 1) isAgg3)) ?_;refine plan.line_same 8 _ (.pointer (some ⟨w.heap.size+1,1,none⟩)) rfl ?_;refine plan.line_same 9 _ (.int .i64 u.fm) rfl (hv:=(exec_cell_int (ad:=⟨w.heap.size+1,1,none⟩) rfl kr_ (HZ0u.o.cell 1) isAgg3)) ?_;refine plan.line_same 10 _ (.bool false) rfl (hv:=(exec_neq_int (n:=s.fm) (m:=u.fm) rfl (hid e1))) ?_;refine plan.line_same 11 _ (.bool false) rfl ?_;refine plan.line_same 12 _ (.bool false) rfl ?_;refine plan.line_same 13 _ (.pointer (some ⟨w.heap.size,2,none⟩)) rfl ?_;refine plan.line_same 14 _ (.int .i64 s.fd) rfl (hv:=(exec_cell_int (ad:=⟨w.heap.size,2,none⟩) rfl kr_ (HZ0s.o.cell 2) isAgg3)) ?_;refine plan.line_same 15 _ (.pointer (some ⟨w.heap.size+1,2,none⟩)) rfl ?_;refine plan.line_same 16 _ (.int .i64 u.fd) rfl (hv:=(exec_cell_int (ad:=⟨w.heap.size+1,2,none⟩) rfl kr_ (HZ0u.o.cell 2) isAgg3)) ?_;refine plan.line_same 17 _ (.bool false) rfl (hv:=(exec_neq_int (n:=s.fd) (m:=u.fd) rfl (hid e2))) ?_;refine plan.line_same 18 _ (.bool false) rfl ?_;refine plan.line_same 19 _ (.bool false) rfl ?_;refine plan.line_same 20 _ (.pointer (some ⟨w.heap.size,3,none⟩)) rfl ?_;refine plan.line_same 21 _ (.int .i64 s.pl) rfl (hv:=(exec_cell_int (ad:=⟨w.heap.size,3,none⟩) rfl kr_ (HZ0s.o.cell 3) isAgg3)) ?_;refine plan.line_same 22 _ (.pointer (some ⟨w.heap.size+1,3,none⟩)) rfl ?_;refine plan.line_same 23 _ (.int .i64 u.pl) rfl (hv:=(exec_cell_int (ad:=⟨w.heap.size+1,3,none⟩) rfl kr_ (HZ0u.o.cell 3) isAgg3)) ?_;refine plan.line_same 24 _ (.bool true) rfl (hv:=(exec_neq_int (n:=s.pl) (m:=u.pl) rfl (hid e3))) ?_
  exact t148
 have d3:(s.pl == u.pl)=true:=by rw[beq_iff_eq];exact hx
 have e3:(s.pl != u.pl)=false:=by simp[hx]
 have H3:=hid hx;clear hx;by_cases hx:s.tt=u.tt;rotate_left
 ·have d4:(s.tt == u.tt)=false:=by rw[beq_eq_false_iff_ne];exact hx
  have e4:(s.tt != u.tt)=true:=by simp[hx]
  obtain rfl:false=r:=by rw[<-hr.o];exact(decide_eq_false (fun e=>hx (sp_eq.1 e).1.2.2.2.2.1)).symm
  clear hx;go_enter func60,ntmps60;go_upto_region 1 with fail
  rw[HW0.o];refine plan.line ?_;refine plan.line_same 0 _ (.pointer (some ⟨w.heap.size,0,none⟩)) rfl ?_;refine plan.line_same 1 _ (.int .i64 s.op) rfl (hv:=(exec_cell_int (ad:=⟨w.heap.size,0,none⟩) rfl kr_ (HZ0s.o.cell 0) isAgg3)) ?_;refine plan.line_same 2 _ (.pointer (some ⟨w.heap.size+1,0,none⟩)) rfl ?_;refine plan.line_same 3 _ (.int .i64 u.op) rfl (hv:=(exec_cell_int (ad:=⟨w.heap.size+1,0,none⟩) rfl kr_ (HZ0u.o.cell 0) isAgg3)) ?_;refine plan.line_same 4 _ (.bool false) rfl (hv:=(exec_neq_int (n:=s.op) (m:=u.op) rfl (hid e0))) ?_;refine plan.line_same 5 _ (.bool false) rfl ?_;refine plan.line_same 6 _ (.pointer (some ⟨w.heap.size,1,none⟩)) rfl ?_;refine plan.line_same 7 _ (.int .i64 s.fm) rfl (hv:=(exec_cell_int (ad:=⟨w.heap.size,1,none⟩) rfl kr_ (HZ0s.o.cell 1) isAgg3)) ?_;refine plan.line_same 8 _ (.pointer (some ⟨w.heap.size+1,1,none⟩)) rfl ?_;refine plan.line_same 9 _ (.int .i64 u.fm) rfl (hv:=(exec_cell_int (ad:=⟨w.heap.size+1,1,none⟩) rfl kr_ (HZ0u.o.cell 1) isAgg3)) ?_;refine plan.line_same 10 _ (.bool false) rfl (hv:=(exec_neq_int (n:=s.fm) (m:=u.fm) rfl (hid e1))) ?_;refine plan.line_same 11 _ (.bool false) rfl ?_;refine plan.line_same 12 _ (.bool false) rfl ?_;refine plan.line_same 13 _ (.pointer (some ⟨w.heap.size,2,none⟩)) rfl ?_;refine plan.line_same 14 _ (.int .i64 s.fd) rfl (hv:=(exec_cell_int (ad:=⟨w.heap.size,2,none⟩) rfl kr_ (HZ0s.o.cell 2) isAgg3)) ?_;refine plan.line_same 15 _ (.pointer (some ⟨w.heap.size+1,2,none⟩)) rfl ?_;refine plan.line_same 16 _ (.int .i64 u.fd) rfl (hv:=(exec_cell_int (ad:=⟨w.heap.size+1,2,none⟩) rfl kr_ (HZ0u.o.cell 2) isAgg3)) ?_;refine plan.line_same 17 _ (.bool false) rfl (hv:=(exec_neq_int (n:=s.fd) (m:=u.fd) rfl (hid e2))) ?_;refine plan.line_same 18 _ (.bool false) rfl ?_;refine plan.line_same 19 _ (.bool false) rfl ?_;refine plan.line_same 20 _ (.pointer (some ⟨w.heap.size,3,none⟩)) rfl ?_;refine plan.line_same 21 _ (.int .i64 s.pl) rfl (hv:=(exec_cell_int (ad:=⟨w.heap.size,3,none⟩) rfl kr_ (HZ0s.o.cell 3) isAgg3)) ?_;refine plan.line_same 22 _ (.pointer (some ⟨w.heap.size+1,3,none⟩)) rfl ?_;refine plan.line_same 23 _ (.int .i64 u.pl) rfl (hv:=(exec_cell_int (ad:=⟨w.heap.size+1,3,none⟩) rfl kr_ (HZ0u.o.cell 3) isAgg3)) ?_;refine plan.line_same 24 _ (.bool false) rfl (hv:=(exec_neq_int (n:=s.pl) (m:=u.pl) rfl (hid e3))) ?_;refine plan.line_same 25 _ (.bool false) rfl ?_;refine plan.line_same 26 _ (.bool false) rfl ?_;refine plan.line_same 27 _ (.pointer (some ⟨w.heap.size,4,none⟩)) rfl ?_;refine plan.line_same 28 _ (.int .i64 s.tt) rfl (hv:=(exec_cell_int (ad:=⟨w.heap.size,4,none⟩) rfl kr_ (HZ0s.o.cell 4) isAgg3)) ?_;refine plan.line_same 29 _ (.pointer (some ⟨w.heap.size+1,4,none⟩)) rfl ?_;refine plan.line_same 30 _ (.int .i64 u.tt) rfl (hv:=(exec_cell_int (ad:=⟨w.heap.size+1,4,none⟩) rfl kr_ (HZ0u.o.cell 4) isAgg3)) ?_;refine plan.line_same 31 _ (.bool true) rfl (hv:=(exec_neq_int (n:=s.tt) (m:=u.tt) rfl (hid e4))) ?_
  exact t154
 have d4:(s.tt == u.tt)=true:=by rw[beq_iff_eq];exact hx
 have e4:(s.tt != u.tt)=false:=by simp[hx]
 have H4:=hid hx;clear hx;by_cases hx:s.a=u.a;rotate_left
 ·have d5:(s.a == u.a)=false:=by rw[beq_eq_false_iff_ne];exact hx
  have e5:(s.a != u.a)=true:=by simp[hx]
  obtain rfl:false=r:=by rw[<-hr.o];exact(decide_eq_false (fun e=>hx (sp_eq.1 e).1.2.2.2.2.2.1)).symm
  clear hx;go_enter func60,ntmps60;go_upto_region 1 with fail
  rw[HW0.o];refine plan.line ?_;refine plan.line_same 0 _ (.pointer (some ⟨w.heap.size,0,none⟩)) rfl ?_;refine plan.line_same 1 _ (.int .i64 s.op) rfl (hv:=(exec_cell_int (ad:=⟨w.heap.size,0,none⟩) rfl kr_ (HZ0s.o.cell 0) isAgg3)) ?_;refine plan.line_same 2 _ (.pointer (some ⟨w.heap.size+1,0,none⟩)) rfl ?_;refine plan.line_same 3 _ (.int .i64 u.op) rfl (hv:=(exec_cell_int (ad:=⟨w.heap.size+1,0,none⟩) rfl kr_ (HZ0u.o.cell 0) isAgg3)) ?_;refine plan.line_same 4 _ (.bool false) rfl (hv:=(exec_neq_int (n:=s.op) (m:=u.op) rfl (hid e0))) ?_;refine plan.line_same 5 _ (.bool false) rfl ?_;refine plan.line_same 6 _ (.pointer (some ⟨w.heap.size,1,none⟩)) rfl ?_;refine plan.line_same 7 _ (.int .i64 s.fm) rfl (hv:=(exec_cell_int (ad:=⟨w.heap.size,1,none⟩) rfl kr_ (HZ0s.o.cell 1) isAgg3)) ?_;refine plan.line_same 8 _ (.pointer (some ⟨w.heap.size+1,1,none⟩)) rfl ?_;refine plan.line_same 9 _ (.int .i64 u.fm) rfl (hv:=(exec_cell_int (ad:=⟨w.heap.size+1,1,none⟩) rfl kr_ (HZ0u.o.cell 1) isAgg3)) ?_;refine plan.line_same 10 _ (.bool false) rfl (hv:=(exec_neq_int (n:=s.fm) (m:=u.fm) rfl (hid e1))) ?_;refine plan.line_same 11 _ (.bool false) rfl ?_;refine plan.line_same 12 _ (.bool false) rfl ?_;refine plan.line_same 13 _ (.pointer (some ⟨w.heap.size,2,none⟩)) rfl ?_;refine plan.line_same 14 _ (.int .i64 s.fd) rfl (hv:=(exec_cell_int (ad:=⟨w.heap.size,2,none⟩) rfl kr_ (HZ0s.o.cell 2) isAgg3)) ?_;refine plan.line_same 15 _ (.pointer (some ⟨w.heap.size+1,2,none⟩)) rfl ?_;refine plan.line_same 16 _ (.int .i64 u.fd) rfl (hv:=(exec_cell_int (ad:=⟨w.heap.size+1,2,none⟩) rfl kr_ (HZ0u.o.cell 2) isAgg3)) ?_;refine plan.line_same 17 _ (.bool false) rfl (hv:=(exec_neq_int (n:=s.fd) (m:=u.fd) rfl (hid e2))) ?_;refine plan.line_same 18 _ (.bool false) rfl ?_;refine plan.line_same 19 _ (.bool false) rfl ?_;refine plan.line_same 20 _ (.pointer (some ⟨w.heap.size,3,none⟩)) rfl ?_;refine plan.line_same 21 _ (.int .i64 s.pl) rfl (hv:=(exec_cell_int (ad:=⟨w.heap.size,3,none⟩) rfl kr_ (HZ0s.o.cell 3) isAgg3)) ?_;refine plan.line_same 22 _ (.pointer (some ⟨w.heap.size+1,3,none⟩)) rfl ?_;refine plan.line_same 23 _ (.int .i64 u.pl) rfl (hv:=(exec_cell_int (ad:=⟨w.heap.size+1,3,none⟩) rfl kr_ (HZ0u.o.cell 3) isAgg3)) ?_;refine plan.line_same 24 _ (.bool false) rfl (hv:=(exec_neq_int (n:=s.pl) (m:=u.pl) rfl (hid e3))) ?_;refine plan.line_same 25 _ (.bool false) rfl ?_;refine plan.line_same 26 _ (.bool false) rfl ?_;refine plan.line_same 27 _ (.pointer (some ⟨w.heap.size,4,none⟩)) rfl ?_;refine plan.line_same 28 _ (.int .i64 s.tt) rfl (hv:=(exec_cell_int (ad:=⟨w.heap.size,4,none⟩) rfl kr_ (HZ0s.o.cell 4) isAgg3)) ?_;refine plan.line_same 29 _ (.pointer (some ⟨w.heap.size+1,4,none⟩)) rfl ?_;refine plan.line_same 30 _ (.int .i64 u.tt) rfl (hv:=(exec_cell_int (ad:=⟨w.heap.size+1,4,none⟩) rfl kr_ (HZ0u.o.cell 4) isAgg3)) ?_;refine plan.line_same 31 _ (.bool false) rfl (hv:=(exec_neq_int (n:=s.tt) (m:=u.tt) rfl (hid e4))) ?_;refine plan.line_same 32 _ (.bool false) rfl ?_;refine plan.line_same 33 _ (.bool false) rfl ?_;refine plan.line_same 34 _ (.pointer (some ⟨w.heap.size,5,none⟩)) rfl ?_;refine plan.line_same 35 _ (.int .i64 s.a) rfl (hv:=(exec_cell_int (ad:=⟨w.heap.size,5,none⟩) rfl kr_ (HZ0s.o.cell 5) isAgg3)) ?_;refine plan.line_same 36 _ (.pointer (some ⟨w.heap.size+1,5,none⟩)) rfl ?_;refine plan.line_same 37 _ (.int .i64 u.a) rfl (hv:=(exec_cell_int (ad:=⟨w.heap.size+1,5,none⟩) rfl kr_ (HZ0u.o.cell 5) isAgg3)) ?_;refine plan.line_same 38 _ (.bool true) rfl (hv:=(exec_neq_int (n:=s.a) (m:=u.a) rfl (hid e5))) ?_
  exact t1
 have d5:(s.a == u.a)=true:=by rw[beq_iff_eq];exact hx
 have e5:(s.a != u.a)=false:=by simp[hx]
 have H5:=hid hx;clear hx;by_cases hx:s.b=u.b;rotate_left
 ·have d6:(s.b == u.b)=false:=by rw[beq_eq_false_iff_ne];exact hx
  have e6:(s.b != u.b)=true:=by simp[hx]
  obtain rfl:false=r:=by rw[<-hr.o];exact(decide_eq_false (fun e=>hx (sp_eq.1 e).1.2.2.2.2.2.2)).symm
  clear hx;go_enter func60,ntmps60;go_upto_region 1 with fail
  rw[HW0.o];refine plan.line ?_;refine plan.line_same 0 _ (.pointer (some ⟨w.heap.size,0,none⟩)) rfl ?_;refine plan.line_same 1 _ (.int .i64 s.op) rfl (hv:=(exec_cell_int (ad:=⟨w.heap.size,0,none⟩) rfl kr_ (HZ0s.o.cell 0) isAgg3)) ?_;refine plan.line_same 2 _ (.pointer (some ⟨w.heap.size+1,0,none⟩)) rfl ?_;refine plan.line_same 3 _ (.int .i64 u.op) rfl (hv:=(exec_cell_int (ad:=⟨w.heap.size+1,0,none⟩) rfl kr_ (HZ0u.o.cell 0) isAgg3)) ?_;refine plan.line_same 4 _ (.bool false) rfl (hv:=(exec_neq_int (n:=s.op) (m:=u.op) rfl (hid e0))) ?_;refine plan.line_same 5 _ (.bool false) rfl ?_;refine plan.line_same 6 _ (.pointer (some ⟨w.heap.size,1,none⟩)) rfl ?_;refine plan.line_same 7 _ (.int .i64 s.fm) rfl (hv:=(exec_cell_int (ad:=⟨w.heap.size,1,none⟩) rfl kr_ (HZ0s.o.cell 1) isAgg3)) ?_;refine plan.line_same 8 _ (.pointer (some ⟨w.heap.size+1,1,none⟩)) rfl ?_;refine plan.line_same 9 _ (.int .i64 u.fm) rfl (hv:=(exec_cell_int (ad:=⟨w.heap.size+1,1,none⟩) rfl kr_ (HZ0u.o.cell 1) isAgg3)) ?_;refine plan.line_same 10 _ (.bool false) rfl (hv:=(exec_neq_int (n:=s.fm) (m:=u.fm) rfl (hid e1))) ?_;refine plan.line_same 11 _ (.bool false) rfl ?_;refine plan.line_same 12 _ (.bool false) rfl ?_;refine plan.line_same 13 _ (.pointer (some ⟨w.heap.size,2,none⟩)) rfl ?_;refine plan.line_same 14 _ (.int .i64 s.fd) rfl (hv:=(exec_cell_int (ad:=⟨w.heap.size,2,none⟩) rfl kr_ (HZ0s.o.cell 2) isAgg3)) ?_;refine plan.line_same 15 _ (.pointer (some ⟨w.heap.size+1,2,none⟩)) rfl ?_;refine plan.line_same 16 _ (.int .i64 u.fd) rfl (hv:=(exec_cell_int (ad:=⟨w.heap.size+1,2,none⟩) rfl kr_ (HZ0u.o.cell 2) isAgg3)) ?_;refine plan.line_same 17 _ (.bool false) rfl (hv:=(exec_neq_int (n:=s.fd) (m:=u.fd) rfl (hid e2))) ?_;refine plan.line_same 18 _ (.bool false) rfl ?_;refine plan.line_same 19 _ (.bool false) rfl ?_;refine plan.line_same 20 _ (.pointer (some ⟨w.heap.size,3,none⟩)) rfl ?_;refine plan.line_same 21 _ (.int .i64 s.pl) rfl (hv:=(exec_cell_int (ad:=⟨w.heap.size,3,none⟩) rfl kr_ (HZ0s.o.cell 3) isAgg3)) ?_;refine plan.line_same 22 _ (.pointer (some ⟨w.heap.size+1,3,none⟩)) rfl ?_;refine plan.line_same 23 _ (.int .i64 u.pl) rfl (hv:=(exec_cell_int (ad:=⟨w.heap.size+1,3,none⟩) rfl kr_ (HZ0u.o.cell 3) isAgg3)) ?_;refine plan.line_same 24 _ (.bool false) rfl (hv:=(exec_neq_int (n:=s.pl) (m:=u.pl) rfl (hid e3))) ?_;refine plan.line_same 25 _ (.bool false) rfl ?_;refine plan.line_same 26 _ (.bool false) rfl ?_;refine plan.line_same 27 _ (.pointer (some ⟨w.heap.size,4,none⟩)) rfl ?_;refine plan.line_same 28 _ (.int .i64 s.tt) rfl (hv:=(exec_cell_int (ad:=⟨w.heap.size,4,none⟩) rfl kr_ (HZ0s.o.cell 4) isAgg3)) ?_;refine plan.line_same 29 _ (.pointer (some ⟨w.heap.size+1,4,none⟩)) rfl ?_;refine plan.line_same 30 _ (.int .i64 u.tt) rfl (hv:=(exec_cell_int (ad:=⟨w.heap.size+1,4,none⟩) rfl kr_ (HZ0u.o.cell 4) isAgg3)) ?_;refine plan.line_same 31 _ (.bool false) rfl (hv:=(exec_neq_int (n:=s.tt) (m:=u.tt) rfl (hid e4))) ?_;refine plan.line_same 32 _ (.bool false) rfl ?_;refine plan.line_same 33 _ (.bool false) rfl ?_;refine plan.line_same 34 _ (.pointer (some ⟨w.heap.size,5,none⟩)) rfl ?_;refine plan.line_same 35 _ (.int .i64 s.a) rfl (hv:=(exec_cell_int (ad:=⟨w.heap.size,5,none⟩) rfl kr_ (HZ0s.o.cell 5) isAgg3)) ?_;refine plan.line_same 36 _ (.pointer (some ⟨w.heap.size+1,5,none⟩)) rfl ?_;refine plan.line_same 37 _ (.int .i64 u.a) rfl (hv:=(exec_cell_int (ad:=⟨w.heap.size+1,5,none⟩) rfl kr_ (HZ0u.o.cell 5) isAgg3)) ?_;refine plan.line_same 38 _ (.bool false) rfl (hv:=(exec_neq_int (n:=s.a) (m:=u.a) rfl (hid e5))) ?_;refine plan.line_same 39 _ (.bool false) rfl ?_;refine plan.line_same 40 _ (.bool false) rfl ?_;refine plan.line_same 41 _ (.pointer (some ⟨w.heap.size,6,none⟩)) rfl ?_;refine plan.line_same 42 _ (.int .i64 s.b) rfl (hv:=(exec_cell_int (ad:=⟨w.heap.size,6,none⟩) rfl kr_ (HZ0s.o.cell 6) isAgg3)) ?_;refine plan.line_same 43 _ (.pointer (some ⟨w.heap.size+1,6,none⟩)) rfl ?_;refine plan.line_same 44 _ (.int .i64 u.b) rfl (hv:=(exec_cell_int (ad:=⟨w.heap.size+1,6,none⟩) rfl kr_ (HZ0u.o.cell 6) isAgg3)) ?_;refine plan.line_same 45 _ (.bool true) rfl (hv:=(exec_neq_int (n:=s.b) (m:=u.b) rfl (hid e6))) ?_
  exact t153
 have d6:(s.b == u.b)=true:=by rw[beq_iff_eq];exact hx
 have e6:(s.b != u.b)=false:=by simp[hx]
 have H6:=hid hx;clear hx;have kR:=fun W=>neq_fd s.f u.f W
 have hgf:=fun(x y:Operand) (p q:Array Value) W=>eqg_fd .neq x y p q W
 by_cases hx:s.f=u.f;rotate_left
 ·rw[decide_eq_false hx] at kR;obtain rfl:false=r:=by rw[<-hr.o];exact(decide_eq_false (fun e=>hx (sp_eq.1 e).2.1)).symm
  clear hx;go_enter func60,ntmps60;go_upto_region 1 with fail
  rw[HW0.o];refine plan.line ?_;refine plan.line_same 0 _ (.pointer (some ⟨w.heap.size,0,none⟩)) rfl ?_;refine plan.line_same 1 _ (.int .i64 s.op) rfl (hv:=(exec_cell_int (ad:=⟨w.heap.size,0,none⟩) rfl kr_ (HZ0s.o.cell 0) isAgg3)) ?_;refine plan.line_same 2 _ (.pointer (some ⟨w.heap.size+1,0,none⟩)) rfl ?_;refine plan.line_same 3 _ (.int .i64 u.op) rfl (hv:=(exec_cell_int (ad:=⟨w.heap.size+1,0,none⟩) rfl kr_ (HZ0u.o.cell 0) isAgg3)) ?_;refine plan.line_same 4 _ (.bool false) rfl (hv:=(exec_neq_int (n:=s.op) (m:=u.op) rfl (hid e0))) ?_;refine plan.line_same 5 _ (.bool false) rfl ?_;refine plan.line_same 6 _ (.pointer (some ⟨w.heap.size,1,none⟩)) rfl ?_;refine plan.line_same 7 _ (.int .i64 s.fm) rfl (hv:=(exec_cell_int (ad:=⟨w.heap.size,1,none⟩) rfl kr_ (HZ0s.o.cell 1) isAgg3)) ?_;refine plan.line_same 8 _ (.pointer (some ⟨w.heap.size+1,1,none⟩)) rfl ?_;refine plan.line_same 9 _ (.int .i64 u.fm) rfl (hv:=(exec_cell_int (ad:=⟨w.heap.size+1,1,none⟩) rfl kr_ (HZ0u.o.cell 1) isAgg3)) ?_;refine plan.line_same 10 _ (.bool false) rfl (hv:=(exec_neq_int (n:=s.fm) (m:=u.fm) rfl (hid e1))) ?_;refine plan.line_same 11 _ (.bool false) rfl ?_;refine plan.line_same 12 _ (.bool false) rfl ?_;refine plan.line_same 13 _ (.pointer (some ⟨w.heap.size,2,none⟩)) rfl ?_;refine plan.line_same 14 _ (.int .i64 s.fd) rfl (hv:=(exec_cell_int (ad:=⟨w.heap.size,2,none⟩) rfl kr_ (HZ0s.o.cell 2) isAgg3)) ?_;refine plan.line_same 15 _ (.pointer (some ⟨w.heap.size+1,2,none⟩)) rfl ?_;refine plan.line_same 16 _ (.int .i64 u.fd) rfl (hv:=(exec_cell_int (ad:=⟨w.heap.size+1,2,none⟩) rfl kr_ (HZ0u.o.cell 2) isAgg3)) ?_;refine plan.line_same 17 _ (.bool false) rfl (hv:=(exec_neq_int (n:=s.fd) (m:=u.fd) rfl (hid e2))) ?_;refine plan.line_same 18 _ (.bool false) rfl ?_;refine plan.line_same 19 _ (.bool false) rfl ?_;refine plan.line_same 20 _ (.pointer (some ⟨w.heap.size,3,none⟩)) rfl ?_;refine plan.line_same 21 _ (.int .i64 s.pl) rfl (hv:=(exec_cell_int (ad:=⟨w.heap.size,3,none⟩) rfl kr_ (HZ0s.o.cell 3) isAgg3)) ?_;refine plan.line_same 22 _ (.pointer (some ⟨w.heap.size+1,3,none⟩)) rfl ?_;refine plan.line_same 23 _ (.int .i64 u.pl) rfl (hv:=(exec_cell_int (ad:=⟨w.heap.size+1,3,none⟩) rfl kr_ (HZ0u.o.cell 3) isAgg3)) ?_;refine plan.line_same 24 _ (.bool false) rfl (hv:=(exec_neq_int (n:=s.pl) (m:=u.pl) rfl (hid e3))) ?_;refine plan.line_same 25 _ (.bool false) rfl ?_;refine plan.line_same 26 _ (.bool false) rfl ?_;refine plan.line_same 27 _ (.pointer (some ⟨w.heap.size,4,none⟩)) rfl ?_;refine plan.line_same 28 _ (.int .i64 s.tt) rfl (hv:=(exec_cell_int (ad:=⟨w.heap.size,4,none⟩) rfl kr_ (HZ0s.o.cell 4) isAgg3)) ?_;refine plan.line_same 29 _ (.pointer (some ⟨w.heap.size+1,4,none⟩)) rfl ?_;refine plan.line_same 30 _ (.int .i64 u.tt) rfl (hv:=(exec_cell_int (ad:=⟨w.heap.size+1,4,none⟩) rfl kr_ (HZ0u.o.cell 4) isAgg3)) ?_;refine plan.line_same 31 _ (.bool false) rfl (hv:=(exec_neq_int (n:=s.tt) (m:=u.tt) rfl (hid e4))) ?_;refine plan.line_same 32 _ (.bool false) rfl ?_;refine plan.line_same 33 _ (.bool false) rfl ?_;refine plan.line_same 34 _ (.pointer (some ⟨w.heap.size,5,none⟩)) rfl ?_;refine plan.line_same 35 _ (.int .i64 s.a) rfl (hv:=(exec_cell_int (ad:=⟨w.heap.size,5,none⟩) rfl kr_ (HZ0s.o.cell 5) isAgg3)) ?_;refine plan.line_same 36 _ (.pointer (some ⟨w.heap.size+1,5,none⟩)) rfl ?_;refine plan.line_same 37 _ (.int .i64 u.a) rfl (hv:=(exec_cell_int (ad:=⟨w.heap.size+1,5,none⟩) rfl kr_ (HZ0u.o.cell 5) isAgg3)) ?_;refine plan.line_same 38 _ (.bool false) rfl (hv:=(exec_neq_int (n:=s.a) (m:=u.a) rfl (hid e5))) ?_;refine plan.line_same 39 _ (.bool false) rfl ?_;refine plan.line_same 40 _ (.bool false) rfl ?_;refine plan.line_same 41 _ (.pointer (some ⟨w.heap.size,6,none⟩)) rfl ?_;refine plan.line_same 42 _ (.int .i64 s.b) rfl (hv:=(exec_cell_int (ad:=⟨w.heap.size,6,none⟩) rfl kr_ (HZ0s.o.cell 6) isAgg3)) ?_;refine plan.line_same 43 _ (.pointer (some ⟨w.heap.size+1,6,none⟩)) rfl ?_;refine plan.line_same 44 _ (.int .i64 u.b) rfl (hv:=(exec_cell_int (ad:=⟨w.heap.size+1,6,none⟩) rfl kr_ (HZ0u.o.cell 6) isAgg3)) ?_;refine plan.line_same 45 _ (.bool false) rfl (hv:=(exec_neq_int (n:=s.b) (m:=u.b) rfl (hid e6))) ?_;refine plan.line_same 46 _ (.bool false) rfl ?_;refine plan.line_same 47 _ (.bool false) rfl ?_;refine plan.line_same 48 _ (.pointer (some ⟨w.heap.size,7,none⟩)) rfl ?_;refine plan.line_same 49 _ (zF s.f) rfl (hv:=(exec_load_at (b:=w.heap.size) (off:=7) rfl (range_f HZ0s.o) underlying79 rfl info_fd.o)) ?_;refine plan.line_same 50 _ (.pointer (some ⟨w.heap.size+1,7,none⟩)) rfl ?_;refine plan.line_same 51 _ (zF u.f) rfl (hv:=(exec_load_at (b:=w.heap.size+1) (off:=7) rfl (range_f HZ0u.o) underlying79 rfl info_fd.o)) ?_;refine plan.line_same 52 _ (.bool true) rfl (hv:=(exec_two rfl (eqg_fd _ _ _ _ _ _) (kR _))) ?_
  exact t147
 rw[decide_eq_true hx] at kR;have H7:=hid hx;clear hx;have mg:=fun W=>neq_va s.v u.v W
 have hgv:=fun(x y:Operand) (p q:Array Value) W=>eqg_va .neq x y p q W
 by_cases hx:s.v=u.v;rotate_left
 ·rw[decide_eq_false hx] at mg;obtain rfl:false=r:=by rw[<-hr.o];exact(decide_eq_false (fun e=>hx (sp_eq.1 e).2.2.1)).symm
  clear hx;go_enter func60,ntmps60;go_upto_region 1 with fail
  rw[HW0.o];refine plan.line ?_;refine plan.line_same 0 _ (.pointer (some ⟨w.heap.size,0,none⟩)) rfl ?_;refine plan.line_same 1 _ (.int .i64 s.op) rfl (hv:=(exec_cell_int (ad:=⟨w.heap.size,0,none⟩) rfl kr_ (HZ0s.o.cell 0) isAgg3)) ?_;refine plan.line_same 2 _ (.pointer (some ⟨w.heap.size+1,0,none⟩)) rfl ?_;refine plan.line_same 3 _ (.int .i64 u.op) rfl (hv:=(exec_cell_int (ad:=⟨w.heap.size+1,0,none⟩) rfl kr_ (HZ0u.o.cell 0) isAgg3)) ?_;refine plan.line_same 4 _ (.bool false) rfl (hv:=(exec_neq_int (n:=s.op) (m:=u.op) rfl (hid e0))) ?_;refine plan.line_same 5 _ (.bool false) rfl ?_;refine plan.line_same 6 _ (.pointer (some ⟨w.heap.size,1,none⟩)) rfl ?_;refine plan.line_same 7 _ (.int .i64 s.fm) rfl (hv:=(exec_cell_int (ad:=⟨w.heap.size,1,none⟩) rfl kr_ (HZ0s.o.cell 1) isAgg3)) ?_;refine plan.line_same 8 _ (.pointer (some ⟨w.heap.size+1,1,none⟩)) rfl ?_;refine plan.line_same 9 _ (.int .i64 u.fm) rfl (hv:=(exec_cell_int (ad:=⟨w.heap.size+1,1,none⟩) rfl kr_ (HZ0u.o.cell 1) isAgg3)) ?_;refine plan.line_same 10 _ (.bool false) rfl (hv:=(exec_neq_int (n:=s.fm) (m:=u.fm) rfl (hid e1))) ?_;refine plan.line_same 11 _ (.bool false) rfl ?_;refine plan.line_same 12 _ (.bool false) rfl ?_;refine plan.line_same 13 _ (.pointer (some ⟨w.heap.size,2,none⟩)) rfl ?_;refine plan.line_same 14 _ (.int .i64 s.fd) rfl (hv:=(exec_cell_int (ad:=⟨w.heap.size,2,none⟩) rfl kr_ (HZ0s.o.cell 2) isAgg3)) ?_;refine plan.line_same 15 _ (.pointer (some ⟨w.heap.size+1,2,none⟩)) rfl ?_;refine plan.line_same 16 _ (.int .i64 u.fd) rfl (hv:=(exec_cell_int (ad:=⟨w.heap.size+1,2,none⟩) rfl kr_ (HZ0u.o.cell 2) isAgg3)) ?_;refine plan.line_same 17 _ (.bool false) rfl (hv:=(exec_neq_int (n:=s.fd) (m:=u.fd) rfl (hid e2))) ?_;refine plan.line_same 18 _ (.bool false) rfl ?_;refine plan.line_same 19 _ (.bool false) rfl ?_;refine plan.line_same 20 _ (.pointer (some ⟨w.heap.size,3,none⟩)) rfl ?_;refine plan.line_same 21 _ (.int .i64 s.pl) rfl (hv:=(exec_cell_int (ad:=⟨w.heap.size,3,none⟩) rfl kr_ (HZ0s.o.cell 3) isAgg3)) ?_;refine plan.line_same 22 _ (.pointer (some ⟨w.heap.size+1,3,none⟩)) rfl ?_;refine plan.line_same 23 _ (.int .i64 u.pl) rfl (hv:=(exec_cell_int (ad:=⟨w.heap.size+1,3,none⟩) rfl kr_ (HZ0u.o.cell 3) isAgg3)) ?_;refine plan.line_same 24 _ (.bool false) rfl (hv:=(exec_neq_int (n:=s.pl) (m:=u.pl) rfl (hid e3))) ?_;refine plan.line_same 25 _ (.bool false) rfl ?_;refine plan.line_same 26 _ (.bool false) rfl ?_;refine plan.line_same 27 _ (.pointer (some ⟨w.heap.size,4,none⟩)) rfl ?_;refine plan.line_same 28 _ (.int .i64 s.tt) rfl (hv:=(exec_cell_int (ad:=⟨w.heap.size,4,none⟩) rfl kr_ (HZ0s.o.cell 4) isAgg3)) ?_;refine plan.line_same 29 _ (.pointer (some ⟨w.heap.size+1,4,none⟩)) rfl ?_;refine plan.line_same 30 _ (.int .i64 u.tt) rfl (hv:=(exec_cell_int (ad:=⟨w.heap.size+1,4,none⟩) rfl kr_ (HZ0u.o.cell 4) isAgg3)) ?_;refine plan.line_same 31 _ (.bool false) rfl (hv:=(exec_neq_int (n:=s.tt) (m:=u.tt) rfl (hid e4))) ?_;refine plan.line_same 32 _ (.bool false) rfl ?_;refine plan.line_same 33 _ (.bool false) rfl ?_;refine plan.line_same 34 _ (.pointer (some ⟨w.heap.size,5,none⟩)) rfl ?_;refine plan.line_same 35 _ (.int .i64 s.a) rfl (hv:=(exec_cell_int (ad:=⟨w.heap.size,5,none⟩) rfl kr_ (HZ0s.o.cell 5) isAgg3)) ?_;refine plan.line_same 36 _ (.pointer (some ⟨w.heap.size+1,5,none⟩)) rfl ?_;refine plan.line_same 37 _ (.int .i64 u.a) rfl (hv:=(exec_cell_int (ad:=⟨w.heap.size+1,5,none⟩) rfl kr_ (HZ0u.o.cell 5) isAgg3)) ?_;refine plan.line_same 38 _ (.bool false) rfl (hv:=(exec_neq_int (n:=s.a) (m:=u.a) rfl (hid e5))) ?_;refine plan.line_same 39 _ (.bool false) rfl ?_;refine plan.line_same 40 _ (.bool false) rfl ?_;refine plan.line_same 41 _ (.pointer (some ⟨w.heap.size,6,none⟩)) rfl ?_;refine plan.line_same 42 _ (.int .i64 s.b) rfl (hv:=(exec_cell_int (ad:=⟨w.heap.size,6,none⟩) rfl kr_ (HZ0s.o.cell 6) isAgg3)) ?_;refine plan.line_same 43 _ (.pointer (some ⟨w.heap.size+1,6,none⟩)) rfl ?_;refine plan.line_same 44 _ (.int .i64 u.b) rfl (hv:=(exec_cell_int (ad:=⟨w.heap.size+1,6,none⟩) rfl kr_ (HZ0u.o.cell 6) isAgg3)) ?_;refine plan.line_same 45 _ (.bool false) rfl (hv:=(exec_neq_int (n:=s.b) (m:=u.b) rfl (hid e6))) ?_;refine plan.line_same 46 _ (.bool false) rfl ?_;refine plan.line_same 47 _ (.bool false) rfl ?_;refine plan.line_same 48 _ (.pointer (some ⟨w.heap.size,7,none⟩)) rfl ?_;refine plan.line_same 49 _ (zF s.f) rfl (hv:=(exec_load_at (b:=w.heap.size) (off:=7) rfl (range_f HZ0s.o) underlying79 rfl info_fd.o)) ?_;refine plan.line_same 50 _ (.pointer (some ⟨w.heap.size+1,7,none⟩)) rfl ?_;refine plan.line_same 51 _ (zF u.f) rfl (hv:=(exec_load_at (b:=w.heap.size+1) (off:=7) rfl (range_f HZ0u.o) underlying79 rfl info_fd.o)) ?_;refine plan.line_same 52 _ (.bool false) rfl (hv:=(exec_two rfl (eqg_fd _ _ _ _ _ _) (kR _))) ?_;refine plan.line_same 53 _ (.bool false) rfl ?_;refine plan.line_same 54 _ (.bool false) rfl ?_;refine plan.line_same 55 _ (.pointer (some ⟨w.heap.size,12,none⟩)) rfl ?_;refine plan.line_same 56 _ (zV s.v) rfl (hv:=(exec_load_at (b:=w.heap.size) (off:=12) rfl (range_v HZ0s.o) underlying81 rfl info_va.o)) ?_;refine plan.line_same 57 _ (.pointer (some ⟨w.heap.size+1,12,none⟩)) rfl ?_;refine plan.line_same 58 _ (zV u.v) rfl (hv:=(exec_load_at (b:=w.heap.size+1) (off:=12) rfl (range_v HZ0u.o) underlying81 rfl info_va.o)) ?_;refine plan.line_same 59 _ (.bool true) rfl (hv:=(exec_two rfl (eqg_va _ _ _ _ _ _) (mg _))) ?_
  exact t116
 rw[decide_eq_true hx] at mg;have H8:=hid hx;clear hx;by_cases hx:s.t.length=u.t.length;rotate_left
 ·have d9:((s.t.length:Int) == (u.t.length:Int))=false:=by rw[beq_eq_false_iff_ne];omega
  have e9:((s.t.length:Int) != (u.t.length:Int))=true:=by rw[bne_iff_ne];omega
  replace hx:¬s.t=u.t:=fun e=>hx (by rw[e])
  obtain rfl:false=r:=by rw[<-hr.o];exact(decide_eq_false (fun e=>hx (sp_eq.1 e).2.2.2.1)).symm
  clear hx;go_enter func60,ntmps60;go_upto_region 1 with fail
  rw[HW0.o];refine plan.line ?_;refine plan.line_same 0 _ (.pointer (some ⟨w.heap.size,0,none⟩)) rfl ?_;refine plan.line_same 1 _ (.int .i64 s.op) rfl (hv:=(exec_cell_int (ad:=⟨w.heap.size,0,none⟩) rfl kr_ (HZ0s.o.cell 0) isAgg3)) ?_;refine plan.line_same 2 _ (.pointer (some ⟨w.heap.size+1,0,none⟩)) rfl ?_;refine plan.line_same 3 _ (.int .i64 u.op) rfl (hv:=(exec_cell_int (ad:=⟨w.heap.size+1,0,none⟩) rfl kr_ (HZ0u.o.cell 0) isAgg3)) ?_;refine plan.line_same 4 _ (.bool false) rfl (hv:=(exec_neq_int (n:=s.op) (m:=u.op) rfl (hid e0))) ?_;refine plan.line_same 5 _ (.bool false) rfl ?_;refine plan.line_same 6 _ (.pointer (some ⟨w.heap.size,1,none⟩)) rfl ?_;refine plan.line_same 7 _ (.int .i64 s.fm) rfl (hv:=(exec_cell_int (ad:=⟨w.heap.size,1,none⟩) rfl kr_ (HZ0s.o.cell 1) isAgg3)) ?_;refine plan.line_same 8 _ (.pointer (some ⟨w.heap.size+1,1,none⟩)) rfl ?_;refine plan.line_same 9 _ (.int .i64 u.fm) rfl (hv:=(exec_cell_int (ad:=⟨w.heap.size+1,1,none⟩) rfl kr_ (HZ0u.o.cell 1) isAgg3)) ?_;refine plan.line_same 10 _ (.bool false) rfl (hv:=(exec_neq_int (n:=s.fm) (m:=u.fm) rfl (hid e1))) ?_;refine plan.line_same 11 _ (.bool false) rfl ?_;refine plan.line_same 12 _ (.bool false) rfl ?_;refine plan.line_same 13 _ (.pointer (some ⟨w.heap.size,2,none⟩)) rfl ?_;refine plan.line_same 14 _ (.int .i64 s.fd) rfl (hv:=(exec_cell_int (ad:=⟨w.heap.size,2,none⟩) rfl kr_ (HZ0s.o.cell 2) isAgg3)) ?_;refine plan.line_same 15 _ (.pointer (some ⟨w.heap.size+1,2,none⟩)) rfl ?_;refine plan.line_same 16 _ (.int .i64 u.fd) rfl (hv:=(exec_cell_int (ad:=⟨w.heap.size+1,2,none⟩) rfl kr_ (HZ0u.o.cell 2) isAgg3)) ?_;refine plan.line_same 17 _ (.bool false) rfl (hv:=(exec_neq_int (n:=s.fd) (m:=u.fd) rfl (hid e2))) ?_;refine plan.line_same 18 _ (.bool false) rfl ?_;refine plan.line_same 19 _ (.bool false) rfl ?_;refine plan.line_same 20 _ (.pointer (some ⟨w.heap.size,3,none⟩)) rfl ?_;refine plan.line_same 21 _ (.int .i64 s.pl) rfl (hv:=(exec_cell_int (ad:=⟨w.heap.size,3,none⟩) rfl kr_ (HZ0s.o.cell 3) isAgg3)) ?_;refine plan.line_same 22 _ (.pointer (some ⟨w.heap.size+1,3,none⟩)) rfl ?_;refine plan.line_same 23 _ (.int .i64 u.pl) rfl (hv:=(exec_cell_int (ad:=⟨w.heap.size+1,3,none⟩) rfl kr_ (HZ0u.o.cell 3) isAgg3)) ?_;refine plan.line_same 24 _ (.bool false) rfl (hv:=(exec_neq_int (n:=s.pl) (m:=u.pl) rfl (hid e3))) ?_;refine plan.line_same 25 _ (.bool false) rfl ?_;refine plan.line_same 26 _ (.bool false) rfl ?_;refine plan.line_same 27 _ (.pointer (some ⟨w.heap.size,4,none⟩)) rfl ?_;refine plan.line_same 28 _ (.int .i64 s.tt) rfl (hv:=(exec_cell_int (ad:=⟨w.heap.size,4,none⟩) rfl kr_ (HZ0s.o.cell 4) isAgg3)) ?_;refine plan.line_same 29 _ (.pointer (some ⟨w.heap.size+1,4,none⟩)) rfl ?_;refine plan.line_same 30 _ (.int .i64 u.tt) rfl (hv:=(exec_cell_int (ad:=⟨w.heap.size+1,4,none⟩) rfl kr_ (HZ0u.o.cell 4) isAgg3)) ?_;refine plan.line_same 31 _ (.bool false) rfl (hv:=(exec_neq_int (n:=s.tt) (m:=u.tt) rfl (hid e4))) ?_;refine plan.line_same 32 _ (.bool false) rfl ?_;refine plan.line_same 33 _ (.bool false) rfl ?_;refine plan.line_same 34 _ (.pointer (some ⟨w.heap.size,5,none⟩)) rfl ?_;refine plan.line_same 35 _ (.int .i64 s.a) rfl (hv:=(exec_cell_int (ad:=⟨w.heap.size,5,none⟩) rfl kr_ (HZ0s.o.cell 5) isAgg3)) ?_;refine plan.line_same 36 _ (.pointer (some ⟨w.heap.size+1,5,none⟩)) rfl ?_;refine plan.line_same 37 _ (.int .i64 u.a) rfl (hv:=(exec_cell_int (ad:=⟨w.heap.size+1,5,none⟩) rfl kr_ (HZ0u.o.cell 5) isAgg3)) ?_;refine plan.line_same 38 _ (.bool false) rfl (hv:=(exec_neq_int (n:=s.a) (m:=u.a) rfl (hid e5))) ?_;refine plan.line_same 39 _ (.bool false) rfl ?_;refine plan.line_same 40 _ (.bool false) rfl ?_;refine plan.line_same 41 _ (.pointer (some ⟨w.heap.size,6,none⟩)) rfl ?_;refine plan.line_same 42 _ (.int .i64 s.b) rfl (hv:=(exec_cell_int (ad:=⟨w.heap.size,6,none⟩) rfl kr_ (HZ0s.o.cell 6) isAgg3)) ?_;refine plan.line_same 43 _ (.pointer (some ⟨w.heap.size+1,6,none⟩)) rfl ?_;refine plan.line_same 44 _ (.int .i64 u.b) rfl (hv:=(exec_cell_int (ad:=⟨w.heap.size+1,6,none⟩) rfl kr_ (HZ0u.o.cell 6) isAgg3)) ?_;refine plan.line_same 45 _ (.bool false) rfl (hv:=(exec_neq_int (n:=s.b) (m:=u.b) rfl (hid e6))) ?_;refine plan.line_same 46 _ (.bool false) rfl ?_;refine plan.line_same 47 _ (.bool false) rfl ?_;refine plan.line_same 48 _ (.pointer (some ⟨w.heap.size,7,none⟩)) rfl ?_;refine plan.line_same 49 _ (zF s.f) rfl (hv:=(exec_load_at (b:=w.heap.size) (off:=7) rfl (range_f HZ0s.o) underlying79 rfl info_fd.o)) ?_;refine plan.line_same 50 _ (.pointer (some ⟨w.heap.size+1,7,none⟩)) rfl ?_;refine plan.line_same 51 _ (zF u.f) rfl (hv:=(exec_load_at (b:=w.heap.size+1) (off:=7) rfl (range_f HZ0u.o) underlying79 rfl info_fd.o)) ?_;refine plan.line_same 52 _ (.bool false) rfl (hv:=(exec_two rfl (eqg_fd _ _ _ _ _ _) (kR _))) ?_;refine plan.line_same 53 _ (.bool false) rfl ?_;refine plan.line_same 54 _ (.bool false) rfl ?_;refine plan.line_same 55 _ (.pointer (some ⟨w.heap.size,12,none⟩)) rfl ?_;refine plan.line_same 56 _ (zV s.v) rfl (hv:=(exec_load_at (b:=w.heap.size) (off:=12) rfl (range_v HZ0s.o) underlying81 rfl info_va.o)) ?_;refine plan.line_same 57 _ (.pointer (some ⟨w.heap.size+1,12,none⟩)) rfl ?_;refine plan.line_same 58 _ (zV u.v) rfl (hv:=(exec_load_at (b:=w.heap.size+1) (off:=12) rfl (range_v HZ0u.o) underlying81 rfl info_va.o)) ?_;refine plan.line_same 59 _ (.bool false) rfl (hv:=(exec_two rfl (eqg_va _ _ _ _ _ _) (mg _))) ?_;refine plan.line_same 60 _ (.bool false) rfl ?_;refine plan.line_same 61 _ (.bool false) rfl ?_;refine plan.line_same 62 _ (.pointer (some ⟨w.heap.size,14,none⟩)) rfl ?_;refine plan.line_same 63 _ (.slice ta s.t.length tc) rfl (hv:=(exec_cell_slice (ad:=⟨w.heap.size,14,none⟩) rfl (HZ0s.o.cell 14) isAgg82)) ?_;refine plan.line_same 64 _ (.int .i64 (s.t.length:Int)) rfl ?_;refine plan.line_same 65 _ (.pointer (some ⟨w.heap.size+1,14,none⟩)) rfl ?_;refine plan.line_same 66 _ (.slice ua u.t.length uc) rfl (hv:=(exec_cell_slice (ad:=⟨w.heap.size+1,14,none⟩) rfl (HZ0u.o.cell 14) isAgg82)) ?_;refine plan.line_same 67 _ (.int .i64 (u.t.length:Int)) rfl ?_;refine plan.line_same 68 _ (.bool true) rfl (hv:=(exec_neq_int (n:=(s.t.length:Int)) (m:=(u.t.length:Int)) rfl (hid e9))) ?_
  exact t149
 have d9:((s.t.length:Int) == (u.t.length:Int))=true:=by rw[beq_iff_eq];omega
 have e9:((s.t.length:Int) != (u.t.length:Int))=false:=by simp[hx]
 have HLT:=hid hx;clear hx;by_cases hx:s.l.length=u.l.length;rotate_left
 ·have d10:((s.l.length:Int) == (u.l.length:Int))=false:=by rw[beq_eq_false_iff_ne];omega
  have e10:((s.l.length:Int) != (u.l.length:Int))=true:=by rw[bne_iff_ne];omega
  replace hx:¬s.l=u.l:=fun e=>hx (by rw[e])
  obtain rfl:false=r:=by rw[<-hr.o];exact(decide_eq_false (fun e=>hx (sp_eq.1 e).2.2.2.2)).symm
  clear hx;go_enter func60,ntmps60;go_upto_region 1 with fail
  rw[HW0.o];refine plan.line ?_;refine plan.line_same 0 _ (.pointer (some ⟨w.heap.size,0,none⟩)) rfl ?_;refine plan.line_same 1 _ (.int .i64 s.op) rfl (hv:=(exec_cell_int (ad:=⟨w.heap.size,0,none⟩) rfl kr_ (HZ0s.o.cell 0) isAgg3)) ?_;refine plan.line_same 2 _ (.pointer (some ⟨w.heap.size+1,0,none⟩)) rfl ?_;refine plan.line_same 3 _ (.int .i64 u.op) rfl (hv:=(exec_cell_int (ad:=⟨w.heap.size+1,0,none⟩) rfl kr_ (HZ0u.o.cell 0) isAgg3)) ?_;refine plan.line_same 4 _ (.bool false) rfl (hv:=(exec_neq_int (n:=s.op) (m:=u.op) rfl (hid e0))) ?_;refine plan.line_same 5 _ (.bool false) rfl ?_;refine plan.line_same 6 _ (.pointer (some ⟨w.heap.size,1,none⟩)) rfl ?_;refine plan.line_same 7 _ (.int .i64 s.fm) rfl (hv:=(exec_cell_int (ad:=⟨w.heap.size,1,none⟩) rfl kr_ (HZ0s.o.cell 1) isAgg3)) ?_;refine plan.line_same 8 _ (.pointer (some ⟨w.heap.size+1,1,none⟩)) rfl ?_;refine plan.line_same 9 _ (.int .i64 u.fm) rfl (hv:=(exec_cell_int (ad:=⟨w.heap.size+1,1,none⟩) rfl kr_ (HZ0u.o.cell 1) isAgg3)) ?_;refine plan.line_same 10 _ (.bool false) rfl (hv:=(exec_neq_int (n:=s.fm) (m:=u.fm) rfl (hid e1))) ?_;refine plan.line_same 11 _ (.bool false) rfl ?_;refine plan.line_same 12 _ (.bool false) rfl ?_;refine plan.line_same 13 _ (.pointer (some ⟨w.heap.size,2,none⟩)) rfl ?_;refine plan.line_same 14 _ (.int .i64 s.fd) rfl (hv:=(exec_cell_int (ad:=⟨w.heap.size,2,none⟩) rfl kr_ (HZ0s.o.cell 2) isAgg3)) ?_;refine plan.line_same 15 _ (.pointer (some ⟨w.heap.size+1,2,none⟩)) rfl ?_;refine plan.line_same 16 _ (.int .i64 u.fd) rfl (hv:=(exec_cell_int (ad:=⟨w.heap.size+1,2,none⟩) rfl kr_ (HZ0u.o.cell 2) isAgg3)) ?_;refine plan.line_same 17 _ (.bool false) rfl (hv:=(exec_neq_int (n:=s.fd) (m:=u.fd) rfl (hid e2))) ?_;refine plan.line_same 18 _ (.bool false) rfl ?_;refine plan.line_same 19 _ (.bool false) rfl ?_;refine plan.line_same 20 _ (.pointer (some ⟨w.heap.size,3,none⟩)) rfl ?_;refine plan.line_same 21 _ (.int .i64 s.pl) rfl (hv:=(exec_cell_int (ad:=⟨w.heap.size,3,none⟩) rfl kr_ (HZ0s.o.cell 3) isAgg3)) ?_;refine plan.line_same 22 _ (.pointer (some ⟨w.heap.size+1,3,none⟩)) rfl ?_;refine plan.line_same 23 _ (.int .i64 u.pl) rfl (hv:=(exec_cell_int (ad:=⟨w.heap.size+1,3,none⟩) rfl kr_ (HZ0u.o.cell 3) isAgg3)) ?_;refine plan.line_same 24 _ (.bool false) rfl (hv:=(exec_neq_int (n:=s.pl) (m:=u.pl) rfl (hid e3))) ?_;refine plan.line_same 25 _ (.bool false) rfl ?_;refine plan.line_same 26 _ (.bool false) rfl ?_;refine plan.line_same 27 _ (.pointer (some ⟨w.heap.size,4,none⟩)) rfl ?_;refine plan.line_same 28 _ (.int .i64 s.tt) rfl (hv:=(exec_cell_int (ad:=⟨w.heap.size,4,none⟩) rfl kr_ (HZ0s.o.cell 4) isAgg3)) ?_;refine plan.line_same 29 _ (.pointer (some ⟨w.heap.size+1,4,none⟩)) rfl ?_;refine plan.line_same 30 _ (.int .i64 u.tt) rfl (hv:=(exec_cell_int (ad:=⟨w.heap.size+1,4,none⟩) rfl kr_ (HZ0u.o.cell 4) isAgg3)) ?_;refine plan.line_same 31 _ (.bool false) rfl (hv:=(exec_neq_int (n:=s.tt) (m:=u.tt) rfl (hid e4))) ?_;refine plan.line_same 32 _ (.bool false) rfl ?_;refine plan.line_same 33 _ (.bool false) rfl ?_;refine plan.line_same 34 _ (.pointer (some ⟨w.heap.size,5,none⟩)) rfl ?_;refine plan.line_same 35 _ (.int .i64 s.a) rfl (hv:=(exec_cell_int (ad:=⟨w.heap.size,5,none⟩) rfl kr_ (HZ0s.o.cell 5) isAgg3)) ?_;refine plan.line_same 36 _ (.pointer (some ⟨w.heap.size+1,5,none⟩)) rfl ?_;refine plan.line_same 37 _ (.int .i64 u.a) rfl (hv:=(exec_cell_int (ad:=⟨w.heap.size+1,5,none⟩) rfl kr_ (HZ0u.o.cell 5) isAgg3)) ?_;refine plan.line_same 38 _ (.bool false) rfl (hv:=(exec_neq_int (n:=s.a) (m:=u.a) rfl (hid e5))) ?_;refine plan.line_same 39 _ (.bool false) rfl ?_;refine plan.line_same 40 _ (.bool false) rfl ?_;refine plan.line_same 41 _ (.pointer (some ⟨w.heap.size,6,none⟩)) rfl ?_;refine plan.line_same 42 _ (.int .i64 s.b) rfl (hv:=(exec_cell_int (ad:=⟨w.heap.size,6,none⟩) rfl kr_ (HZ0s.o.cell 6) isAgg3)) ?_;refine plan.line_same 43 _ (.pointer (some ⟨w.heap.size+1,6,none⟩)) rfl ?_;refine plan.line_same 44 _ (.int .i64 u.b) rfl (hv:=(exec_cell_int (ad:=⟨w.heap.size+1,6,none⟩) rfl kr_ (HZ0u.o.cell 6) isAgg3)) ?_;refine plan.line_same 45 _ (.bool false) rfl (hv:=(exec_neq_int (n:=s.b) (m:=u.b) rfl (hid e6))) ?_;refine plan.line_same 46 _ (.bool false) rfl ?_;refine plan.line_same 47 _ (.bool false) rfl ?_;refine plan.line_same 48 _ (.pointer (some ⟨w.heap.size,7,none⟩)) rfl ?_;refine plan.line_same 49 _ (zF s.f) rfl (hv:=(exec_load_at (b:=w.heap.size) (off:=7) rfl (range_f HZ0s.o) underlying79 rfl info_fd.o)) ?_;refine plan.line_same 50 _ (.pointer (some ⟨w.heap.size+1,7,none⟩)) rfl ?_;refine plan.line_same 51 _ (zF u.f) rfl (hv:=(exec_load_at (b:=w.heap.size+1) (off:=7) rfl (range_f HZ0u.o) underlying79 rfl info_fd.o)) ?_;refine plan.line_same 52 _ (.bool false) rfl (hv:=(exec_two rfl (eqg_fd _ _ _ _ _ _) (kR _))) ?_;refine plan.line_same 53 _ (.bool false) rfl ?_;refine plan.line_same 54 _ (.bool false) rfl ?_;refine plan.line_same 55 _ (.pointer (some ⟨w.heap.size,12,none⟩)) rfl ?_;refine plan.line_same 56 _ (zV s.v) rfl (hv:=(exec_load_at (b:=w.heap.size) (off:=12) rfl (range_v HZ0s.o) underlying81 rfl info_va.o)) ?_;refine plan.line_same 57 _ (.pointer (some ⟨w.heap.size+1,12,none⟩)) rfl ?_;refine plan.line_same 58 _ (zV u.v) rfl (hv:=(exec_load_at (b:=w.heap.size+1) (off:=12) rfl (range_v HZ0u.o) underlying81 rfl info_va.o)) ?_;refine plan.line_same 59 _ (.bool false) rfl (hv:=(exec_two rfl (eqg_va _ _ _ _ _ _) (mg _))) ?_;refine plan.line_same 60 _ (.bool false) rfl ?_;refine plan.line_same 61 _ (.bool false) rfl ?_;refine plan.line_same 62 _ (.pointer (some ⟨w.heap.size,14,none⟩)) rfl ?_;refine plan.line_same 63 _ (.slice ta s.t.length tc) rfl (hv:=(exec_cell_slice (ad:=⟨w.heap.size,14,none⟩) rfl (HZ0s.o.cell 14) isAgg82)) ?_;refine plan.line_same 64 _ (.int .i64 (s.t.length:Int)) rfl ?_;refine plan.line_same 65 _ (.pointer (some ⟨w.heap.size+1,14,none⟩)) rfl ?_;refine plan.line_same 66 _ (.slice ua u.t.length uc) rfl (hv:=(exec_cell_slice (ad:=⟨w.heap.size+1,14,none⟩) rfl (HZ0u.o.cell 14) isAgg82)) ?_;refine plan.line_same 67 _ (.int .i64 (u.t.length:Int)) rfl ?_;refine plan.line_same 68 _ (.bool false) rfl (hv:=(exec_neq_int (n:=(s.t.length:Int)) (m:=(u.t.length:Int)) rfl (hid e9))) ?_;refine plan.line_same 69 _ (.bool false) rfl ?_;refine plan.line_same 70 _ (.bool false) rfl ?_;refine plan.line_same 71 _ (.pointer (some ⟨w.heap.size,15,none⟩)) rfl ?_;refine plan.line_same 72 _ (.slice la s.l.length lc) rfl (hv:=(exec_cell_slice (ad:=⟨w.heap.size,15,none⟩) rfl (HZ0s.o.cell 15) isAgg41)) ?_;refine plan.line_same 73 _ (.int .i64 (s.l.length:Int)) rfl ?_;refine plan.line_same 74 _ (.pointer (some ⟨w.heap.size+1,15,none⟩)) rfl ?_;refine plan.line_same 75 _ (.slice va u.l.length vc) rfl (hv:=(exec_cell_slice (ad:=⟨w.heap.size+1,15,none⟩) rfl (HZ0u.o.cell 15) isAgg41)) ?_;refine plan.line_same 76 _ (.int .i64 (u.l.length:Int)) rfl ?_;refine plan.line_same 77 _ (.bool true) rfl (hv:=(exec_neq_int (n:=(s.l.length:Int)) (m:=(u.l.length:Int)) rfl (hid e10))) ?_
  exact t155
 have d10:((s.l.length:Int) == (u.l.length:Int))=true:=by rw[beq_iff_eq];omega
 have e10:((s.l.length:Int) != (u.l.length:Int))=false:=by simp[hx]
 have HLL:=hid hx;clear hx;go_enter func60,ntmps60;go_upto_region 1 with fail
 rw[HW0.o];refine plan.line ?_;refine plan.line_same 0 _ (.pointer (some ⟨w.heap.size,0,none⟩)) rfl ?_;refine plan.line_same 1 _ (.int .i64 s.op) rfl (hv:=(exec_cell_int (ad:=⟨w.heap.size,0,none⟩) rfl kr_ (HZ0s.o.cell 0) isAgg3)) ?_;refine plan.line_same 2 _ (.pointer (some ⟨w.heap.size+1,0,none⟩)) rfl ?_;refine plan.line_same 3 _ (.int .i64 u.op) rfl (hv:=(exec_cell_int (ad:=⟨w.heap.size+1,0,none⟩) rfl kr_ (HZ0u.o.cell 0) isAgg3)) ?_;refine plan.line_same 4 _ (.bool false) rfl (hv:=(exec_neq_int (n:=s.op) (m:=u.op) rfl (hid e0))) ?_;refine plan.line_same 5 _ (.bool false) rfl ?_;refine plan.line_same 6 _ (.pointer (some ⟨w.heap.size,1,none⟩)) rfl ?_;refine plan.line_same 7 _ (.int .i64 s.fm) rfl (hv:=(exec_cell_int (ad:=⟨w.heap.size,1,none⟩) rfl kr_ (HZ0s.o.cell 1) isAgg3)) ?_;refine plan.line_same 8 _ (.pointer (some ⟨w.heap.size+1,1,none⟩)) rfl ?_;refine plan.line_same 9 _ (.int .i64 u.fm) rfl (hv:=(exec_cell_int (ad:=⟨w.heap.size+1,1,none⟩) rfl kr_ (HZ0u.o.cell 1) isAgg3)) ?_;refine plan.line_same 10 _ (.bool false) rfl (hv:=(exec_neq_int (n:=s.fm) (m:=u.fm) rfl (hid e1))) ?_;refine plan.line_same 11 _ (.bool false) rfl ?_;refine plan.line_same 12 _ (.bool false) rfl ?_;refine plan.line_same 13 _ (.pointer (some ⟨w.heap.size,2,none⟩)) rfl ?_;refine plan.line_same 14 _ (.int .i64 s.fd) rfl (hv:=(exec_cell_int (ad:=⟨w.heap.size,2,none⟩) rfl kr_ (HZ0s.o.cell 2) isAgg3)) ?_;refine plan.line_same 15 _ (.pointer (some ⟨w.heap.size+1,2,none⟩)) rfl ?_;refine plan.line_same 16 _ (.int .i64 u.fd) rfl (hv:=(exec_cell_int (ad:=⟨w.heap.size+1,2,none⟩) rfl kr_ (HZ0u.o.cell 2) isAgg3)) ?_;refine plan.line_same 17 _ (.bool false) rfl (hv:=(exec_neq_int (n:=s.fd) (m:=u.fd) rfl (hid e2))) ?_;refine plan.line_same 18 _ (.bool false) rfl ?_;refine plan.line_same 19 _ (.bool false) rfl ?_;refine plan.line_same 20 _ (.pointer (some ⟨w.heap.size,3,none⟩)) rfl ?_;refine plan.line_same 21 _ (.int .i64 s.pl) rfl (hv:=(exec_cell_int (ad:=⟨w.heap.size,3,none⟩) rfl kr_ (HZ0s.o.cell 3) isAgg3)) ?_;refine plan.line_same 22 _ (.pointer (some ⟨w.heap.size+1,3,none⟩)) rfl ?_;refine plan.line_same 23 _ (.int .i64 u.pl) rfl (hv:=(exec_cell_int (ad:=⟨w.heap.size+1,3,none⟩) rfl kr_ (HZ0u.o.cell 3) isAgg3)) ?_;refine plan.line_same 24 _ (.bool false) rfl (hv:=(exec_neq_int (n:=s.pl) (m:=u.pl) rfl (hid e3))) ?_;refine plan.line_same 25 _ (.bool false) rfl ?_;refine plan.line_same 26 _ (.bool false) rfl ?_;refine plan.line_same 27 _ (.pointer (some ⟨w.heap.size,4,none⟩)) rfl ?_;refine plan.line_same 28 _ (.int .i64 s.tt) rfl (hv:=(exec_cell_int (ad:=⟨w.heap.size,4,none⟩) rfl kr_ (HZ0s.o.cell 4) isAgg3)) ?_;refine plan.line_same 29 _ (.pointer (some ⟨w.heap.size+1,4,none⟩)) rfl ?_;refine plan.line_same 30 _ (.int .i64 u.tt) rfl (hv:=(exec_cell_int (ad:=⟨w.heap.size+1,4,none⟩) rfl kr_ (HZ0u.o.cell 4) isAgg3)) ?_;refine plan.line_same 31 _ (.bool false) rfl (hv:=(exec_neq_int (n:=s.tt) (m:=u.tt) rfl (hid e4))) ?_;refine plan.line_same 32 _ (.bool false) rfl ?_;refine plan.line_same 33 _ (.bool false) rfl ?_;refine plan.line_same 34 _ (.pointer (some ⟨w.heap.size,5,none⟩)) rfl ?_;refine plan.line_same 35 _ (.int .i64 s.a) rfl (hv:=(exec_cell_int (ad:=⟨w.heap.size,5,none⟩) rfl kr_ (HZ0s.o.cell 5) isAgg3)) ?_;refine plan.line_same 36 _ (.pointer (some ⟨w.heap.size+1,5,none⟩)) rfl ?_;refine plan.line_same 37 _ (.int .i64 u.a) rfl (hv:=(exec_cell_int (ad:=⟨w.heap.size+1,5,none⟩) rfl kr_ (HZ0u.o.cell 5) isAgg3)) ?_;refine plan.line_same 38 _ (.bool false) rfl (hv:=(exec_neq_int (n:=s.a) (m:=u.a) rfl (hid e5))) ?_;refine plan.line_same 39 _ (.bool false) rfl ?_;refine plan.line_same 40 _ (.bool false) rfl ?_;refine plan.line_same 41 _ (.pointer (some ⟨w.heap.size,6,none⟩)) rfl ?_;refine plan.line_same 42 _ (.int .i64 s.b) rfl (hv:=(exec_cell_int (ad:=⟨w.heap.size,6,none⟩) rfl kr_ (HZ0s.o.cell 6) isAgg3)) ?_;refine plan.line_same 43 _ (.pointer (some ⟨w.heap.size+1,6,none⟩)) rfl ?_;refine plan.line_same 44 _ (.int .i64 u.b) rfl (hv:=(exec_cell_int (ad:=⟨w.heap.size+1,6,none⟩) rfl kr_ (HZ0u.o.cell 6) isAgg3)) ?_;refine plan.line_same 45 _ (.bool false) rfl (hv:=(exec_neq_int (n:=s.b) (m:=u.b) rfl (hid e6))) ?_;refine plan.line_same 46 _ (.bool false) rfl ?_;refine plan.line_same 47 _ (.bool false) rfl ?_;refine plan.line_same 48 _ (.pointer (some ⟨w.heap.size,7,none⟩)) rfl ?_;refine plan.line_same 49 _ (zF s.f) rfl (hv:=(exec_load_at (b:=w.heap.size) (off:=7) rfl (range_f HZ0s.o) underlying79 rfl info_fd.o)) ?_;refine plan.line_same 50 _ (.pointer (some ⟨w.heap.size+1,7,none⟩)) rfl ?_;refine plan.line_same 51 _ (zF u.f) rfl (hv:=(exec_load_at (b:=w.heap.size+1) (off:=7) rfl (range_f HZ0u.o) underlying79 rfl info_fd.o)) ?_;refine plan.line_same 52 _ (.bool false) rfl (hv:=(exec_two rfl (eqg_fd _ _ _ _ _ _) (kR _))) ?_;refine plan.line_same 53 _ (.bool false) rfl ?_;refine plan.line_same 54 _ (.bool false) rfl ?_;refine plan.line_same 55 _ (.pointer (some ⟨w.heap.size,12,none⟩)) rfl ?_;refine plan.line_same 56 _ (zV s.v) rfl (hv:=(exec_load_at (b:=w.heap.size) (off:=12) rfl (range_v HZ0s.o) underlying81 rfl info_va.o)) ?_;refine plan.line_same 57 _ (.pointer (some ⟨w.heap.size+1,12,none⟩)) rfl ?_;refine plan.line_same 58 _ (zV u.v) rfl (hv:=(exec_load_at (b:=w.heap.size+1) (off:=12) rfl (range_v HZ0u.o) underlying81 rfl info_va.o)) ?_;refine plan.line_same 59 _ (.bool false) rfl (hv:=(exec_two rfl (eqg_va _ _ _ _ _ _) (mg _))) ?_;refine plan.line_same 60 _ (.bool false) rfl ?_;refine plan.line_same 61 _ (.bool false) rfl ?_;refine plan.line_same 62 _ (.pointer (some ⟨w.heap.size,14,none⟩)) rfl ?_;refine plan.line_same 63 _ (.slice ta s.t.length tc) rfl (hv:=(exec_cell_slice (ad:=⟨w.heap.size,14,none⟩) rfl (HZ0s.o.cell 14) isAgg82)) ?_;refine plan.line_same 64 _ (.int .i64 (s.t.length:Int)) rfl ?_;refine plan.line_same 65 _ (.pointer (some ⟨w.heap.size+1,14,none⟩)) rfl ?_;refine plan.line_same 66 _ (.slice ua u.t.length uc) rfl (hv:=(exec_cell_slice (ad:=⟨w.heap.size+1,14,none⟩) rfl (HZ0u.o.cell 14) isAgg82)) ?_;refine plan.line_same 67 _ (.int .i64 (u.t.length:Int)) rfl ?_;refine plan.line_same 68 _ (.bool false) rfl (hv:=(exec_neq_int (n:=(s.t.length:Int)) (m:=(u.t.length:Int)) rfl (hid e9))) ?_;refine plan.line_same 69 _ (.bool false) rfl ?_;refine plan.line_same 70 _ (.bool false) rfl ?_;refine plan.line_same 71 _ (.pointer (some ⟨w.heap.size,15,none⟩)) rfl ?_;refine plan.line_same 72 _ (.slice la s.l.length lc) rfl (hv:=(exec_cell_slice (ad:=⟨w.heap.size,15,none⟩) rfl (HZ0s.o.cell 15) isAgg41)) ?_;refine plan.line_same 73 _ (.int .i64 (s.l.length:Int)) rfl ?_;refine plan.line_same 74 _ (.pointer (some ⟨w.heap.size+1,15,none⟩)) rfl ?_;refine plan.line_same 75 _ (.slice va u.l.length vc) rfl (hv:=(exec_cell_slice (ad:=⟨w.heap.size+1,15,none⟩) rfl (HZ0u.o.cell 15) isAgg41)) ?_;refine plan.line_same 76 _ (.int .i64 (u.l.length:Int)) rfl ?_;refine plan.line_same 77 _ (.bool false) rfl (hv:=(exec_neq_int (n:=(s.l.length:Int)) (m:=(u.l.length:Int)) rfl (hid e10))) ?_;refine plan.line_same 78 _ (.bool false) rfl ?_;refine plan.line_done de_ ?_;walk_nrm;go_wp2;clear d0 e0 d1 e1 d2 e2 d3 e3 d4 e4 d5 e5 d6 e6 kR hgf mg hgv d9 e9 d10 e10;go_loopw [5] (fun n wr=>∃k:Nat,k<=s.t.length/\n=.int .i64 (k:Int)/\Hid (s.t.take k=u.t.take k)/\Hid (Below W0.heap.size W0 wr)) (fun n _=>s.t.length - (intOf n).toNat);case atStart=>exact⟨0,Nat.zero_le _,rfl,hid rfl,hid (Below.refl _ _)⟩
 case round=>
  obtain⟨k,hk,rfl,HEQ,HB⟩:=hrel;have z14:=(HZ.o _ HB.o).1.cell 14;have y14:=(HZ.o _ HB.o).2.cell 14;by_cases au:k<s.t.length
  ·obtain⟨g,off,p,hg,bQ,hp,c0⟩:=int_at HL1.o.t HB.o au;obtain⟨g',off',q,hg',fC,hq,c1⟩:=int_at HL2.o.t HB.o (k:=k) (by rw[<-HLT.o];exact au);have HS:=hid (eq_take_succ hp hq);have HNE:=hid (fun(aS:¬p=q)=>show ¬s.t=u.t from fun e=>by rw[e] at hp;exact aS (Option.some.inj (hp.symm.trans hq)));have i1:(k:Int)<s.t.length:=by omega
   have i2:(k:Int)<u.t.length:=by have:=HLT.o;omega
   replace z14:(World.cell? _ ⟨w.heap.size,14,none⟩)=some (.slice (some ⟨g,off,none⟩) s.t.length tc):=z14.trans (by rw[<-hg];rfl);replace y14:(World.cell? _ ⟨w.heap.size+1,14,none⟩)=some (.slice (some ⟨g',off',none⟩) u.t.length uc):=y14.trans (by rw[<-hg'];rfl);clear hp hq hg hg';by_cases aS:p=q
   ·exact t132
   ·obtain rfl:false=r:=by rw[<-hr.o];exact(decide_eq_false (fun e=>HNE.o aS (sp_eq.1 e).2.2.2.1)).symm
    have hd:(p == q)=false:=by rw[beq_eq_false_iff_ne];exact aS
    have hd2:(p != q)=true:=by simp[aS]
    exact t66
  ·obtain rfl:k=s.t.length:=by omega
   have HT9:Hid (s.t=u.t):=hid (by
    have:=HEQ.o;rw[List.take_of_length_le (Nat.le_refl _),List.take_of_length_le (by rw[HLT.o];exact Nat.le_refl _)] at this;exact this)
   clear y14 HEQ;go_wp2;clear z14;rename_i wr0;go_loopw [6] (fun n wr=>∃k:Nat,k<=s.l.length/\n=.int .i64 (k:Int)/\Hid (s.l.take k=u.l.take k)/\Hid (Below W0.heap.size W0 wr)) (fun n _=>s.l.length - (intOf n).toNat);case atStart=>exact⟨0,Nat.zero_le _,rfl,hid rfl,HB⟩
   case round=>
    obtain⟨k,hk,rfl,HEQ,HB⟩:=hrel;have z15:=(HZ.o _ HB.o).1.cell 15;have y15:=(HZ.o _ HB.o).2.cell 15;by_cases au:k<s.l.length
    ·obtain⟨g,off,p,hg,bQ,hp,c0,c1,c2,c3,c4⟩:=field_at HL1.o.l HB.o au;obtain⟨g',off',q,hg',fC,hq,a0,a1,a2,a3,a4⟩:=field_at HL2.o.l HB.o (k:=k) (by rw[<-HLL.o];exact au);have HS:=hid (eq_take_succ hp hq);have HNE:=hid (fun(aS:¬p=q)=>show ¬s.l=u.l from fun e=>by rw[e] at hp;exact aS (Option.some.inj (hp.symm.trans hq)));have i1:(k:Int)<s.l.length:=by omega
     have i2:(k:Int)<u.l.length:=by have:=HLL.o;omega
     replace z15:(World.cell? _ ⟨w.heap.size,15,none⟩)=some (.slice (some ⟨g,off,none⟩) s.l.length lc):=z15.trans (by rw[<-hg];rfl);replace y15:(World.cell? _ ⟨w.heap.size+1,15,none⟩)=some (.slice (some ⟨g',off',none⟩) u.l.length vc):=y15.trans (by rw[<-hg'];rfl);have aH:=fun W=>neq_fd p q W
     clear hp hq hg hg';by_cases aS:p=q
     ·have HPQ:=hid aS;rw[decide_eq_true aS] at aH
      exact t16
     ·obtain rfl:false=r:=by rw[<-hr.o];exact(decide_eq_false (fun e=>HNE.o aS (sp_eq.1 e).2.2.2.2)).symm
      rw[decide_eq_false aS] at aH
      exact t66
    ·obtain rfl:k=s.l.length:=by omega
     obtain rfl:true=r:=by
      rw[<-hr.o];have:=HEQ.o;rw[List.take_of_length_le (Nat.le_refl _),List.take_of_length_le (by rw[HLL.o];exact Nat.le_refl _)] at this;exact(decide_eq_true (sp_eq.2 ⟨⟨H0.o,H1.o,H2.o,H3.o,H4.o,H5.o,H6.o⟩,H7.o,H8.o,HT9.o,this⟩)).symm
     go_wp2;go_ret;exact⟨rfl,HB0.o.trans (HB.o.mono HB0.o.size)⟩
end step
end Go.Proofs.YtogfefdlffmioaaGreat
