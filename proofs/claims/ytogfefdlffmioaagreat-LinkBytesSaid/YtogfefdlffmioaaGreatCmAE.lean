/- Contracts and lemmas that claims of this seat share: StepBox, SchemaFirst, FormRow, StepOwnL, Upon, SchemaPush, SchemaFS, SchemaSS. Each says its own conditions. -/
import Derived.Test.YtogfefdlffmioaaGreatCmWord
import Derived.Conc.WalkWords
import Derived.Laws.Cover3
import Derived.Test.YtogfefdlffmioaaGreatCmA
import Derived.Test.YtogfefdlffmioaaGreatCmD
import Derived.Test.YtogfefdlffmioaaGreatCmY
import Derived.Test.YtogfefdlffmioaaGreatCmZ
import Derived.Test.YtogfefdlffmioaaGreatCmQ
import Derived.Test.YtogfefdlffmioaaGreatCmAB
import Derived.Test.YtogfefdlffmioaaGreatCmAC
import Derived.Test.YtogfefdlffmioaaGreatCmL
import Derived.Test.YtogfefdlffmioaaGreatCmAD
import Derived.Test.YtogfefdlffmioaaGreatCmO
import Derived.Test.YtogfefdlffmioaaGreatCmAA
set_option linter.unusedVariables false
namespace Go.Proofs.YtogfefdlffmioaaGreat
open Go.Proofs.Tryz
namespace step
open Go.RowKit
open field (Gives newB gives_from)
open schema (below_out)
theorem boxP(s:Sp)(ta:Option Addr)(tc:Nat)(la:Option Addr)(lc:Nat)(w w':World)(hb:Below (w.alloc (.cells (zP s ta tc la lc) 84)).heap.size (w.alloc (.cells (zP s ta tc la lc) 84)) w'):(w'.cell? ⟨w.heap.size,0,none⟩=some (.int .i64 s.op)/\w'.cell? ⟨w.heap.size,1,none⟩=some (.int .i64 s.fm)/\w'.cell? ⟨w.heap.size,2,none⟩=some (.int .i64 s.fd)/\w'.cell? ⟨w.heap.size,3,none⟩=some (.int .i64 s.pl)/\w'.cell? ⟨w.heap.size,4,none⟩=some (.int .i64 s.tt)/\w'.cell? ⟨w.heap.size,5,none⟩=some (.int .i64 s.a)/\w'.cell? ⟨w.heap.size,6,none⟩=some (.int .i64 s.b)/\w'.cell? ⟨w.heap.size,7,none⟩=some (.int .i64 s.f.id)/\w'.cell? ⟨w.heap.size,8,none⟩=some (.int .i64 s.f.kind)/\w'.cell? ⟨w.heap.size,9,none⟩=some (.int .i64 s.f.lo)/\w'.cell? ⟨w.heap.size,10,none⟩=some (.int .i64 s.f.hi)/\w'.cell? ⟨w.heap.size,11,none⟩=some (.int .i64 s.f.most)/\w'.cell? ⟨w.heap.size,12,none⟩=some (.int .i64 s.v.n)/\w'.cell? ⟨w.heap.size,13,none⟩=some (.string s.v.s)/\w'.cell? ⟨w.heap.size,14,none⟩=some (.slice ta s.t.length tc)/\w'.cell? ⟨w.heap.size,15,none⟩=some (.slice la s.l.length lc))/\Below w.heap.size w w':=by
 have hB:=(Block.new w 84 (zP s ta tc la lc)).later hb;exact⟨⟨hB.cell 0,hB.cell 1,hB.cell 2,hB.cell 3,hB.cell 4,hB.cell 5,hB.cell 6,hB.cell 7,hB.cell 8,hB.cell 9,hB.cell 10,hB.cell 11,hB.cell 12,hB.cell 13,hB.cell 14,hB.cell 15⟩,below_out hb⟩
structure Lists (w:World) (s:Sp) (ta la:Option Addr):Prop where
 t:Ins w ta s.t
 l:field.Fds w la s.l
 mt:s.t.length<=maxLen
 ml:s.l.length<=maxLen
theorem Lists.below{w w':World}{s:Sp}{ta la:Option Addr}(h:Lists w s ta la)(hb:Below w.heap.size w w'):Lists w' s ta la:=⟨h.t.below hb,h.l.below hb,h.mt,h.ml⟩
theorem St.Good.lists{w:World}{p:St}(h:p.Good w):Lists w p.s p.ta p.la:=⟨h.rt,h.rl,Nat.le_trans h.ct h.dt,Nat.le_trans h.cl h.dl⟩
abbrev From(F:FuncId)(args:Array Value)(v:Value)(w0:World):Prop:=∀w',Below w0.heap.size w0 w'->Calls prog F args w' fun e w2=>e=.returned v/\Below w0.heap.size w0 w2
theorem from_all{F:FuncId}{args:Array Value}{v:Value}(w0:World)(h:∀w',Calls prog F args w' (Gives v w')):From F args v w0:=fun w' hb=>gives_from (h w') hb
theorem from_in{F:FuncId}{args:Array Value}{v:Value}(w0:World)(h:∀w',Below w0.heap.size w0 w'->Calls prog F args w' (Gives v w')):From F args v w0:=fun w' hb=>gives_from (h w' hb) hb
end step
namespace schema
open Go.RowKit
open field (Gives newB gives_from)
theorem below_drew{B:Nat}{a w:World}(h:Below B a w):Below B a w.drew:=below_drewN h 1
def firstAt(l:List Int)(x:Int):Int:=if x∈l then(l.idxOf x:Int) else -1
theorem idxOf_hit:∀(l:List Int) (k:Nat) (x:Int),x∉l.take k->l[k]?=some x->l.idxOf x=k:=by
 intro l;induction l with
 | nil=>intro k x _ h;simp at h
 | cons y l ih=>
  intro k x hn h;cases k with
  | zero=>simp at h;subst h;simp
  | succ k=>
   simp only[List.take_succ_cons,List.mem_cons,not_or] at hn;have hb:(y == x)=false:=beq_eq_false_iff_ne.2 (Ne.symm hn.1);rw[List.idxOf_cons,hb,ih k x hn.2 (by simpa using h)];rfl
theorem first_hit{l:List Int}{k:Nat}{x:Int}(hn:x∉l.take k)(h:l[k]?=some x):firstAt l x=k:=by
 unfold firstAt;rw[if_pos (List.mem_of_getElem? h),idxOf_hit l k x hn h]
theorem first_none{l:List Int}{x:Int}(hn:x∉l):firstAt l x= -1:=if_neg hn
theorem not_take_succ{l:List Int}{k:Nat}{x y:Int}(hn:x∉l.take k)(h:l[k]?=some y)(hy:y≠x):x∉l.take (k+1):=by
 rw[take_succ_at h];simp[hn];omega
theorem ids_at{L:List field.Fd}{k:Nat}{p:field.Fd}(h:L[k]?=some p):(ids L)[k]?=some p.id:=by simp[ids,h]
theorem ids_length(L:List field.Fd):(ids L).length=L.length:=List.length_map _
end schema
namespace schema
open Go.RowKit pen
def fmC(p:Fm):List Value:=(zS p.id p.f p.fL.length p.fCap)
def fmV:List Fm->List Value
 | []=>[]
 | p :: L=>fmC p++fmV L
theorem fmV_append:∀a b,fmV (a++b)=fmV a++fmV b
 | [],_=>rfl
 | p :: a,b=>by rw[List.cons_append,fmV,fmV,fmV_append a b,List.append_assoc]
theorem fmV_length:∀L,(fmV L).length=L.length*2
 | []=>rfl
 | p :: L=>by rw[fmV];simp only[fmC,List.length_append,List.length_cons,List.length_nil,fmV_length L];omega
theorem fmV_at:∀(L:List Fm) (i:Nat) (p:Fm) (c:Nat),L[i]?=some p->c<2->(fmV L)[i*2+c]?=(fmC p)[c]?
 | [],i,p,c,h,_=>by simp at h
 | q :: L,0,p,c,h,hc=>by
  simp at h;subst h;rw[fmV,List.getElem?_append_left (by simp[fmC];omega)];simp
 | q :: L,i+1,p,c,h,hc=>by
  rw[fmV,List.getElem?_append_right (by simp[fmC];omega)];rw[<-fmV_at L i p c (by simpa using h) hc];congr 1;simp only[fmC,List.length_cons,List.length_nil];omega
theorem own_fms{w:World}{base n:Nat}{a:Option Addr}{cap:Nat}{L:List Fm}{e:TypeId}(h:w.ownsRow base e 2 (.slice a n cap) n (fmV L)):Fms w a L/\n=L.length/\n<=cap:=by
 obtain⟨hl,hr⟩:=h;have hn:n=L.length:=by have:=fmV_length L;rw[hl] at this;omega
 rcases hr with ⟨hv,h0⟩ | ⟨b,cap',cur,hv,_,hg,hcp,_,_,dP⟩
 ·exact t99
 ·cases hv
  refine⟨.inr ⟨b,0,rfl,(Array.getElem?_eq_some_iff.1 hg).1,fun i p hp=> ?_⟩,hn,hcp⟩;have hi:i<L.length:=(List.getElem?_eq_some_iff.1 hp).1;have key:∀c x,c<2->(fmC p)[c]?=some x->w.cell? ⟨b,0+(i*2+c),none⟩=some x:=by
   intro c x hc hx;have h1:=fmV_at L i p c hp hc
   exact t144
  exact⟨key 0 _ om_ rfl,key 1 _ om_ rfl⟩
theorem fm_info_all:(prog.info? 43).map (fun i=>(i.zero,i.size,i.bytes))=some (some (.agg #[.int .i64 0,.slice none 0 0]),2,32):=by kernel_rfl
theorem fm_info_parts:∃i,prog.info? 43=some i/\i.zero=some (.agg #[.int .i64 0,.slice none 0 0])/\i.size=2/\i.bytes=32:=by
 obtain⟨i,hi,he⟩:=Option.map_eq_some_iff.1 fm_info_all;simp only[Prod.mk.injEq] at he;exact⟨i,hi,he.1,he.2.1,he.2.2⟩
theorem exec_push_fm{o:Oper}{a:Act}{w:World}{x y:Operand}{u:Value}{B n g:Nat}{L:List Fm}{p:Fm}
  (ho:o.op=.call { callee:=.builtin .append,args:=#[x,y],argTypes:=#[22,22]}) (hx:a.eval x=u) (hy:a.eval y=.slice (some ⟨g,0,none⟩) 1 1)
  (hown:w.ownsRow B 43 2 u n (fmV L)) (hb:Block w g 43 (fmC p)) (hn:n<=1000) (hB:B<=w.heap.size):
  ∃q w',(execOp a.eval o).run prog w=.ok (.value q) w'/\w'.ownsRow B 43 2 q (n+1) (fmV (L++[p]))/\w.grownBy w' u.ownBlock:=by
 obtain⟨i0,hi,hz0,hz1,hz2⟩:=fm_info_parts;obtain⟨q,w',h1,h2,h3⟩:=exec_push (sz:=2) (bytes:=32) underlying22 hi hz0 hz1 hz2 (by simp[Value.cells]) om_ ho hx hy hown (news:=fmC p) rfl (fun j v hj=>(hb.cell j).trans hj) (by intro v hv;simp[fmC] at hv;rcases hv with rfl | rfl <;> rfl) om_ om_ hB;exact⟨q,w',h1,by rw[fmV_append];simpa[fmV] using h2,h3⟩
def OwnM(B:Nat)(w:World)(p:Fm):Prop:=w.ownsRow B 79 5 (.slice p.f p.fL.length p.fCap) p.fL.length (fdV p.fL)
theorem OwnM.ok{B:Nat}{w:World}{p:Fm}(h:OwnM B w p):p.Ok w:=⟨(own_fds h).1,(own_cap h).1,(own_cap h).2⟩
theorem fd_fm:(43:TypeId)≠79:=by decide
end schema
namespace step
open Go.RowKit
open schema (fdV own_low own_fds own_cap StayT stay_grown)
def intV(l:List Int):List Value:=l.map fun n=>Value.int .i64 n
theorem own_ints{w:World}{base n:Nat}{a:Option Addr}{cap:Nat}{L:List Int}{e:TypeId}(h:w.ownsRow base e 1 (.slice a n cap) n (intV L)):Ins w a L/\n=L.length:=by
 obtain⟨hl,hr⟩:=h;have hn:n=L.length:=by have:(intV L).length=L.length:=List.length_map _;omega
 rcases hr with ⟨hv,h0⟩ | ⟨b,cap',cur,hv,_,hg,hcp,_,_,dP⟩
 ·cases hv
  exact⟨.inl (List.eq_nil_of_length_eq_zero om_),hn⟩
 ·cases hv
  refine⟨.inr ⟨b,0,rfl,(Array.getElem?_eq_some_iff.1 hg).1,fun i p hp=> ?_⟩,hn⟩;have hi:i<L.length:=(List.getElem?_eq_some_iff.1 hp).1;have h1:(intV L)[i]?=some (.int .i64 p):=by simp[intV,hp]
  rw[<-dP,List.getElem?_take,if_pos om_] at h1
  exact t62
theorem int_info:(prog.info? 3).map (fun i=>(i.zero,i.size,i.bytes))=some (some (.int .i64 0),1,8):=by kernel_rfl
theorem int_info_parts:∃i,prog.info? 3=some i/\i.zero=some (.int .i64 0)/\i.size=1/\i.bytes=8:=by
 obtain⟨i,hi,he⟩:=Option.map_eq_some_iff.1 int_info
 exact t104
def OwnS(B:Nat)(w:World)(p:St):Prop:=w.ownsRow B 3 1 (.slice p.ta p.s.t.length p.tc) p.s.t.length (intV p.s.t)/\w.ownsRow B 79 5 (.slice p.la p.s.l.length p.lc) p.s.l.length (fdV p.s.l)
theorem OwnS.lists{B:Nat}{w:World}{p:St}(h:OwnS B w p):Lists w p.s p.ta p.la:=
 ⟨(own_ints h.1).1,(own_fds h.2).1,Nat.le_trans (own_cap h.1).1 (own_cap h.1).2,Nat.le_trans (own_cap h.2).1 (own_cap h.2).2⟩
theorem OwnS.low{B B':Nat}{w:World}{p:St}(h:OwnS B w p)(hB:B'<=B):OwnS B' w p:=⟨own_low h.1 hB,own_low h.2 hB⟩
theorem OwnS.later{B:Nat}{w w':World}{p:St}(h:OwnS B w p)(hb:Below w.heap.size w w'):OwnS B w' p:=⟨ownsRow_later h.1 hb,ownsRow_later h.2 hb⟩
theorem st_int:(84:TypeId)≠3:=by decide
theorem st_fd:(84:TypeId)≠79:=by decide
theorem OwnS.nil(B:Nat)(w:World)(s:Sp)(ht:s.t=[])(hl:s.l=[]):OwnS B w ⟨s,none,0,none,0⟩:=by
 refine⟨?_, ?_⟩
 ·show w.ownsRow B _ 1 (.slice none s.t.length 0) s.t.length (intV s.t)
  rw[ht];exact World.ownsRow_nil _ _ _ _
 ·show w.ownsRow B _ 5 (.slice none s.l.length 0) s.l.length (fdV s.l)
  rw[hl];exact World.ownsRow_nil _ _ _ _
theorem own_after{w:World}{B e sz n S o:Nat}{u v:Value}{xs:List Value}(h:w.ownsRow B e sz u n xs)(hS:S<B):(w.setCell ⟨S,o,none⟩ v).ownsRow B e sz u n xs:=
 ownsRow_heap h (fun g hg=>Below.heap_setCell w ⟨S,o,none⟩ v g (by have:=(World.ownsRow.lt h g hg).1;show g≠S;omega))
theorem OwnS.after{w:World}{B S o:Nat}{v:Value}{p:St}(h:OwnS B w p)(hS:S<B):OwnS B (w.setCell ⟨S,o,none⟩ v) p:=⟨own_after h.1 hS,own_after h.2 hS⟩
theorem OwnS.stay{w w':World}{B:Nat}{p:St}(h:OwnS B w p)(h1:StayT 3 w w')(h2:StayT 79 w w'):OwnS B w' p:=⟨h1.row h.1,h2.row h.2⟩
end step
section
open Go Go.RowKit
def Upon(B:Nat)(w:World)(R:World->Prop):Prop:=∀w',w.heap.size<=w'.heap.size->(∀k,B<=k->k<w.heap.size->w'.heap[k]?=w.heap[k]?)->R w'
theorem Upon.now{B:Nat}{w:World}{R:World->Prop}(h:Upon B w R):R w:=h w (Nat.le_refl _) fun _ _ _=>rfl
theorem Upon.after{B:Nat}{w w':World}{R:World->Prop}(h:Upon B w R)(hb:Below w.heap.size w w'):Upon B w' R:=
 fun v h1 h2=>h v (Nat.le_trans hb.size h1) fun k h3 h4=>(h2 k h3 (Nat.lt_of_lt_of_le h4 hb.size)).trans (hb.block k h4)
theorem Upon.past{B S o:Nat}{v:Value}{w:World}{R:World->Prop}(h:Upon B w R)(hS:S<B):Upon B (w.setCell ⟨S,o,none⟩ v) R:=
 fun w' h1 h2=>h w' (by simpa using h1) fun k h3 h4=>(h2 k h3 (by simpa using h4)).trans (Below.heap_setCell w ⟨S,o,none⟩ v k (by show k≠S;omega))
theorem Upon.low{B B':Nat}{w:World}{R:World->Prop}(h:Upon B w R)(hB:B'<=B):Upon B' w R:=fun w' h1 h2=>h w' h1 fun k h3 h4=>h2 k (Nat.le_trans hB h3) h4
theorem Upon.mono{B:Nat}{w:World}{R T:World->Prop}(h:Upon B w R)(hR:∀v,R v->T v):Upon B w T:=fun w' h1 h2=>hR _ (h w' h1 h2)
end
namespace schema
open Go.RowKit pen
theorem exec_put_fm{o:Oper}{a:Act}{w:World}{x y:Operand}{ad:Addr}{v:Value}{p:Option Addr}{n c:Nat}(ho:o.op=.store 22 x y)(hc:w.cell? ad=some v)(hf:w.frozen? ad=false)(hx:a.eval x=.pointer (some ad):=by kernel_rfl)(hy:a.eval y=.slice p n c:=by kernel_rfl):(execOp a.eval o).run prog w=.ok .skip (w.setCell ad (.slice p n c)):=by
 unfold execOp;rw[ho];simp only[hx,hy];go_simp
end schema
theorem t79{P:Prop}(h:P:=by
 exact but_store (but_grown h.but (own_low h.row om_) hg (Nat.le_of_lt h.f.lt)) (Nat.le_refl _) 1 z):P:=h
namespace schema
open Go.RowKit pen
structure FS (T:TypeId) (A:Int) (b F:Nat) (w0:World) (L:List field.Fd) (s:Sight) (n:Nat) (u:Value) (wr:World):Prop where
 f:Block wr F 43 [.int .i64 A,u]
 row:wr.ownsRow (F+1) 79 5 u n (fdV L)
 eye:EyeAt T b s wr
 but:But F b w0 wr
 low:b<F
variable {T:TypeId} {A:Int} {b F n:Nat} {w0:World} {L:List field.Fd} {s:Sight} {u:Value}
theorem FS.later{w w':World}(h:FS T A b F w0 L s n u w)(hb:Below w.heap.size w w'):FS T A b F w0 L s n u w':=
 ⟨h.f.later hb,ownsRow_later h.row hb,h.eye.later hb,h.but.trans ((Below.but hb).mono (Nat.le_of_lt h.f.lt)),h.low⟩
theorem FS.call{w w':World}{s':Sight}(h:FS T A b F w0 L s n u w)(hE:EyeAt T b s' w')(hu:But w.heap.size b w w'):FS T A b F w0 L s' n u w':=
 ⟨blk_but h.f hu (Nat.ne_of_gt h.low),ownsRow_heap h.row (fun g hg=>by have:=World.ownsRow.lt h.row g hg;have:=h.low;exact hu.2.2.2.2 g om_ om_),hE,h.but.trans (hu.mono (Nat.le_of_lt h.f.lt)),h.low⟩
theorem FS.held{w w':World}(h:FS T A b F w0 L s n u w)(hg:w.grownBy w' u.ownBlock):Block w' F 43 [.int .i64 A,u]:=
 (hg.block F h.f.lt (by intro he;have:=World.ownsRow.lt h.row F he.symm;omega)).trans h.f
theorem FS.push{w w':World}{p:field.Fd}{z:Value}(h:FS T A b F w0 L s n u w)(hg:w.grownBy w' u.ownBlock)(ho:w'.ownsRow (F+1) 79 5 z (n+1) (fdV (L++[p]))):
  FS T A b F w0 (L++[p]) s (n+1) z (w'.setCell ⟨F,1,none⟩ z):=by
 have hF:=h.held hg;refine⟨hF.setCell 1 z,ownsRow_heap ho (fun g hg=> ?_), ?_, ?_,h.low⟩
 ·have:=World.ownsRow.lt ho g hg;exact Below.heap_setCell w' ⟨F,1,none⟩ z g (by show g≠F;omega)
 ·exact eye_past (eye_grown h.eye h.row hg (by have:=h.low;omega)) h.low ((But.refl _ F w').setCell 1 z)
 ·exact t79
theorem FS.start{w1:World}(hE:EyeAt T b s w1)(A:Int):FS T A b w1.heap.size w1 [] s 0 (.slice none 0 0) (w1.alloc (.cells (zS A none 0 0) 43)):=
 ⟨Block.new w1 43 (zS A none 0 0),World.ownsRow_nil _ _ _ _,hE.later (field.newB _ _),Below.but (field.newB _ _),hE.lt⟩
end schema
namespace schema
open Go.RowKit pen
structure SS (T:TypeId) (V:Int) (b S:Nat) (w0:World) (P:List Fm) (s:Sight) (n:Nat) (u:Value) (wr:World):Prop where
 f:Block wr S 24 [.int .i64 V,u]
 row:wr.ownsRow (S+1) 43 2 u n (fmV P)
 each:∀p∈P,OwnM (S+1) wr p
 eye:EyeAt T b s wr
 but:But S b w0 wr
 low:b<S
variable {T:TypeId} {V:Int} {b S n:Nat} {w0:World} {P:List Fm} {s:Sight} {u:Value}
theorem SS.later{w w':World}(h:SS T V b S w0 P s n u w)(hb:Below w.heap.size w w'):SS T V b S w0 P s n u w':=
 ⟨h.f.later hb,ownsRow_later h.row hb,fun p hp=>ownsRow_later (h.each p hp) hb,h.eye.later hb,h.but.trans ((Below.but hb).mono (Nat.le_of_lt h.f.lt)),h.low⟩
theorem own_but{w w':World}{B e sz n:Nat}{u:Value}{xs:List Value}(h:w.ownsRow B e sz u n xs)(hu:But w.heap.size b w w')(hb:b<B):w'.ownsRow B e sz u n xs:=
 ownsRow_heap h (fun g hg=>by have:=World.ownsRow.lt h g hg;exact hu.2.2.2.2 g om_ om_)
theorem SS.call{w w':World}{s':Sight}(h:SS T V b S w0 P s n u w)(hE:EyeAt T b s' w')(hu:But w.heap.size b w w'):SS T V b S w0 P s' n u w':=
 ⟨blk_but h.f hu (Nat.ne_of_gt h.low),own_but h.row hu (by have:=h.low;omega),fun p hp=>own_but (h.each p hp) hu (by have:=h.low;omega),hE,h.but.trans (hu.mono (Nat.le_of_lt h.f.lt)),h.low⟩
theorem SS.held{w w':World}(h:SS T V b S w0 P s n u w)(hg:w.grownBy w' u.ownBlock):Block w' S 24 [.int .i64 V,u]:=
 (hg.block S h.f.lt (by intro he;have:=World.ownsRow.lt h.row S he.symm;omega)).trans h.f
theorem own_past{w:World}{B e sz n S o:Nat}{u v:Value}{xs:List Value}(h:w.ownsRow B e sz u n xs)(hS:S<B):(w.setCell ⟨S,o,none⟩ v).ownsRow B e sz u n xs:=
 ownsRow_heap h (fun g hg=>by have:=World.ownsRow.lt h g hg;exact Below.heap_setCell w ⟨S,o,none⟩ v g (by show g≠S;omega))
theorem SS.push{w w':World}{p:Fm}{z:Value}(h:SS T V b S w0 P s n u w)(hp:OwnM (S+1) w p)(hg:w.grownBy w' u.ownBlock)(ho:w'.ownsRow (S+1) 43 2 z (n+1) (fmV (P++[p]))):
  SS T V b S w0 (P++[p]) s (n+1) z (w'.setCell ⟨S,1,none⟩ z):=by
 have hF:=h.held hg;have hst:=stay_grown 79 h.row hg fd_fm;refine⟨hF.setCell 1 z,own_past ho om_,fun q hq=> ?_, ?_, ?_,h.low⟩
 ·refine own_past (hst.row ?_) om_;rcases List.mem_append.1 hq with h1 | h1
  ·exact h.each q h1
  ·rw[List.mem_singleton.1 h1];exact hp
 ·exact eye_past (eye_grown h.eye h.row hg (by have:=h.low;omega)) h.low ((But.refl _ S w').setCell 1 z)
 ·exact t79
theorem SS.start{w1:World}(hE:EyeAt T b s w1)(V:Int):SS T V b w1.heap.size w1 [] s 0 (.slice none 0 0) (w1.alloc (.cells (zS V none 0 0) 24)):=
 ⟨Block.new w1 24 (zS V none 0 0),World.ownsRow_nil _ _ _ _,by simp,hE.later (field.newB _ _),Below.but (field.newB _ _),hE.lt⟩
theorem SS.list{w:World}{a:Option Addr}{c:Nat}(h:SS T V b S w0 P s n (.slice a n c) w):FmL w a P/\n=P.length:=
 ⟨⟨(own_fms h.row).1,fun p hp=>(h.each p hp).ok⟩,(own_fms h.row).2.1⟩
theorem sc_info2(x y:Value):(prog.info? 24).map (·.size)=some [x,y].length:=by kernel_rfl
def ParsedAs(xs:List Nat)(w:World)(e:Ending)(w':World):Prop:=
 ∃(a:Option Addr) (c:Nat) (F:List Fm),e=.returned (.tuple #[.agg #[.int .i64 (parsed xs).1,.slice a F.length c],.int .i64 ((parsed xs).2.2:Int)])/\forms F=(parsed xs).2.1/\Upon w.heap.size w' (fun v=>FmL v a F)/\Below w.heap.size w w'
theorem parse_none{xs:List Nat}{w w5:World}{E:Nat}(h:parsed xs=(0,[],E))(hb:Below w.heap.size w w5):
  ParsedAs xs w (.returned (.tuple #[.agg #[.int .i64 0,.slice none 0 0],.int .i64 (E:Int)])) ((w5.setCell ⟨w.heap.size,0,none⟩ (.int .i64 0)).setCell ⟨w.heap.size,1,none⟩ (.slice none 0 0)):=by
 unfold ParsedAs;rw[h];exact⟨none,0,[],rfl,rfl,fun _ _ _=>⟨.inl rfl,by simp⟩,below_setCells (below_setCells hb (Nat.le_refl _) 0 [.int .i64 0]) (Nat.le_refl _) 1 [.slice none 0 0]⟩
theorem parse_some{xs:List Nat}{w w6:World}{ua:Option Addr}{uc:Nat}{L:List Form}(h:parsed xs=(V,L,0))(hL:forms P=L)(hS:SS T V b S w0 P s n (.slice ua n uc) w6)(hR:w.heap.size<S)(hb:Below w.heap.size w w6):
  ParsedAs xs w (.returned (.tuple #[zS V ua n uc,.int .i64 0])) ((w6.setCell ⟨w.heap.size,0,none⟩ (.int .i64 V)).setCell ⟨w.heap.size,1,none⟩ (.slice ua n uc)):=by
 unfold ParsedAs;rw[h];have dn:=own_past (S:=w.heap.size) (o:=1) (v:=.slice ua n uc) (own_past (S:=w.heap.size) (o:=0) (v:=.int .i64 V) hS.row om_) om_;have hn:=hS.list.2;refine⟨ua,uc,P,by rw[hn];rfl,hL,fun z h1 h2=>⟨(own_fms (ownsRow_heap dn fun g hg=>by have:=World.ownsRow.lt dn g hg;exact h2 g om_ this.2)).1,fun p hp=>OwnM.ok (B:=S+1) ?_⟩,below_setCells (below_setCells hb (Nat.le_refl _) 0 [.int .i64 V]) (Nat.le_refl _) 1 [.slice ua n uc]⟩;have he:=own_past (S:=w.heap.size) (o:=1) (v:=.slice ua n uc) (own_past (S:=w.heap.size) (o:=0) (v:=.int .i64 V) (hS.each p hp) om_) om_;exact ownsRow_heap he fun g hg=>by have:=World.ownsRow.lt he g hg;exact h2 g om_ this.2
end schema
end Go.Proofs.YtogfefdlffmioaaGreat
