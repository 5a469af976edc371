/- Contracts and lemmas that claims of this seat share: FieldRows, Ret0, PenHold, PenPut, PenEnd, PenPutText, PenEye. Each says its own conditions. -/
import Derived.Test.YtogfefdlffmioaaGreatCmWord
import Derived.Maps.AppendAt
import Derived.Lib.ConvBytes
import Derived.Lib.Zigzag
import Derived.Laws.Cover3
import Derived.Test.YtogfefdlffmioaaGreatCmB
import Derived.Test.YtogfefdlffmioaaGreatCmD
set_option linter.unusedVariables false
namespace Go.Proofs.YtogfefdlffmioaaGreat
open Go.Proofs.Tryz
theorem t32{P:Prop}(h:P:=by
 rcases open_slice ht h with ⟨hcs,_⟩ | ⟨A,len,cap,m,n1,D,Pl,hcs,_⟩
 ·exact⟨none,0,0,by simpa using hcs⟩
 ·exact⟨_,_,_,by simpa using hcs⟩):P:=h
namespace field
open Go.ChangeShapes Go.WideShapes Go.ChangeAt Go.RowKit Go.Deep
def FdRow(P:Program)(t:TypeId):Prop:=∃(e:TypeId) (f0 f1 f2 f3 f4:Field),P.underlying t=some (.slice e)/\P.underlying e=some (.struct #[f0,f1,f2,f3,f4])/\oneCellFields P #[f0,f1,f2,f3,f4]=true/\P.cellsOf e=5/\P.underlying f0.type=some (.int .i64)/\P.underlying f1.type=some (.int .i64)/\P.underlying f2.type=some (.int .i64)/\P.underlying f3.type=some (.int .i64)/\P.underlying f4.type=some (.int .i64)
theorem open_FdRow{H:Type}{enc:TypeId×Value->H}{P:Program}{W:World}{t:TypeId}{v:Value}{n:Nat}{y:DataW H×List MemPlace}(hR:FdRow P t)(h:DataW.trod enc P W 0 (fun _=>true) true n t [v]=some y):∃a cap L,v=.slice a (List.length L) cap/\Fds W a L/\(∀p∈L,p.Good W)/\L.length<=cap/\cap<=maxLen:=by
 obtain⟨e,f0,f1,f2,f3,f4,ht,he,hone,hC,u0,u1,u2,u3,u4⟩:=hR;have hv:∃a len cap,v=.slice a len cap:=by
  exact t32
 obtain⟨a,len,cap,rfl⟩:=hv;obtain⟨L,rfl,h1,h2,h3,h4⟩:=open_Fds ht he hone hC u0 u1 u2 u3 u4 (W:=W) (enc:=enc) (d:=y.1) (pl:=y.2) ⟨n,by simpa[Value.cells] using h⟩;exact⟨a,cap,L,rfl,h1,h2,h3,h4⟩
theorem fdRow:FdRow prog 41:=⟨_,_,_,_,_,_,underlying41,underlying79,by kernel_rfl,by kernel_rfl,by kernel_rfl,by kernel_rfl,by kernel_rfl,by kernel_rfl,by kernel_rfl⟩
end field
namespace pen
open Go.RowKit
theorem ret0{P:Program}{fn:Func}{R:Ending->World->Prop}{a:Act}{w:World}(h:fn.results=#[])(hd:a.defers=[])(hR:R (.returned (.tuple #[])) w):bodyPost P fn R .normal a w:=
 ⟨hd,.tuple #[],by simp[results,h],hR⟩
end pen
namespace pen
open Go.RowKit
def u8v(xs:List Nat):List Value:=xs.map fun x:Nat=>Value.int .u8 (x:Int)
theorem u8v_length(xs:List Nat):(u8v xs).length=xs.length:=by simp[u8v]
theorem u8v_one(xs:List Nat):∀v∈u8v xs,v.oneCell'=true:=by intro v hv;obtain⟨x,_,rfl⟩:=List.mem_map.1 hv;rfl
theorem u8v_append(xs ys:List Nat):u8v (xs++ys)=u8v xs++u8v ys:=by simp[u8v]
theorem u8v_get(xs:List Nat)(i:Nat)(h:i<xs.length):(u8v xs)[i]?=some (.int .u8 ((xs.getD i 0:Nat):Int)):=by
 simp only[u8v,List.getElem?_map,List.getD_eq_getElem?_getD,List.getElem?_eq_getElem h];rfl
theorem wpList_append_at_from{P:Program}{w:World}{ops:Array Oper}{rest:List Oper}{o:Oper}{a:Act}{Q:Exit->Act->World->Prop}(hgd:o.guard=none)(s x:Operand)(t:TypeId)
  (ho:o.op=.call { callee:=.builtin .append,args:=#[s,x],argTypes:=#[t,t]})
  (base:Nat) (e:TypeId) (i:TypeInfo) (z:Value) (bytes:Nat) (ht:P.underlying t=some (.slice e)) (hi:P.info? e=some i) (hz:i.zero=some z)
  (hsize:i.size=1) (lI:i.bytes=bytes) (hzs:z.cells.size=1)
  (v:Value) (n:Nat) (xs:List Value) (hs:a.eval s=v) (hown:w.ownsRow base e 1 v n xs)
  (ap:Option Addr) (m c:Nat) (news:List Value) (hx:a.eval x=.slice ap m c) (hl:news.length=m)
  (jy:m=0\/∃ad,ap=some ad/\∀j u,news[j]?=some u->w.cell? (ad.add j)=some u) (h1:∀u∈news,u.oneCell'=true)
  (jF:n+m<=maxLen) (hbytes:(n+m)*bytes<=140737488355328) (gm:base<=w.heap.size)
  (h:∀v' w',w'.ownsRow base e 1 v' (n+m) (xs++news)->w.grownBy w' v.ownBlock->(v'.ownBlock=v.ownBlock\/v'.ownBlock=some w.heap.size)->wpList P ops Q rest (a.put o.dst v') w'):wpList P ops Q (o :: rest) a w:=by
 by_cases hm:m=0
 ·subst hm;obtain rfl:news=[]:=List.eq_nil_of_length_eq_zero hl;obtain⟨bp,cp,rfl,hcp⟩:=ownsRow_slice hown;have hsrc:Src P i.size t (.slice ap 0 c) 0 [] w:=by
   exact t77
  have iq:=run_append_nothing w t t o.type e i ht hi bp n cp hcp _ hsrc;refine wpList_plain hgd fun K hK=> ?_
  unfold Oper.wp;simp[execOp,ho,resolve,invoke,builtin,hs,hx,iq,Result.andThen];exact hK _ _ (h _ w (by simpa using hown) (grown_refl _ _) (.inl rfl))
 ·rcases jy with h0 | ⟨ad,rfl,hc⟩
  ·exact absurd h0 hm
  ·exact wpList_append_own_at w hgd s x t ho base e i z 1 bytes ht hi hz hsize lI hzs de_ v n xs hs hown ad m c news hx om_ hc h1 jF hbytes gm (fun v' w' h2 h3 _ h5=>h v' w' h2 h3 h5)
theorem Reads.news{w:World}{a:Option Addr}{len:Nat}{xs:List Nat}(h:Reads .u8 w a len xs):len=0\/∃ad,a=some ad/\∀j u,(u8v xs)[j]?=some u->w.cell? (ad.add j)=some u:=by
 rcases h.2 with h0 | ⟨b,off,ha,_,hc⟩
 ·exact .inl h0
 ·refine .inr ⟨_,ha,fun j u hu=> ?_⟩;have hj:j<xs.length:=by have:=(List.getElem?_eq_some_iff.1 hu).1;rwa [u8v_length] at this
  rw[u8v_get xs j hj] at hu;cases hu
  rw[Addr.add_lit];exact hc j (by rw[<-h.1];exact hj)
structure Turns (w:World) (b:Nat) (v:Value) (w':World) (v':Value):Prop where
 os:w'.os=w.os
 tape:w'.tape=w.tape
 output:w'.output=w.output
 size:w.heap.size<=w'.heap.size
 block:∀k,k<w.heap.size->k≠b->some k≠v.ownBlock->w'.heap[k]?=w.heap[k]?
 moved:v'.ownBlock=v.ownBlock\/∃g,v'.ownBlock=some g/\w.heap.size<=g
theorem Turns.refl(w:World)(b:Nat)(v:Value):Turns w b v w v:=⟨rfl,rfl,rfl,Nat.le_refl _,fun _ _ _ _=>rfl,.inl rfl⟩
theorem Turns.trans{w w1 w2:World}{b:Nat}{v v1 v2:Value}(h:Turns w b v w1 v1)(k:Turns w1 b v1 w2 v2):Turns w b v w2 v2:=by
 refine⟨k.os.trans h.os,k.tape.trans h.tape,k.output.trans h.output,Nat.le_trans h.size k.size,fun j h1 h2 h3=> ?_, ?_⟩
 ·refine(k.block j (Nat.lt_of_lt_of_le h1 h.size) h2 ?_).trans (h.block j h1 h2 h3);rcases h.moved with e | ⟨g,e,hg⟩
  ·rw[e];exact h3
  ·rw[e];intro he;cases he;omega
 ·rcases k.moved with e | ⟨g,e,hg⟩
  ·rw[e];exact h.moved
  ·exact .inr ⟨g,e,Nat.le_trans h.size hg⟩
theorem Turns.below{w w':World}{b B:Nat}{v v':Value}(h:Turns w b v w' v')(hB:B<=w.heap.size)(hb:B<=b)(hv:∀g,v.ownBlock=some g->B<=g):Below B w w':=
 ⟨h.os,h.tape,h.output,h.size,fun k hk=>h.block k om_ om_ (fun e=>by have:=hv k e.symm;omega)⟩
theorem turns_later{w w':World}{b:Nat}{v:Value}(h:Below w.heap.size w w'):Turns w b v w' v:=⟨h.os,h.tape,h.output,h.size,fun k hk _ _=>h.block k hk,.inl rfl⟩
def PenAt(lo b:Nat)(v:Value)(xs:List Nat)(bad:Int)(w:World):Prop:=
 Block w b 86 [v,.int .i64 bad]/\v.ownBlock≠some b/\w.ownsRow lo 5 1 v xs.length (u8v xs)
theorem PenAt.row{lo b:Nat}{v:Value}{xs:List Nat}{bad:Int}{w:World}(h:PenAt lo b v xs bad w):w.cell? ⟨b,0,none⟩=some v:=by rw[h.1.cell];rfl
theorem PenAt.err{lo b:Nat}{v:Value}{xs:List Nat}{bad:Int}{w:World}(h:PenAt lo b v xs bad w):w.cell? ⟨b,1,none⟩=some (.int .i64 bad):=by rw[h.1.cell];rfl
theorem PenAt.lo{lo b:Nat}{v:Value}{xs:List Nat}{bad:Int}{w:World}(h:PenAt lo b v xs bad w):∀g,v.ownBlock=some g->lo<=g/\g<w.heap.size:=World.ownsRow.lt h.2.2
theorem PenAt.later{lo b:Nat}{v:Value}{xs:List Nat}{bad:Int}{w w':World}(h:PenAt lo b v xs bad w)(hb:Below w.heap.size w w'):PenAt lo b v xs bad w':=
 ⟨h.1.later hb,h.2.1,ownsRow_heap h.2.2 fun g hg=>hb.block g (h.lo g hg).2⟩
theorem PenAt.drewN{lo b:Nat}{v:Value}{xs:List Nat}{bad:Int}{w:World}(h:PenAt lo b v xs bad w)(n:Nat):PenAt lo b v xs bad (w.drewN n):=h
theorem PenAt.stored{lo b:Nat}{v v':Value}{xs ys:List Nat}{bad:Int}{w w1:World}(h:PenAt lo b v xs bad w)(hg:w.grownBy w1 v.ownBlock)(ha:v'.ownBlock=v.ownBlock\/v'.ownBlock=some w.heap.size)
  (ho:w1.ownsRow lo 5 1 v' (xs.length+ys.length) (u8v xs++u8v ys)):
  PenAt lo b v' (xs++ys) bad (w1.setCell ⟨b,0,none⟩ v')/\Turns w b v (w1.setCell ⟨b,0,none⟩ v') v':=by
 have hb:Block w1 b 86 [v,.int .i64 bad]:=(hg.block b h.1.lt (fun e=>h.2.1 e.symm)).trans h.1;have aH:v'.ownBlock≠some b:=by
  rcases ha with e | e
  ·rw[e];exact h.2.1
  ·rw[e];intro he;cases he;exact absurd h.1.lt (Nat.lt_irrefl _)
 refine⟨⟨hb.setCell 0 v',aH, ?_⟩,hg.os,hg.tape,hg.output,by simpa using hg.size,fun k h1 h2 h3=> ?_, ?_⟩
 ·rw[List.length_append,u8v_append];exact ownsRow_heap ho fun g hg'=>Below.heap_setCell w1 ⟨b,0,none⟩ v' g (by rintro rfl;exact aH hg')
 ·exact(Below.heap_setCell w1 ⟨b,0,none⟩ v' k h2).trans (hg.block k h1 h3)
 ·rcases ha with e | e
  ·exact .inl e
  ·exact .inr ⟨_,e,Nat.le_refl _⟩
theorem PenAt.fail{lo b:Nat}{v:Value}{xs:List Nat}{bad:Int}{w:World}(h:PenAt lo b v xs bad w)(z:Int):
  PenAt lo b v xs z (w.setCell ⟨b,1,none⟩ (.int .i64 z))/\Turns w b v (w.setCell ⟨b,1,none⟩ (.int .i64 z)) v:=by
 refine⟨⟨h.1.setCell 1 _,h.2.1,ownsRow_heap h.2.2 fun g hg'=>Below.heap_setCell w ⟨b,1,none⟩ _ g (by rintro rfl;exact h.2.1 hg')⟩,rfl,rfl,rfl,by simp,fun k h1 h2 h3=>Below.heap_setCell w ⟨b,1,none⟩ _ k h2,.inl rfl⟩
theorem info5:(prog.info? 5).map (fun i=>(i.zero,i.size,i.bytes))=some (some (.int .u8 0),1,1):=by kernel_rfl
theorem Reads.new(w:World)(t:TypeId)(xs:List Nat):Reads .u8 (w.alloc (.cells (u8v xs).toArray t)) (some ⟨w.heap.size,0,none⟩) xs.length xs:=
 (Block.new w t (u8v xs)).reads 0 xs (fun i hi=>by rw[Nat.zero_add];exact u8v_get xs i hi) _ rfl
def Wrote(lo b:Nat)(v:Value)(xs ys:List Nat)(bad:Int)(w:World)(e:Ending)(w':World):Prop:=
 e=.returned (.tuple #[])/\∃v',PenAt lo b v' (xs++ys) bad w'/\Turns w b v w' v'
theorem put_any(lo b:Nat)(v:Value)(xs:List Nat)(bad:Int)(w:World)(h:PenAt lo b v xs bad w)(fF:lo<=w.heap.size)(a:Option Addr)(m c:Nat)(ys:List Nat)(hr:Reads .u8 w a m ys)(hn:xs.length+m<=140737488355328):
  Calls prog 41 #[.pointer (some ⟨b,0,none⟩),.slice a m c] w (Wrote lo b v xs ys bad w):=by
 obtain⟨i0,hi,hz0,hz1,hz2⟩:=info_parts info5;have c0:=h.row;have f0:=h.1.frozen 0;have HP:=hid h;have HU:=hid (u8v_length ys);have HN:=hid (Reads.news hr);have HM:Hid (ys.length=m):=hr.1;have HN2:Hid (xs.length+m<=maxLen):=by show _<=_;unfold maxLen;omega
 have HN3:Hid ((xs.length+m)*1<=140737488355328):=by show _<=_;omega
 clear h hr hn;go_enter func41,ntmps41;go_wp2_with (at_builtin;refine wpList_append_at_from rfl _ _ 28 rfl lo 5 i0 (.int .u8 0) 1 underlying28 hi hz0 hz1 hz2 rfl v xs.length (u8v xs) rfl HP.o.2.2 a m c (u8v ys) rfl (by rw[HU.o,HM.o]) HN.o (u8v_one ys) HN2.o HN3.o fF ?_);intro v' w1 ho hg ha;obtain⟨a',c',rfl,_⟩:=ownsRow_slice ho;have hs:=HP.o.stored (ys:=ys) hg ha (by rw[HM.o];exact ho);have hb:Block w1 b 86 [v,.int .i64 bad]:=(hg.block b HP.o.1.lt (fun e=>HP.o.2.1 e.symm)).trans HP.o.1;have c1:w1.cell? ⟨b,0,none⟩=some v:=by rw[hb.cell];rfl
 have f1:=hb.frozen 0;have HS:=hid hs;clear hs hb ho hg ha;go_wp2;exact bodyPost_ret (v:=.tuple #[]) kr_ rfl ⟨rfl,_,HS.o.1,HS.o.2⟩
end pen
theorem t100{P:Prop}(h:P:=by
 rw[hz];go_enter func110,ntmps110;go_wp2;go_ret;exact⟨rfl,0,rfl⟩):P:=h
theorem t95{P:Prop}(h:P:=by
 rintro e w' ⟨he,v',hp,ht⟩;exact⟨he,v',hp,(turns_later hb).trans ht⟩):P:=h
namespace pen
open Go.RowKit texts
theorem put_new(lo b:Nat)(v:Value)(xs:List Nat)(bad:Int)(w:World)(h:PenAt lo b v xs bad w)(fF:lo<=w.heap.size)(ys:List Nat)(hn:xs.length+ys.length<=140737488355328)(vals:Array Value)(hv:vals=(u8v ys).toArray)(m:Nat)(hm:m=ys.length):
  Calls prog 41 #[.pointer (some ⟨b,0,none⟩),.slice (some ⟨w.heap.size,0,none⟩) m m] (w.alloc (.cells vals 5)) (Wrote lo b v xs ys bad w):=by
 subst hv hm;have hb:Below w.heap.size w (w.alloc (.cells (u8v ys).toArray 5)):=(Below.refl _ _).alloc (Nat.le_refl _) _;refine(put_any lo b v xs bad _ (h.later hb) (Nat.le_trans fF hb.size) _ _ _ ys (Reads.new w _ ys) hn).mono ?_
 exact t95
set_option maxRecDepth 8000 in
set_option maxHeartbeats 800000 in
theorem varint_any(lo b:Nat)(v:Value)(xs:List Nat)(bad:Int)(w:World)(h:PenAt lo b v xs bad w)(fF:lo<=w.heap.size)(x:Nat)(hx:x<18446744073709551616)(hn:xs.length+10<=140737488355328):
  Calls prog 38 #[.pointer (some ⟨b,0,none⟩),.int .u64 (x:Int)] w (Wrote lo b v xs (vb x) bad w):=by
 have hlen:=vb_ten x hx;obtain⟨X,hX⟩:∃X,Hid (vb x=X):=⟨_,rfl⟩;rw[hX.o] at hlen ⊢;have HX:Hid (([]:List Nat)++vb x=X):=hX.o;have HP:=hid h;clear h;go_enter func38,ntmps38;go_wp2;go_loopw [1] (fun i wr=>∃(y:Nat) (ys:List Nat) (v':Value),i=.int .u64 (y:Int)/\y<18446744073709551616/\PenAt lo b v' (xs++ys) bad wr/\Turns w b v wr v'/\Hid (ys++vb y=X))
  (fun i _=>(intOf i).toNat)
 case atStart=>exact⟨x,[],v,rfl,hx,by rw[List.append_nil];exact HP.o,Turns.refl _ _ _,HX⟩
 case round=>
  obtain⟨y,ys,v',rfl,hy,hp,ht,he⟩:=hrel;have nK:=Nat.le_trans fF ht.size;have HT:=hid ht;have hl:ys.length+(vb y).length=X.length:=by rw[<-he.o,List.length_append]
  have jC:=vb_pos y;by_cases h128:y<128
  ·have hi:((y:Int)<128):=by omega
   have hE:Hid (ys++[y]=X):=by show _=_;rw[<-he.o,vb_small h128]
   have c1:=put_new lo b v' (xs++ys) bad wr hp nK [y] (by simp;omega) #[.int .u8 (y:Int)] rfl 1 rfl;clear hp ht hl jC;go_wp2_with (go_at_call 41;(with_reducible refine c1.mono ?_);rintro e w2 ⟨rfl,v2,dD,eu⟩);exact ret0 rfl rfl ⟨rfl,v2,by rw[<-hE.o,<-List.append_assoc];exact dD,HT.o.trans eu⟩
  ·have hi:¬((y:Int)<128):=by omega
   have hE:Hid ((ys++[128+y % 128])++vb (y / 128)=X):=by show _=_;rw[<-he.o,vb_big h128];simp
   have c1:∀z:Int,z=((128+y % 128:Nat):Int)->Calls prog 41 #[.pointer (some ⟨b,0,none⟩),.slice (some ⟨wr.heap.size,0,none⟩) 1 1] (wr.alloc (.cells #[.int .u8 z] 5)) (Wrote lo b v' (xs++ys) [128+y % 128] bad wr):=by
    rintro z rfl;exact put_new lo b v' (xs++ys) bad wr hp nK [128+y % 128] (by simp;omega) _ rfl 1 rfl
   clear hp ht hl jC he;go_wp2_with (go_at_call 41;(with_reducible refine(c1 _ om_).mono ?_);rintro e w2 ⟨rfl,v2,dD,eu⟩);exact⟨⟨y / 128,ys++[128+y % 128],v2,by go_num,by omega,by rw[<-List.append_assoc];exact dD,HT.o.trans eu,hE⟩,by simp[intOf];omega⟩
theorem i64_not(n:Int)(h1: -9223372036854775808<=n)(h2:n<=9223372036854775807):bits .xor .i64 (-1) n= -n - 1:=by
 show IntKind.i64.wrap ((BitVec.ofInt 64 (-1) ^^^ BitVec.ofInt 64 n).toNat:Int)=_
 have e1:(BitVec.ofInt 64 (-1)).toNat=2 ^ 64 - 1:=by decide
 rw[BitVec.toNat_xor,e1,Lib.xor_ones64 _ (BitVec.isLt _),BitVec.toNat_ofInt,IntKind.wrap_i64];omega
theorem zigzag_any(n:Int)(h1: -9223372036854775808<=n)(h2:n<=9223372036854775807)(w:World):Calls prog 110 #[.int .i64 n] w (Quiet (.int .u64 (zig n:Int)) w):=by
 have hn:=i64_not n h1 h2;have hsg:IntKind.i64.signed=true:=rfl;by_cases h0:n<0
 ·have hz:(zig n:Int)=2*(-n - 1)+1:=by unfold zig;rw[if_pos h0];omega
  exact t100
 ·have hz:(zig n:Int)=2*n:=by unfold zig;rw[if_neg h0];omega
  exact t100
theorem count_any(lo b:Nat)(v:Value)(xs:List Nat)(bad:Int)(w:World)(h:PenAt lo b v xs bad w)(fF:lo<=w.heap.size)(n:Nat)(rD:n<=9223372036854775807)(hn:xs.length+10<=140737488355328):
  Calls prog 15 #[.pointer (some ⟨b,0,none⟩),.int .i64 (n:Int)] w (Wrote lo b v xs (vb n) bad w):=by
 have c1:=varint_any lo b v xs bad w h fF n om_ hn;obtain⟨X,hX⟩:∃X,Hid (vb n=X):=⟨_,rfl⟩;rw[hX.o] at c1 ⊢;clear h;go_enter func15,ntmps15;go_wp2_with (go_at_call 38;(with_reducible refine c1.mono ?_);rintro e w2 ⟨rfl,v2,dD,eu⟩);exact ret0 rfl rfl ⟨rfl,v2,dD,eu⟩
theorem num_any(lo b:Nat)(v:Value)(xs:List Nat)(bad:Int)(w:World)(h:PenAt lo b v xs bad w)(fF:lo<=w.heap.size)(n:Int)(h1: -9223372036854775808<=n)(h2:n<=9223372036854775807)(hn:xs.length+10<=140737488355328):
  Calls prog 94 #[.pointer (some ⟨b,0,none⟩),.int .i64 n] w (Wrote lo b v xs (vb (zig n)) bad w):=by
 have c0:=zigzag_any n h1 h2 w;have c1:∀m,Calls prog 38 #[.pointer (some ⟨b,0,none⟩),.int .u64 (zig n:Int)] (w.drewN m) (Wrote lo b v xs (vb (zig n)) bad w):=fun m=>
  (varint_any lo b v xs bad (w.drewN m) h fF (zig n) (zig_lt n h1 h2) hn).mono fun e w' ⟨he,v',hp,ht⟩=>⟨he,v',hp,(turns_later (below_drewN (Below.refl _ _) m)).trans ht⟩
 obtain⟨X,hX⟩:∃X,Hid (vb (zig n)=X):=⟨_,rfl⟩;rw[hX.o] at c1 ⊢;clear h;obtain⟨Z,hZ⟩:∃Z,Hid (zig n=Z):=⟨_,rfl⟩;rw[hZ.o] at c0 c1;go_enter func94,ntmps94;go_wp2_with (first
  | (go_at_call 110;(with_reducible refine c0.mono ?_);clear c0;rintro e w1 ⟨rfl,m,rfl⟩)
  | (go_at_call 38;(with_reducible refine(c1 _).mono ?_);rintro e w2 ⟨rfl,v2,dD,eu⟩))
 exact ret0 rfl rfl ⟨rfl,v2,dD,eu⟩
end pen
theorem t93{P:Prop}(h:P:=by
 go_wp2;go_ret;exact⟨_,rfl,HO2.o,HB2.o⟩):P:=h
namespace pen
open Go.RowKit texts
theorem bytes_nil(W:World)(a:Option Addr)(n c:Nat):(binOp .eql 28 (.slice a n c) (.slice none 0 0)).run prog W=.ok (.bool a.isNone) W:=by
 have h:=run_equal_slice_nil (P:=prog) W 28 5 a n c underlying28;simp[binOp,h,Result.andThen]
def Copies(xs:List Nat)(w:World)(e:Ending)(w':World):Prop:=
 ∃v,e=.returned v/\w'.ownsRow w.heap.size 5 1 v xs.length (u8v xs)/\Below w.heap.size w w'
theorem clone_any(a:Option Addr)(m c:Nat)(xs:List Nat)(w:World)(hr:Reads .u8 w a m xs)(hn:m<=140737488355328):
  Calls prog 42 #[.slice a m c] w (Copies xs w):=by
 obtain⟨i0,hi,hz0,hz1,hz2⟩:=info_parts info5;have HM:Hid (xs.length=m):=hr.1;cases a with
 | none=>
  have en:=bytes_nil w none m c;simp only[Option.isNone_none] at en;have h0:m=0:=by rcases hr.2 with h | ⟨_,_,h,_⟩;exact h;cases h
  have HX:=hid h0;clear hr h0;go_enter func42,ntmps42;go_wp2;go_ret;obtain rfl:xs=[]:=List.eq_nil_of_length_eq_zero (HM.o.trans HX.o);exact⟨_,rfl,World.ownsRow_nil _ _ _ _,Below.refl _ _⟩
 | some ad=>
  have en:=bytes_nil w (some ad) m c;simp only[Option.isNone_some] at en;have hb:Below w.heap.size w (w.alloc (.cells #[] 5)):=(Below.refl _ _).alloc (Nat.le_refl _) _;have HB:=hid hb;have HN:=hid (Reads.news (hr.below hb));have HU:=hid (u8v_length xs);have HN2:Hid (0+m<=maxLen):=by show _<=_;unfold maxLen;omega
  have HN3:Hid ((0+m)*1<=140737488355328):=by show _<=_;omega
  have HO:=hid (World.ownsRow_made (base:=w.heap.size) (e:=5) (size:=1) w #[] 0 (Nat.le_refl _) (Nat.zero_le _) rfl);clear hr hb;go_enter func42,ntmps42;go_wp2_with (at_builtin;refine wpList_append_at_from rfl _ _ 28 rfl w.heap.size 5 i0 (.int .u8 0) 1 underlying28 hi hz0 hz1 hz2 rfl (.slice (some ⟨w.heap.size,0,none⟩) 0 0) 0 [] rfl HO.o (some ad) m c (u8v xs) rfl (by rw[HU.o,HM.o]) HN.o (u8v_one xs) HN2.o HN3.o HB.o.size ?_);intro v' w1 ho hg ha;have bQ:Below w.heap.size w w1:=HB.o.grown hg HB.o.size (fun k hk=>by cases hk;exact Nat.le_refl _);have ho':w1.ownsRow w.heap.size 5 1 v' xs.length (u8v xs):=by
   rw[HM.o];simpa using ho
  have HO2:=hid ho';have HB2:=hid bQ;clear ho ho' bQ hg ha
  exact t93
theorem new_any(w:World):Calls prog 14 #[] w fun e w'=>e=.returned (.pointer (some ⟨w.heap.size,0,none⟩))/\PenAt w.heap.size w.heap.size (.slice none 0 0) [] 0 w'/\Below w.heap.size w w':=by
 go_enter func14,ntmps14;go_wp2;go_ret;exact⟨rfl,⟨Block.new w 86 [.slice none 0 0,.int .i64 0],by simp[Value.ownBlock],World.ownsRow_nil _ _ _ _⟩,(Below.refl _ _).alloc (Nat.le_refl _) _⟩
def Gives(xs:List Nat)(bad:Int)(w:World)(e:Ending)(w':World):Prop:=
 ∃v,e=.returned (.tuple #[v,.int .i64 bad])/\w'.ownsRow w.heap.size 5 1 v xs.length (u8v xs)/\Below w.heap.size w w'
theorem done_any(lo b:Nat)(v:Value)(xs:List Nat)(w:World)(h:PenAt lo b v xs 0 w)(hn:xs.length<=140737488355328):
  Calls prog 18 #[.pointer (some ⟨b,0,none⟩)] w (Gives xs 0 w):=by
 obtain⟨a,c,rfl,hc⟩:=ownsRow_slice h.2.2;have c1:=clone_any a xs.length c xs w (Reads.own h.2.2) hn;have c0:=h.row;have c2:=h.err;clear h;go_enter func18,ntmps18;go_wp2_with (go_at_call 42;(with_reducible refine c1.mono ?_);clear c1;rintro e w1 ⟨u,rfl,ho,hb⟩);go_ret2;exact⟨_,rfl,ho,hb⟩
end pen
namespace pen
open Go.RowKit texts
theorem put_text(lo b:Nat)(v:Value)(xs:List Nat)(bad:Int)(w:World)(h:PenAt lo b v xs bad w)(fF:lo<=w.heap.size)(s:List UInt8)(c:Nat)(hn:xs.length+s.length<=140737488355328):
  Calls prog 41 #[.pointer (some ⟨b,0,none⟩),.slice (some ⟨w.heap.size,0,none⟩) (strL s).size c] (Lib.bytesWorld w 5 (strL s)) (Wrote lo b v xs (nums s) bad w):=by
 have hb:Below w.heap.size w (Lib.bytesWorld w 5 (strL s)):=⟨rfl,rfl,rfl,by rw[Lib.bytesWorld_size];omega,fun k hk=>Lib.bytesWorld_at_old w _ _ k hk⟩;have hr:Reads .u8 (Lib.bytesWorld w 5 (strL s)) (some ⟨w.heap.size,0,none⟩) (strL s).size (nums s):=by
  rw[strL_size];refine⟨nums_len s,.inr ⟨_,_,rfl,by rw[Lib.bytesWorld_size];omega,fun i hi=> ?_⟩⟩;rw[Nat.zero_add,Lib.bytesWorld_cell _ _ _ _ (by rw[strL_size];exact hi),strL_data];simp[nums,List.getD_eq_getElem?_getD,List.getElem?_eq_getElem hi]
 refine(put_any lo b v xs bad _ (h.later hb) (Nat.le_trans fF hb.size) _ _ c (nums s) hr (by rw[strL_size];exact hn)).mono ?_
 exact t95
theorem text_any(lo b:Nat)(v:Value)(xs:List Nat)(bad:Int)(w:World)(h:PenAt lo b v xs bad w)(fF:lo<=w.heap.size)(s:List UInt8)(hs:s.length<=9223372036854775807)(hn:xs.length+10+s.length<=140737488355328):
  Calls prog 17 #[.pointer (some ⟨b,0,none⟩),.string (strL s)] w (Wrote lo b v xs (vb s.length++nums s) bad w):=by
 have c1:Calls prog 15 #[.pointer (some ⟨b,0,none⟩),.int .i64 ((strL s).size:Int)] w (Wrote lo b v xs (vb s.length) bad w):=by
  rw[strL_size];exact count_any lo b v xs bad w h fF s.length om_ om_
 have hl:=vb_ten s.length om_;have c2:Hid (∀v1 w1,PenAt lo b v1 (xs++vb s.length) bad w1->lo<=w1.heap.size->∀c,Calls prog 41 #[.pointer (some ⟨b,0,none⟩),.slice (some ⟨w1.heap.size,0,none⟩) (strL s).size c] (Lib.bytesWorld w1 5 (strL s)) (Wrote lo b v1 (xs++vb s.length) (nums s) bad w1)):=
  fun v1 w1 h1 h2 c=>put_text lo b v1 _ bad w1 h1 h2 s c (by rw[List.length_append];omega)
 have hcv:Hid (∀w1:World,(convert 9 28 (.string (strL s))).run prog w1=.ok (.slice (some ⟨w1.heap.size,0,none⟩) (strL s).size (grownCap w1 (strL s).size 0 5)) (Lib.bytesWorld w1 5 (strL s))):=
  fun w1=>Lib.run_convert_string_bytes w1 _ _ _ _ underlying9 underlying28 underlying5
 have hsz:(strL s).size<=9223372036854775807:=by rw[strL_size];exact hs
 obtain⟨S,hS⟩:∃S,Hid (strL s=S):=⟨_,rfl⟩;obtain⟨V,hV⟩:∃V,Hid (vb s.length=V):=⟨_,rfl⟩;rw[hS.o] at c1 c2 hcv hsz ⊢;rw[hV.o] at c1 c2 ⊢;clear h hl;go_enter func17,ntmps17;go_wp2_with (first
  | (go_at_call 15;(with_reducible refine c1.mono ?_);clear c1;rintro e w1 ⟨rfl,v1,ig,fQ⟩;have hc1:=hcv.o w1;have hq:=c2.o v1 w1 ig (Nat.le_trans fF fQ.size))
  | (go_at_call 41;(with_reducible refine(hq _).mono ?_);rintro e w2 ⟨rfl,v2,dD,eu⟩))
 exact ret0 rfl rfl ⟨rfl,v2,by rw[<-List.append_assoc];exact dD,fQ.trans eu⟩
end pen
theorem t141{P:Prop}(h:P:=by
 rw[HV.o];exact⟨rfl,_,by repeat (first | rfl | rw[World.drewN_drewN])⟩):P:=h
theorem t49{P:Prop}(h:P:=by
 rw[show(sizeOf (prog.elem 28)).run prog W=.ok 1 W by kernel_rfl];simp[Result.andThen,sliced,shift]):P:=h
theorem t26{P:Prop}(h:P:=by
 clear hs;go_enter func51,ntmps51;go_wp2_with (first
  | (go_at_call 82;(with_reducible refine c0.mono ?_);rintro e w' ⟨rfl,m,rfl⟩)
  | (go_at_call 82;(with_reducible refine(c1 _).mono ?_);rintro e w' ⟨rfl,m1,rfl⟩)
  | (go_at_call 83;(with_reducible refine(c2 _).mono ?_);rintro e w' ⟨rfl,m2,rfl⟩))
 go_ret
 exact t141):P:=h
namespace pen
open Go.RowKit texts
def shift(a:Option Addr)(k cap:Nat):Option Addr:=if cap=k then a else a.map (·.add k)
theorem cut_from(W:World)(a:Option Addr)(len cap k:Nat)(h:k<=len):(Instr.slice 28 (.slice a len cap) (some (.int .i64 (k:Int))) none none).run prog W=.ok (.slice (shift a k cap) (len - k) (cap - k)) W:=by
 rw[run_slice_l W 28 a len cap kr_ .i64 k om_ om_]
 exact t49
theorem cut_to(W:World)(a:Option Addr)(len cap k:Nat)(h:k<=cap):(Instr.slice 28 (.slice a len cap) none (some (.int .i64 (k:Int))) none).run prog W=.ok (.slice (shift a 0 cap) k cap) W:=by
 rw[run_slice_h W 28 a len cap kr_ .i64 k om_ om_]
 exact t49
theorem cut_full(W:World)(a:Option Addr)(len cap k:Nat)(h:k<=cap):(Instr.slice 28 (.slice a len cap) none (some (.int .i64 (k:Int))) (some (.int .i64 (k:Int)))).run prog W=.ok (.slice (shift a 0 k) k k) W:=by
 rw[run_slice_hm W 28 a len cap kr_ .i64 .i64 k k om_ om_ om_]
 exact t49
theorem shift_low{a:Option Addr}{k cap b n m:Nat}(h:0<n->∀x,a=some x->x.block<b)(hm:m<=n):0<m->∀x,shift a k cap=some x->x.block<b:=by
 intro h0 x hx;have h:=h (Nat.lt_of_lt_of_le h0 hm);unfold shift at hx;split at hx
 ·exact h x hx
 ·cases a with
  | none=>cases hx
  | some y=>
   cases hx
   have:=h y rfl;unfold Addr.add;split <;> exact this
theorem reads_shift{w:World}{a:Option Addr}{len cap k:Nat}{xs:List Nat}(h:Reads .u8 w a len xs)(hk:k<=len)(hc:len<=cap):Reads .u8 w (shift a k cap) (len - k) (xs.drop k):=by
 refine⟨by rw[List.length_drop,h.1], ?_⟩;by_cases h0:len - k=0
 ·exact .inl h0
 ·obtain⟨b,off,rfl,hb,hcell⟩:=h.at (i:=0) om_;refine .inr ⟨b,off+k, ?_,hb,fun i hi=> ?_⟩
  ·rw[shift,if_neg om_,Option.map_some,Addr.add_lit]
  ·have:=hcell (k+i) om_;rw[Nat.add_assoc,this,List.getD_eq_getElem?_getD,List.getD_eq_getElem?_getD,List.getElem?_drop]
theorem reads_take{w:World}{a:Option Addr}{len cap k:Nat}{xs:List Nat}(h:Reads .u8 w a len xs)(hk:k<=len):Reads .u8 w (shift a 0 cap) k (xs.take k):=by
 refine⟨by rw[List.length_take,h.1];omega, ?_⟩;by_cases h0:k=0
 ·exact .inl h0
 ·obtain⟨b,off,rfl,hb,hcell⟩:=h.at (i:=0) om_;refine .inr ⟨b,off, ?_,hb,fun i hi=> ?_⟩
  ·unfold shift;split <;> rfl
  ·have:=hcell i om_;rw[this,List.getD_eq_getElem?_getD,List.getD_eq_getElem?_getD,List.getElem?_take,if_pos hi]
theorem reads_but{w w':World}{a:Option Addr}{len b:Nat}{xs:List Nat}(h:Reads .u8 w a len xs)(hb:But w.heap.size b w w')(ha:∀x,a=some x->x.block≠b):Reads .u8 w' a len xs:=by
 by_cases h0:len=0
 ·exact⟨h.1,.inl h0⟩
 ·obtain⟨g,off,rfl,hg,_⟩:=h.at (i:=0) om_;exact Reads.but h hb hg (ha _ rfl)
theorem reads_low{w w':World}{a:Option Addr}{len b:Nat}{xs:List Nat}(h:Reads .u8 w a len xs)(hb:But w.heap.size b w w')(ha:0<len->∀x,a=some x->x.block<b):Reads .u8 w' a len xs:=by
 by_cases h0:len=0
 ·exact⟨h.1,.inl h0⟩
 ·exact reads_but h hb fun x hx=>Nat.ne_of_lt (ha om_ x hx)
def EyeAt(t:TypeId)(b:Nat)(s:Sight)(w:World):Prop:=
 (∀c∈s.1,c<256)/\s.1.length<=140737488355328/\∃a cap,Block w b t [.slice a s.1.length cap,.int .i64 (s.2:Int)]/\s.1.length<=cap/\Reads .u8 w a s.1.length s.1/\(0<s.1.length->∀x,a=some x->x.block<b)
theorem EyeAt.lt{t:TypeId}{b:Nat}{s:Sight}{w:World}(h:EyeAt t b s w):b<w.heap.size:=by
 obtain⟨_,_,a,c,hb,_⟩:=h;exact hb.lt
theorem EyeAt.later{t:TypeId}{b:Nat}{s:Sight}{w w':World}(h:EyeAt t b s w)(hb:Below w.heap.size w w'):EyeAt t b s w':=by
 obtain⟨h1,h2,a,c,h3,h4,h5,h6⟩:=h;exact⟨h1,h2,a,c,h3.later hb,h4,h5.below hb,h6⟩
theorem EyeAt.fail{t:TypeId}{b:Nat}{s:Sight}{w:World}(h:EyeAt t b s w)(z:Nat):EyeAt t b (s.1,z) (w.setCell ⟨b,1,none⟩ (.int .i64 (z:Int)))/\But w.heap.size b w (w.setCell ⟨b,1,none⟩ (.int .i64 (z:Int))):=by
 obtain⟨h1,h2,a,c,h3,h4,h5,h6⟩:=h;have gY:=(But.refl w.heap.size b w).setCell 1 (.int .i64 (z:Int));exact⟨⟨h1,h2,a,c,h3.setCell 1 _,h4,reads_low h5 gY h6,h6⟩,gY⟩
def Saw(t:TypeId)(b:Nat)(v:Value)(s:Sight)(w:World)(e:Ending)(w':World):Prop:=e=.returned v/\EyeAt t b s w'/\But w.heap.size b w w'
theorem bad_any(b:Nat)(s:Sight)(w:World)(h:EyeAt 123 b s w):Calls prog 82 #[.pointer (some ⟨b,0,none⟩)] w (Quiet (.int .i64 (s.2:Int)) w):=by
 obtain⟨_,_,a,c,hb,_,_,_⟩:=h;have c1:w.cell? ⟨b,1,none⟩=some (.int .i64 (s.2:Int)):=by rw[hb.cell];rfl
 clear hb;go_enter func82,ntmps82;go_wp2;go_ret;exact⟨rfl,0,rfl⟩
theorem left_any(b:Nat)(s:Sight)(w:World)(h:EyeAt 123 b s w):Calls prog 83 #[.pointer (some ⟨b,0,none⟩)] w (Quiet (.int .i64 (s.1.length:Int)) w):=by
 obtain⟨_,_,a,c,hb,_,_,_⟩:=h;have c1:w.cell? ⟨b,0,none⟩=some (.slice a s.1.length c):=by rw[hb.cell];rfl
 clear hb;go_enter func83,ntmps83;go_wp2;go_ret;exact⟨rfl,0,rfl⟩
theorem end_any(b:Nat)(s:Sight)(w:World)(h:EyeAt 123 b s w):Calls prog 51 #[.pointer (some ⟨b,0,none⟩)] w (Quiet (.int .i64 (eEnd s:Int)) w):=by
 have HE:=hid h;have c1:∀n,Calls prog 82 #[.pointer (some ⟨b,0,none⟩)] (w.drewN n) (Quiet (.int .i64 (s.2:Int)) (w.drewN n)):=fun n=>bad_any b s _ HE.o
 have c2:∀n,Calls prog 83 #[.pointer (some ⟨b,0,none⟩)] (w.drewN n) (Quiet (.int .i64 (s.1.length:Int)) (w.drewN n)):=fun n=>left_any b s _ HE.o
 have c0:=bad_any b s w h;obtain⟨E,hE⟩:∃E,Hid (eEnd s=E):=⟨_,rfl⟩;rw[hE.o];have hlen:=h.2.1;clear h;by_cases hs:s.2=0
 ·have hi:((s.2:Int) == 0)=true:=by rw[hs];rfl
  by_cases hl:0<s.1.length
  ·have hj:(0:Int)<s.1.length:=by omega
   have HV:Hid (E=6):=by show _=_;rw[<-hE.o,eEnd,if_pos ⟨hs,hl⟩]
   exact t26
  ·have hj:¬(0:Int)<s.1.length:=by omega
   have HV:Hid (E=s.2):=by show _=_;rw[<-hE.o,eEnd,if_neg om_]
   exact t26
 ·have hi:((s.2:Int) == 0)=false:=by rw[beq_eq_false_iff_ne];omega
  have HV:Hid (E=s.2):=by show _=_;rw[<-hE.o,eEnd,if_neg om_]
  clear hs;go_enter func51,ntmps51;go_wp2_with (first
   | (go_at_call 82;(with_reducible refine c0.mono ?_);rintro e w' ⟨rfl,m,rfl⟩)
   | (go_at_call 82;(with_reducible refine(c1 _).mono ?_);rintro e w' ⟨rfl,m1,rfl⟩))
  go_ret
  exact t141
end pen
end Go.Proofs.YtogfefdlffmioaaGreat
