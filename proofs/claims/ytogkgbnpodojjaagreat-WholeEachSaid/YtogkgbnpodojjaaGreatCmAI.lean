/- Contracts and lemmas that claims of this seat share: WholeFind, RecordLay. Each says its own conditions. -/
import Derived.Test.YtogkgbnpodojjaaGreatCmWord
import Derived.Handy
import Derived.Test.YtogkgbnpodojjaaGreatCmJ
import Derived.Test.YtogkgbnpodojjaaGreatCmAD
import Derived.Test.YtogkgbnpodojjaaGreatCmAH
set_option linter.unusedVariables false
namespace Go.Proofs.YtogkgbnpodojjaaGreat
open Go.Proofs.Tryz
theorem t27{P:Prop}(h:P:=by
 go_enter func25,ntmps25;go_wp2_with (first
  | (go_at_call 59;((with_reducible refine cX.mono ?_);rintro e w1 ⟨rfl,rfl⟩))
  | (go_at_call 59;((with_reducible refine cY.mono ?_);rintro e w1 ⟨rfl,rfl⟩)))
 go_ret;exact ⟨rfl,rfl⟩):P:=h
namespace whole
open Go.RowKit
open item (It Its Finds ak)
def Gives (v:Value) (w:World) (e:Ending) (w':World):Prop:=e=.returned v/\Below w.heap.size w w'
def gG (x y:Int):Int:=if x<y then -1 else if y<x then 1 else 0
def Still (v:Value) (w:World) (e:Ending) (w':World):Prop:=e=.returned v/\w'=w
theorem lq (x:Nat) (w:World):Calls prog 59 #[.int .u32 (x:Int)] w (Still (.bool false) w):=by
 unfold Still;go_enter func59,ntmps59;go_wp2;go_ret;exact ⟨by simp,rfl⟩
theorem jm (x y:Nat) (w:World):Calls prog 25 #[.int .u32 (x:Int),.int .u32 (y:Int)] w (Still (.int .i64 (gG (x:Int) (y:Int))) w):=by
 have cX:=lq x w;have cY:=lq y w;obtain ⟨v,hv⟩:∃v:Int,Hid (gG (x:Int) (y:Int)=v):=⟨_,rfl⟩;rw [hv.o];unfold Still at *;by_cases h1:(x:Int)<(y:Int)
 ·obtain rfl: -1=v:=by rw [<-hv.o];unfold gG;rw [if_pos h1]
  exact t27
 ·by_cases h2:(y:Int)<(x:Int)
  ·obtain rfl:1=v:=by rw [<-hv.o];unfold gG;rw [if_neg h1,if_pos h2]
   have d2:decide ((x:Int)>(y:Int))=true:=decide_eq_true h2
   exact t27
  ·obtain rfl:0=v:=by rw [<-hv.o];unfold gG;rw [if_neg h1,if_neg h2]
   have d2:decide ((x:Int)>(y:Int))=false:=decide_eq_false h2
   exact t27
theorem wU (p:It) (x:Nat) (w:World):
  Calls prog 119 #[.agg #[.int .u32 (p.key:Nat),.string p.data],.int .u32 (x:Int)] w (Gives (.int .i64 (gG (p.key:Int) (x:Int))) w):=by
 have HN:=ak w (.cells #[.int .u32 (p.key:Nat),.string p.data] 43);have cC:=fun w'=>jm p.key x w'
 obtain ⟨v,hv⟩:∃v:Int,Hid (gG (p.key:Int) (x:Int)=v):=⟨_,rfl⟩;simp only [hv.o] at cC ⊢;unfold Still at cC;unfold Gives;go_enter func119,ntmps119;go_wp2_with (go_at_call 25;((with_reducible refine (cC _).mono ?_);rintro e w1 ⟨rfl,rfl⟩));go_ret;exact ⟨rfl,HN⟩
def Mid (L:List It) (x:Nat) (i j:Nat):Prop:=(∀p∈L.take i,p.key<x)/\(∀p∈L.drop j,¬p.key<x)
def Sorted (L:List It):Prop:=L.Pairwise (fun a b=>a.key<b.key)
theorem Mid.start (L:List It) (x:Nat):Mid L x 0 L.length:=⟨by simp,by simp⟩
theorem Mid.up {L:List It} {x i j h:Nat} {p:It} (hm:Mid L x i j) (hs:Sorted L) (hp:L[h]?=some p) (hx:p.key<x):Mid L x (h+1) j:=by
 refine ⟨fun q hq=> ?_,hm.2⟩;obtain ⟨k,hk⟩:=List.mem_iff_getElem?.1 hq;rw [List.getElem?_take] at hk;split at hk
 ·rename_i hlt;by_cases e:k=h
  ·subst e;rw [hp] at hk;cases hk
   exact hx
  ·obtain ⟨a1,a2⟩:=List.getElem?_eq_some_iff.1 hk;obtain ⟨b1,b2⟩:=List.getElem?_eq_some_iff.1 hp;have:=List.pairwise_iff_getElem.1 hs k h a1 b1 om_;rw [a2,b2] at this;omega
 ·cases hk
theorem Mid.down {L:List It} {x i j h:Nat} {p:It} (hm:Mid L x i j) (hs:Sorted L) (hp:L[h]?=some p) (hx:¬p.key<x):Mid L x i h:=by
 refine ⟨hm.1,fun q hq=> ?_⟩;obtain ⟨k,hk⟩:=List.mem_iff_getElem?.1 hq;rw [List.getElem?_drop] at hk;by_cases e:k=0
 ·subst e;rw [Nat.add_zero,hp] at hk;cases hk
  exact hx
 ·obtain ⟨a1,a2⟩:=List.getElem?_eq_some_iff.1 hk;obtain ⟨b1,b2⟩:=List.getElem?_eq_some_iff.1 hp;have:=List.pairwise_iff_getElem.1 hs h (h+k) b1 a1 om_;rw [a2,b2] at this;omega
theorem Mid.here {L:List It} {x i:Nat} {p:It} (hm:Mid L x i i) (hp:L[i]?=some p) (hx:p.key=x):item.find x L=some p:=by
 unfold item.find;refine item.zL hp ?_ (by simpa using hx);rw [List.find?_eq_none];intro q hq;have:=hm.1 q hq;simp;omega
theorem Mid.none {L:List It} {x i:Nat} (hm:Mid L x i i) (hs:Sorted L) (h:∀p,L[i]?=some p->p.key≠x):item.find x L=none:=by
 unfold item.find;rw [List.find?_eq_none];intro q hq;rw [<-List.take_append_drop i L,List.mem_append] at hq;simp only [beq_iff_eq];rcases hq with hq | hq
 ·have:=hm.1 q hq;omega
 ·obtain ⟨k,hk⟩:=List.mem_iff_getElem?.1 hq;rw [List.getElem?_drop] at hk;by_cases e:k=0
  ·subst e;exact h q hk
  ·have h1:=(List.getElem?_eq_some_iff.1 hk).1;have hp:L[i]?=some (L[i]'om_):=List.getElem?_eq_getElem _;have h2:=h _ hp;have h3:¬(L[i]'om_).key<x:=hm.2 _ (by
    rw [List.mem_iff_getElem?];exact ⟨0,by rw [List.getElem?_drop];simp⟩)
   have:=List.pairwise_iff_getElem.1 hs i (i+k) om_ h1 om_;rw [(List.getElem?_eq_some_iff.1 hk).2] at this;omega
theorem yw {x y:Int} (h:x<y):gG x y= -1:=by unfold gG;rw [if_pos h]
theorem yt {x y:Int} (h:¬x<y):0<=gG x y:=by unfold gG;rw [if_neg h];split <;> omega
theorem D6 {x y:Int}:gG x y=0↔x=y:=by
 unfold gG;split
 ·omega
 ·split <;> omega
def DW (L:List It) (x:Nat) (w:World) (e:Ending) (w':World):Prop:=
 ∃(i:Nat) (b:Bool),e=.returned (.tuple #[.int .i64 (i:Int),.bool b])/\(b=true->∃p,L[i]?=some p/\item.find x L=some p)/\(b=false->item.find x L=none)/\Below w.heap.size w w'
theorem DW.mk {L:List It} {x:Nat} {w w':World} (i:Nat) (b:Bool) (h1:b=true->∃p,L[i]?=some p/\item.find x L=some p) (h2:b=false->item.find x L=none) (hb:Below w.heap.size w w'):DW L x w (.returned (.tuple #[.int .i64 (i:Int),.bool b])) w':=⟨i,b,rfl,h1,h2,hb⟩
theorem jT (a:Option Addr) (cap:Nat) (L:List It) (x:Nat) (w:World) (h:Its w a L) (hL:L.length<=1000000) (hs:Sorted L):
  Calls prog 118 #[.slice a L.length cap,.int .u32 (x:Int),.func (.func 119) #[] #[]] w (DW L x w):=by
 have hml:(L.length:Int)<=1000000:=by omega
 have HF:=hid h;have HS:=hid hs;have HM:=hid (Mid.start L x);clear h hs;go_enter func118,ntmps118;go_wp2;go_loopw [9,10] (fun n m wr=>∃i j:Nat,i<=j/\j<=L.length/\n=.int .i64 (i:Int)/\m=.int .i64 (j:Int)/\Hid (Mid L x i j)/\Hid (Below w.heap.size w wr)) (fun n m _=>(intOf m).toNat - (intOf n).toNat);case atStart=>exact ⟨0,L.length,Nat.zero_le _,Nat.le_refl _,rfl,rfl,HM,hid (Below.refl _ _)⟩
 case round=>
  obtain ⟨i,j,hij,hj,rfl,rfl,HMD,HB⟩:=hrel;by_cases hlt:i<j
  ·obtain ⟨H,hH⟩:∃H:Nat,(i+j) / 2=H:=⟨_,rfl⟩;have i1:(i:Int)<j:=by omega
   have i2:(j:Int)<=L.length:=by omega
   have hH1:i<=H:=by omega
   have hH2:H<j:=by omega
   have s1:((i:Int)+(j:Int)) / 2=(H:Int):=by omega
   have i3:(H:Int)<L.length:=by omega
   obtain ⟨b,off,p,rfl,hbl,hp,c0,c1⟩:=(HF.o.below HB.o).at (i:=H) om_;have cB:=wU p x wr;unfold Gives at cB;have HUP:=hid (fun hx=>HMD.o.up HS.o hp hx);have HDN:=hid (fun hx=>HMD.o.down HS.o hp hx);clear hp hH;by_cases hx:p.key<x
   ·rw [yw om_] at cB;have HX:=hid hx;clear hx;go_wp2_with (go_at_call 119;((with_reducible refine cB.mono ?_);rintro e w1 ⟨rfl,hb1⟩));exact ⟨⟨H+1,j,by omega,hj,by go_num,rfl,hid (HUP.o HX.o),hid (HB.o.trans (hb1.mono HB.o.size))⟩,by simp [intOf];omega⟩
   ·obtain ⟨V,hV⟩:∃V:Int,Hid (gG (p.key:Int) (x:Int)=V):=⟨_,rfl⟩;have hV0:0<=V:=by rw [<-hV.o];exact yt om_
    rw [hV.o] at cB;have HX:=hid hx;clear hx;have d1:decide (V<0)=false:=decide_eq_false om_;have d2:¬V<0:=by omega
    go_wp2_with (go_at_call 119;((with_reducible refine cB.mono ?_);rintro e w1 ⟨rfl,hb1⟩));exact ⟨⟨i,H,hH1,by omega,rfl,rfl,hid (HDN.o HX.o),hid (HB.o.trans (hb1.mono HB.o.size))⟩,by simp [intOf];omega⟩
  ·obtain rfl:i=j:=by omega
   have j1:¬((i:Int)<(i:Int)):=by omega
   by_cases hl:i<L.length
   ·have i3:(i:Int)<L.length:=by omega
    obtain ⟨b,off,p,rfl,hbl,hp,c0,c1⟩:=(HF.o.below HB.o).at (i:=i) hl;have cB:=wU p x wr;unfold Gives at cB;obtain ⟨V,hV⟩:∃V:Int,Hid (gG (p.key:Int) (x:Int)=V):=⟨_,rfl⟩;rw [hV.o] at cB;have HP:=hid hp;clear hp;by_cases h0:V=0
    ·subst h0;go_wp2_with (go_at_call 119;((with_reducible refine cB.mono ?_);rintro e w1 ⟨rfl,hb1⟩));go_ret2;exact DW.mk i true (fun _=>⟨p,HP.o,HMD.o.here HP.o (by have:=D6.1 hV.o;omega)⟩) (fun q=>(by cases q)) (HB.o.trans (hb1.mono HB.o.size))
    ·have d0:(V == 0)=false:=by simpa using h0
     go_wp2_with (go_at_call 119;((with_reducible refine cB.mono ?_);rintro e w1 ⟨rfl,hb1⟩));go_ret2;exact DW.mk i false (fun q=>(by cases q)) (fun _=>HMD.o.none HS.o (fun q hq e=>by rw [HP.o] at hq;cases hq;exact h0 (by rw [<-hV.o];exact D6.2 om_))) (HB.o.trans (hb1.mono HB.o.size))
   ·have i3:¬((i:Int)<L.length):=by omega
    go_wp2;go_ret2;exact DW.mk i false (fun q=>(by cases q)) (fun _=>HMD.o.none HS.o (fun q hq e=>by have:=(List.getElem?_eq_some_iff.1 hq).1;omega)) HB.o
set_option maxRecDepth 20000 in
theorem G8 (a:Option Addr) (c:Nat) (L:List It) (x:Nat) (w:World) (h:Its w a L) (hL:L.length<=1000000) (hs:Sorted L):
  Calls prog 75 #[.slice a L.length c,.int .u32 (x:Int)] w (Finds (item.find x L) w):=by
 have cS:=jT a c L x w h hL hs;have HF:=hid h;have hml:(L.length:Int)<=1000000:=by omega
 unfold Finds;cases ho:item.find x L with
 | none=>
  have cS0:Calls prog 118 #[.slice a L.length c,.int .u32 (x:Int),.func (.func 119) #[] #[]] w fun e w'=>∃i:Nat,e=.returned (.tuple #[.int .i64 (i:Int),.bool false])/\Below w.heap.size w w':=by
   refine cS.mono ?_;rintro e w' ⟨i,b,rfl,h1,h2,hb⟩;cases b with
   | false=>exact ⟨i,rfl,hb⟩
   | true=>obtain ⟨p,_,hp⟩:=h1 rfl;rw [ho] at hp;cases hp
  clear cS h hs ho;go_enter func75,ntmps75;go_wp2_with (go_at_call 118;((with_reducible refine cS0.mono ?_);rintro e w1 ⟨i,rfl,hb1⟩));go_ret2;exact ⟨rfl,hb1⟩
 | some p=>
  have cS0:Calls prog 118 #[.slice a L.length c,.int .u32 (x:Int),.func (.func 119) #[] #[]] w fun e w'=>∃i:Nat,e=.returned (.tuple #[.int .i64 (i:Int),.bool true])/\L[i]?=some p/\Below w.heap.size w w':=by
   refine cS.mono ?_;rintro e w' ⟨i,b,rfl,h1,h2,hb⟩;cases b with
   | false=>rw [ho] at h2;cases h2 rfl
   | true=>obtain ⟨q,hq,hp⟩:=h1 rfl;rw [ho] at hp;cases hp;exact ⟨i,rfl,hq,hb⟩
  clear cS h hs ho;go_enter func75,ntmps75;go_wp2_with (go_at_call 118;((with_reducible refine cS0.mono ?_);rintro e w1 ⟨i,rfl,hp,hb1⟩;have hi:=(List.getElem?_eq_some_iff.1 hp).1;have i3:(i:Int)<L.length:=om_;obtain ⟨b,off,q,rfl,hbl,hq,c0,c1⟩:=(HF.o.below hb1).at (i:=i) hi;obtain rfl:p=q:=(by rw [hp] at hq;cases hq;rfl);clear hp hq));go_ret2;exact ⟨rfl,hb1⟩
end whole
namespace record
open Go.RowKit
open field (Va Gives ak aj WV sZ qI u8v vO tV)
open schema (aP eP Fine Bv gQ kQ)
theorem CV (xs ys:List Nat):u8v (xs++ys)=u8v xs++u8v ys:=by simp [u8v]
theorem Jd (xs:List Nat):∀v∈u8v xs,v.oneCell'=true:=by intro v hv;obtain ⟨x,_,rfl⟩:=List.mem_map.1 hv;rfl
theorem He {w:World} {base e n cap:Nat} {a:Option Addr} {xs:List Value} (h:w.ownsRow base e 1 (.slice a n cap) n xs):n=0\/∃ad,a=some ad/\∀j u,xs[j]?=some u->w.cell? (ad.add j)=some u:=by
 obtain ⟨hl,hr⟩:=h;rcases hr with ⟨hv,h0⟩ | ⟨b,cap',cur,hv,_,hg,hcp,_,_,htake⟩
 ·exact .inl h0
 ·cases hv
  refine .inr ⟨_,rfl,fun j u hj=> ?_⟩;have hi:j<xs.length:=(List.getElem?_eq_some_iff.1 hj).1;rw [<-htake,List.getElem?_take,if_pos om_] at hj;rw [Addr.add_lit,cell_of_row w b _ cur _ _ hg,Nat.zero_add,<-hj,Array.getElem?_toList]
structure BS (w0:World) (B:Nat) (xs:List Nat) (u:Value) (w:World):Prop where
 f:Block w B 91 [u]
 row:w.ownsRow (B+1) 5 1 u xs.length (u8v xs)
 low:Below w0.heap.size w0 w
 at':w0.heap.size=B
theorem BS.later {w0 w w':World} {B:Nat} {xs:List Nat} {u:Value} (h:BS w0 B xs u w) (hb:Below w.heap.size w w'):BS w0 B xs u w':=
 ⟨h.f.later hb,ai h.row hb,h.low.trans (hb.mono h.low.size),h.at'⟩
theorem BS.held {w0 w w':World} {B:Nat} {xs:List Nat} {u:Value} (h:BS w0 B xs u w) (hg:w.grownBy w' u.ownBlock):Block w' B 91 [u]:=
 (hg.block B h.f.lt (by intro he;have:=World.ownsRow.lt h.row B he.symm;omega)).trans h.f
theorem BS.push {w0 w w':World} {B:Nat} {xs ys:List Nat} {u z:Value} (h:BS w0 B xs u w) (hg:w.grownBy w' u.ownBlock) (ho:w'.ownsRow (B+1) 5 1 z (xs.length+ys.length) (u8v xs++u8v ys)):BS w0 B (xs++ys) z (w'.setCell ⟨B,0,none⟩ z):=by
 have hF:=h.held hg;refine ⟨hF.setCell 0 z, ?_, ?_,h.at'⟩
 ·rw [List.length_append,CV];refine bT ho (fun g hg=> ?_);have:=World.ownsRow.lt ho g hg;exact Below.heap_setCell w' ⟨B,0,none⟩ z g (by show g≠B;omega)
 ·have hl:=h.low.grown hg (by have:=h.low.size;omega) (fun k hk=>by have:=World.ownsRow.lt h.row k hk;have:=h.at';omega);exact below_setCells hl (Nat.le_of_eq h.at') 0 [z]
theorem BS.start (w1:World):BS w1 w1.heap.size [] (.slice none 0 0) (w1.alloc (.cells #[.slice none 0 0] 91)):=
 ⟨Block.new w1 91 [.slice none 0 0],World.ownsRow_nil _ _ _ _,ak _ _,rfl⟩
theorem Eu (f:field.Fd) (v:Va):(f.lu v == 0)=decide (f.Has v):=by
 unfold field.Fd.lu;by_cases h:f.Has v
 ·rw [if_neg (fun k=>k h.1),if_neg (fun k=>k h),decide_eq_true h];rfl
 ·rw [decide_eq_false h];by_cases hr:f.Right
  ·rw [if_neg (fun k=>k hr),if_pos h];rfl
  ·rw [if_pos hr];rfl
theorem BU (f:field.Fd) (v:Va) (w0:World) (B:Nat) (xs:List Nat) (u:Value) (w:World) (h:BS w0 B xs u w) (hx:xs.length<=1000000):
  Calls prog 126 #[zF f,zV v,.pointer (some ⟨B,0,none⟩)] w fun e w'=>e=.returned (.bool (decide (f.Has v)))/\∃u',BS w0 B (xs++f.bZ v) u' w':=by
 have HW:=hid (WV.all f v w);have cl:=sZ f v (WV f v w);have hl33:(f.bZ v).length<=33:=Nat.le_trans (Dv f v) f.size_le;have HS:=hid h;have HE:=hid (Eu f v);obtain ⟨r,hr⟩:∃r,Hid (decide (f.Has v)=r):=⟨_,hid rfl⟩;rw [hr.o] at HE ⊢;obtain ⟨i0,hi,hz0,hz1,hz2⟩:=info_parts tV;unfold qI at cl;generalize f.bZ v=Y at *;have heq:(f.lu v == 0)=r:=HE.o;generalize f.lu v=E at *;unfold WV at HW cl;clear h;obtain ⟨ua,uc,rfl,_⟩:=aA HS.o.row;go_enter func126,ntmps126;go_wp2_with (first
  | (go_at_call 127;((with_reducible refine cl.mono ?_);rintro e w2 ⟨z,rfl,ho2,hb2⟩;obtain ⟨hf2,hv2,hbw2⟩:=HW.o _ hb2;obtain ⟨za,zc,rfl,_⟩:=aA ho2;have HS2:=hid (HS.o.later hbw2);have hB0:=HS2.o.f.cell 0;have HN:=hid (He ho2);have HUL:=hid (vO Y)))
  | (at_builtin;refine jZ rfl _ _ 91 rfl (B+1) 5 i0 (.int .u8 0) 1 underlying91 hi hz0 hz1 hz2 rfl _ xs.length (u8v xs) rfl HS2.o.row za Y.length zc (u8v Y) rfl HUL.o HN.o (Jd Y) (by unfold maxLen;omega) om_ HS2.o.f.lt ?_;intro z w3 ho3 hg3;have hF3:=HS2.o.held hg3;have hc3:=hF3.cell 0;have hz3:=hF3.frozen 0;have HS3:=hid (HS2.o.push hg3 ho3);obtain ⟨qa,qc,rfl,_⟩:=aA ho3;clear ho3 hg3 hF3))
 go_ret;exact ⟨by first | rfl | exact dA (by assumption),_,HS3.o⟩
theorem Ey (L:List field.Fd) (V:List Va) (k:Nat) (h:L.length<=8):(dJ (L.take k) (V.take k)).length<=1000000:=by
 have:=BR (L.take k) (V.take k);have:(L.take k).length<=L.length:=by rw [List.length_take];omega
 omega
theorem Ew (L:List field.Fd) (V:List Va):dJ (L.take 0) (V.take 0)=[]:=by simp [dJ]
theorem qM (a:Option Addr) (ca:Nat) (L:List field.Fd) (b:Option Addr) (cb:Nat) (V:List Va) (w0:World) (B:Nat) (u:Value) (w:World) (h:field.Fds w0 a L) (h':field.Vas w0 b V) (hL:L.length<=8) (hV:V.length<=maxLen) (hS:BS w0 B [] u w):
  Calls prog 183 #[.slice a L.length ca,.slice b V.length cb,.func (.func 126) #[] #[.pointer (some ⟨B,0,none⟩)]] w fun e w'=>e=.returned (.bool (decide (aY L V)))/\∃xs u',BS w0 B xs u' w'/\(aY L V->xs=dJ L V):=by
 have hml:(L.length:Int)<=9223372036854775807:=by omega
 have hmm:(V.length:Int)<=9223372036854775807:=by unfold maxLen at hV;omega
 have HF:=hid h;have HG:=hid h';have HS0:=hid hS;obtain ⟨r,hr⟩:∃r:Bool,Hid (decide (aY L V)=r):=⟨_,rfl⟩;rw [hr.o];have HBD:=hid (fun k=>Ey L V k hL);clear h h' hV hS;by_cases hlen:L.length=V.length
 ·have HLEN:=hid hlen;rw [<-hlen];clear hlen hmm hL;go_enter func183,ntmps183;go_wp2;go_loopw [17] (fun n wr=>∃k:Nat,k<=L.length/\n=.int .i64 (k:Int)/\Hid (aY (L.take k) (V.take k))/\Hid (∃u,BS w0 B (dJ (L.take k) (V.take k)) u wr)) (fun n _=>L.length - (intOf n).toNat);case atStart=>exact ⟨0,Nat.zero_le _,rfl,hid (by simp [aY]),hid ⟨u,by rw [Ew];exact HS0.o⟩⟩
  case round=>
   obtain ⟨k,hk,rfl,HEQ,HS⟩:=hrel;obtain ⟨uk,hS⟩:=HS.o;by_cases hlt:k<L.length
   ·obtain ⟨g,off,p,rfl,hbl,hp,c0,c1,c2,c3,c4⟩:=eP HF.o hS.low hlt;obtain ⟨g',off',q,rfl,hbl',hq,d0,d1⟩:=Ih HG.o hS.low (k:=k) (by rw [<-HLEN.o];exact hlt);have i1:(k:Int)<L.length:=by omega
    have HSU:=hid (qQ hp hq);have HNE:=hid (fun hpq=>uM hp hq hpq);have HLT:=hid (xC hp hq);have cS:=BU p q w0 B _ uk (WV p q wr) (hS.later (WV.all p q wr _ (Below.refl _ _)).2.2) (HBD.o k);unfold WV at cS;clear hp hq HS;have HSW:=hid hS;clear hS;by_cases hpq:p.Has q
    ·rw [decide_eq_true hpq] at cS;have HPQ:=hid hpq;clear hpq;go_wp2_with (go_at_call 126;((with_reducible refine cS.mono ?_);rintro e w2 ⟨rfl,u2,hs2⟩;have HS2:=hid hs2;clear hs2));exact ⟨⟨k+1,by omega,by go_num,hid (HSU.o.2 ⟨HEQ.o,HPQ.o⟩),hid ⟨u2,by rw [HLT.o];exact HS2.o⟩⟩,by simp [intOf];omega⟩
    ·rw [decide_eq_false hpq] at cS;obtain rfl:false=r:=by rw [<-hr.o];exact (decide_eq_false (HNE.o hpq)).symm
     have HNO:=hid (HNE.o hpq);clear hpq;go_wp2_with (go_at_call 126;((with_reducible refine cS.mono ?_);rintro e w2 ⟨rfl,u2,hs2⟩;have HS2:=hid hs2;clear hs2));go_ret;exact ⟨rfl,_,_,HS2.o,fun k=>absurd k HNO.o⟩
   ·obtain rfl:k=L.length:=by omega
    obtain rfl:true=r:=by rw [<-hr.o];exact (decide_eq_true (zU HLEN.o HEQ.o)).symm
    have HSW:=hid hS;clear hS HS;go_wp2;go_ret;exact ⟨rfl,_,_,HSW.o,fun _=>by rw [List.take_of_length_le (Nat.le_refl _),List.take_of_length_le (by rw [HLEN.o];exact Nat.le_refl _)]⟩
 ·obtain rfl:false=r:=by rw [<-hr.o];exact (decide_eq_false (fun e=>hlen e.length)).symm
  have hd:((L.length:Int) == (V.length:Int))=false:=by rw [beq_eq_false_iff_ne];omega
  have HLEN:=hid hlen;clear hlen;go_enter func183,ntmps183;go_wp2;go_ret;exact ⟨rfl,_,_,HS0.o,fun k=>absurd k.length HLEN.o⟩
theorem uh (i:Int) (a:Option Addr) (c:Nat) (L:List field.Fd) (j:Int) (b:Option Addr) (d:Nat) (V:List Va) (w0:World) (B:Nat) (u:Value) (w:World) (h:field.Fds w0 a L) (h':field.Vas w0 b V) (hL:L.length<=8) (hV:V.length<=maxLen) (hS:BS w0 B [] u w):
  Calls prog 128 #[zS i a L.length c,zS j b V.length d,.func (.func 126) #[] #[.pointer (some ⟨B,0,none⟩)]] w fun e w'=>e=.returned (.bool (decide (j=i/\aY L V)))/\∃xs u',BS w0 B xs u' w'/\(aY L V->j=i->xs=dJ L V):=by
 have HX:=hid (WF.all i a L c j b V d w);have hw:=(WF.all i a L c j b V d w _ (Below.refl _ _)).2.2.2.2;have cE:=qM a c L b d V w0 B u (WF i a L c j b V d w) h h' hL hV (hS.later hw);have HW:=hid (hS.later hw);clear h h' hL hV hw hS;by_cases hij:j=i
 ·subst hij;rw [show decide (j=j/\aY L V)=decide (aY L V) by simp];obtain ⟨H,hH⟩:∃H:List Nat->Prop,Hid (∀xs,H xs↔(aY L V->xs=dJ L V)):=⟨_,hid fun _=>Iff.rfl⟩;simp only [<-hH.o] at cE;generalize decide (aY L V)=r at *;unfold WF at HX cE HW;go_enter func128,ntmps128;go_wp2_with (go_at_call 183;((with_reducible refine cE.mono ?_);rintro e w2 ⟨rfl,xs2,u2,hs2,hx2⟩;have HS2:=hid hs2;have HX2:=hid hx2;clear hs2 hx2));go_ret;exact ⟨rfl,_,_,HS2.o,fun k _=>(hH.o _).1 HX2.o k⟩
 ·have hd:(j == i)=false:=by rw [beq_eq_false_iff_ne];exact hij
  rw [show decide (j=i/\aY L V)=false from decide_eq_false (fun e=>hij e.1)];have HIJ:=hid hij;clear hij cE;unfold WF at HX HW;go_enter func128,ntmps128;go_wp2;go_ret;exact ⟨rfl,_,_,HW.o,fun _ k=>absurd k HIJ.o⟩
theorem hmf (fn:Fn) (first cap:Array Value) (w:World):(Instr.makeFunc fn first cap).run prog w=.ok (.func fn first cap) w:=rfl
def wO (ys:List Nat) (E:Int) (w:World) (e:Ending) (w':World):Prop:=∃z,e=.returned (.tuple #[z,.int .i64 E])/\w'.ownsRow w.heap.size 5 1 z ys.length (u8v ys)/\Below w.heap.size w w'
theorem qp (i:Int) (a:Option Addr) (c:Nat) (L:List field.Fd) (j:Int) (b:Option Addr) (d:Nat) (V:List Va) (w:World) (h:field.Fds w a L) (h':field.Vas w b V) (hL:L.length<=maxLen) (hV:V.length<=maxLen):
  Calls prog 80 #[zS i a L.length c,zS j b V.length d] w (wO (bZ i L j V) (lu i L j V) w):=by
 have HX:=hid (WF.all i a L c j b V d w);have hw:=(WF.all i a L c j b V d w _ (Below.refl _ _)).2.2.2.2;have cF:=gQ i a c L (WF i a L c j b V d w) (h.below hw) hL;have HF:=hid (h.below hw);have HG:=hid (h'.below hw);unfold wO;unfold Gives at cF;have hm:=fun fn first cap w=>hmf fn first cap w
 by_cases hf:Fine (i,L)
 ·rw [decide_eq_true hf] at cF;have hL8:=pU hf;have cB:=fun w1 (hb:Below (WF i a L c j b V d w).heap.size (WF i a L c j b V d w) w1)=>uh i a c L j b d V w1 w1.heap.size (.slice none 0 0) (w1.alloc (.cells #[.slice none 0 0] 91)) ((h.below hw).below hb) ((h'.below hw).below hb) hL8 hV (BS.start w1)
  clear h h' hL hV hw;by_cases hh:j=i/\aY L V
  ·rw [show lu i L j V=0 from (if_neg (fun k=>k hf)).trans (if_neg (fun k=>k hh)),show bZ i L j V=dJ L V from if_pos ⟨hf,hh⟩];simp only [decide_eq_true hh] at cB;have HH:=hid hh;clear hh hf hL8;unfold WF at HX cF HF HG cB;obtain ⟨H,hH⟩:∃H:List Nat->Prop,Hid (∀xs,H xs↔(aY L V->j=i->xs=dJ L V)):=⟨_,hid fun _=>Iff.rfl⟩;simp only [<-hH.o] at cB;go_enter func80,ntmps80;go_wp2_with (first
    | (go_at_call 90;((with_reducible refine cF.mono ?_);rintro e w1 ⟨rfl,hb1⟩;obtain ⟨z0,z1,z2,z3,hbo⟩:=HX.o _ hb1;have cB1:=cB _ hb1;have hsz:w.heap.size+1<w1.heap.size:=(by have:=hb1.size;simp at this;omega);have hsz0:w.heap.size<w1.heap.size:=om_;have HBO:=hid hbo;clear hbo))
    | (go_at_call 128;((with_reducible refine cB1.mono ?_);rintro e w2 ⟨rfl,xs2,u2,hs2,hx2⟩;have HS2:=hid hs2;have HX2:=hid hx2;have hc2:=hs2.f.cell 0;obtain ⟨ua,uc,rfl,_⟩:=aA hs2.row;clear hs2 hx2)))
   go_ret2;obtain rfl:=(hH.o _).1 HX2.o HH.o.2 HH.o.1;exact ⟨_,rfl,schema.aW HS2.o.row om_,HBO.o.trans (HS2.o.low.mono HBO.o.size)⟩
  ·rw [show lu i L j V=16 from (if_neg (fun k=>k hf)).trans (if_pos hh),show bZ i L j V=[] from if_neg (fun k=>hh k.2)];simp only [decide_eq_false hh] at cB;clear hh hf hL8;unfold WF at HX cF HF HG cB;obtain ⟨H,hH⟩:∃H:List Nat->Prop,Hid (∀xs,H xs↔(aY L V->j=i->xs=dJ L V)):=⟨_,hid fun _=>Iff.rfl⟩;simp only [<-hH.o] at cB;go_enter func80,ntmps80;go_wp2_with (first
    | (go_at_call 90;((with_reducible refine cF.mono ?_);rintro e w1 ⟨rfl,hb1⟩;obtain ⟨z0,z1,z2,z3,hbo⟩:=HX.o _ hb1;have cB1:=cB _ hb1;have hsz:w.heap.size+1<w1.heap.size:=(by have:=hb1.size;simp at this;omega);have hsz0:w.heap.size<w1.heap.size:=om_;have HBO:=hid hbo;clear hbo))
    | (go_at_call 128;((with_reducible refine cB1.mono ?_);rintro e w2 ⟨rfl,xs2,u2,hs2,hx2⟩;have HS2:=hid hs2;clear hs2 hx2)))
   go_ret2;exact ⟨_,rfl,World.ownsRow_nil _ _ _ _,HBO.o.trans (HS2.o.low.mono HBO.o.size)⟩
 ·rw [decide_eq_false hf] at cF;rw [show lu i L j V=2 from if_pos hf,show bZ i L j V=[] from if_neg (fun k=>hf k.1)];clear h h' hL hV hw hf;unfold WF at HX cF;go_enter func80,ntmps80;go_wp2_with (go_at_call 90;((with_reducible refine cF.mono ?_);rintro e w1 ⟨rfl,hb1⟩;obtain ⟨z0,z1,z2,z3,hbo⟩:=HX.o _ hb1));go_ret2;exact ⟨_,rfl,World.ownsRow_nil _ _ _ _,hbo⟩
end record
end Go.Proofs.YtogkgbnpodojjaaGreat
