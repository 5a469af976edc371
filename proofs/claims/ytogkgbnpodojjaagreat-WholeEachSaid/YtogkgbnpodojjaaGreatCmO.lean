/- Contracts and lemmas that claims of this seat share: SchemaForm, TypingSearch. Each says its own conditions. -/
import Derived.Test.YtogkgbnpodojjaaGreatCmWord
import Derived.Deep.RegionHeld3
import Derived.Handy
import Derived.Test.YtogkgbnpodojjaaGreatCmF
import Derived.Test.YtogkgbnpodojjaaGreatCmJ
set_option linter.unusedVariables false
namespace Go.Proofs.YtogkgbnpodojjaaGreat
open Go.Proofs.Tryz
namespace schema
open Go.RowKit
open field (Gives ak aj)
def uy (F:List Fm):List Int:=F.map Fm.id
theorem yC {F:List Fm} {k:Nat} {p:Fm} (h:F[k]?=some p):(uy F)[k]?=some p.id:=by simp [uy,h]
theorem zD (F:List Fm):(uy F).length=F.length:=List.length_map _
theorem BG (F:List Fm):uy F=(forms F).map (·.1):=by simp [uy,forms,Fm.p,Function.comp_def]
theorem BP (i:Int) (q:Option Addr) (L:List field.Fd) (qc:Nat) (x:Int) (b:Nat) (w:World) (hc:w.cell? ⟨b,0,none⟩=some (.int .i64 x)) (hb:b<w.heap.size):
  Calls prog 96 #[zS i q L.length qc,.pointer (some ⟨b,0,none⟩)] w (Gives (.bool (i == x)) w):=by
 have HN:=hid (ak w (.cells (zS i q L.length qc) 49));obtain ⟨r,hr⟩:∃r:Bool,Hid ((i == x)=r):=⟨_,rfl⟩;rw [hr.o];unfold Gives;have hne:w.heap.size≠b:=by omega
 go_enter func96,ntmps96;go_wp2;go_ret;exact ⟨dA hr.o,HN.o⟩
theorem oI (a:Option Addr) (cap:Nat) (L:List Fm) (x:Int) (g:Nat) (w:World) (h:FmL w a L) (hL:L.length<=maxLen) (hc:w.cell? ⟨g,0,none⟩=some (.int .i64 x)) (hg:g<w.heap.size):
  Calls prog 95 #[.slice a L.length cap,.func (.func 96) #[] #[.pointer (some ⟨g,0,none⟩)]] w (Gives (.int .i64 (au (uy L) x)) w):=by
 have hml:(L.length:Int)<=9223372036854775807:=by unfold maxLen at hL;omega
 have HF:=hid h;have HC:=hid hc;obtain ⟨r,hr⟩:∃r:Int,Hid (au (uy L) x=r):=⟨_,rfl⟩;rw [hr.o];unfold Gives;clear h hL hc;go_enter func95,ntmps95;go_wp2;go_loopw [8] (fun n wr=>∃k:Nat,k<=L.length/\n=.int .i64 (k:Int)/\Hid (x∉(uy L).take k)/\Hid (Below w.heap.size w wr)) (fun n _=>L.length - (intOf n).toNat);case atStart=>exact ⟨0,Nat.zero_le _,rfl,hid si_,hid (Below.refl _ _)⟩
 case round=>
  obtain ⟨k,hk,rfl,HNO,HB⟩:=hrel;by_cases hlt:k<L.length
  ·obtain ⟨b,off,p,rfl,hbl,hp,c0,c1,_,_⟩:=pV HF.o HB.o hlt;have i1:(k:Int)<L.length:=by omega
   have HHIT:=hid (fun e=>nS HNO.o ((yC hp).trans (congrArg some e)));have HNX:=hid (fun e=>kX HNO.o (yC hp) e);have cs:=BP p.id p.f p.fL p.fCap x g wr (by rw [HB.o.cell (p:=⟨g,0,none⟩) hg];exact HC.o) (Nat.lt_of_lt_of_le hg HB.o.size);clear hp;by_cases hx:p.id=x
   ·rw [show (p.id == x)=true from beq_iff_eq.2 hx] at cs;obtain rfl:(k:Int)=r:=by rw [<-hr.o];exact (HHIT.o hx).symm
    clear hx;go_wp2_with (go_at_call 96;((with_reducible refine cs.mono ?_);rintro e w2 ⟨rfl,hb2⟩))
    exact t74
   ·rw [show (p.id == x)=false from beq_eq_false_iff_ne.2 hx] at cs;have HX:=hid hx;clear hx;go_wp2_with (go_at_call 96;((with_reducible refine cs.mono ?_);rintro e w2 ⟨rfl,hb2⟩))
    exact t52
  ·obtain rfl:k=L.length:=by omega
   obtain rfl: -1=r:=by rw [<-hr.o];have:=HNO.o;rw [List.take_of_length_le (by rw [zD];exact Nat.le_refl _)] at this;exact (lS this).symm
   go_wp2;go_ret;exact ⟨rfl,HB.o⟩
theorem Dh (W:World) (a:Option Addr) (n c:Nat):(binOp .eql 47 (.slice a n c) (.slice none 0 0)).run prog W=.ok (.bool a.isNone) W:=by
 have h:=run_equal_slice_nil (P:=prog) W 47 52 a n c underlying47;simp [binOp,h,Result.andThen]
theorem wZ {w:World} {g:Nat} {t:TypeId} {x y:Value} {a:Option Addr} {L:List field.Fd} (h:field.Fds w a L) (hB:Block w g t [x,y]) (o:Nat) (u:Value):field.Fds (w.setCell ⟨g,o,none⟩ u) a L:=by
 by_cases h0:L=[]
 ·exact .inl h0
 ·rcases h with h | ⟨b,off,ha,hlt,hc⟩
  ·exact absurd h h0
  ·have hne:b≠g:=by
    rintro rfl;obtain ⟨p,hp⟩:∃p,L[0]?=some p:=by
     cases L with
     | nil=>exact absurd rfl h0
     | cons p L=>exact ⟨p,rfl⟩
    have h4:=(hc 0 p hp).2.2.2.2;rw [hB.cell] at h4;have:=(List.getElem?_eq_some_iff.1 h4).1;simp at this;omega
   refine .inr ⟨b,off,ha,Nat.lt_of_lt_of_le hlt si_,fun i p hp=> ?_⟩
   have hs:∀j,(w.setCell ⟨g,o,none⟩ u).cell? ⟨b,j,none⟩=w.cell? ⟨b,j,none⟩:=fun j=>World.cell?_setCell_other _ _ _ _ (by intro h;cases h;exact hne rfl)
   rw [hs,hs,hs,hs,hs]
   exact hc i p hp
theorem ay {fn:Func} {p u:Tmp} {ty:TypeId} {tmps:Array Value} {P:Program} {w:World} {b o:Nat} {cs:List Value} {d:TypeDesc} (h:fn.results=#[.cell p ty,.tmp u])
  (hp:tmps.getD p undef=.pointer (some ⟨b,o,none⟩)) (hc:w.rangeAt b o cs) (hu:P.underlying ty=some d) (hd:d.isRow=true) (hi:(P.info? ty).map (·.size)=some cs.length):
  (results fn tmps).run P w=.ok (.tuple #[.agg cs.toArray,tmps.getD u undef]) w:=by
 exact t48
def W3 (v:Int) (a:Option Addr) (F:List Fm) (c:Nat) (x:Int) (w:World):World:=((w.alloc (.cells (zS v a F.length c) 24)).alloc (.cells #[.int .i64 x] 3)).alloc (.cells #[.int .i64 0,.slice none 0 0] 49)
theorem W3.all (v:Int) (a:Option Addr) (F:List Fm) (c:Nat) (x:Int) (w w':World) (hb:Below (W3 v a F c x w).heap.size (W3 v a F c x w) w'):w'.cell? ⟨w.heap.size,0,none⟩=some (.int .i64 v)/\w'.cell? ⟨w.heap.size,1,none⟩=some (.slice a F.length c)/\w'.cell? ⟨w.heap.size+1,0,none⟩=some (.int .i64 x)/\Block w' (w.heap.size+2) 49 [.int .i64 0,.slice none 0 0]/\Below w.heap.size w w':=by
 have h1:Below ((w.alloc (.cells (zS v a F.length c) 24)).alloc (.cells #[.int .i64 x] 3)).heap.size ((w.alloc (.cells (zS v a F.length c) 24)).alloc (.cells #[.int .i64 x] 3)) w':=aP hb;obtain ⟨c0,c1,h2⟩:=boxS v a F c w w' (aP h1);refine ⟨c0,c1, ?_, ?_,h2⟩
 ·have hB:=((Block.new (w.alloc (.cells (zS v a F.length c) 24)) 3 [.int .i64 x])).later h1;have:=hB.cell 0;simpa using this
 ·have hB:=(Block.new ((w.alloc (.cells (zS v a F.length c) 24)).alloc (.cells #[.int .i64 x] 3)) 49 [.int .i64 0,.slice none 0 0]).later hb;simpa using hB
theorem W3.forms (v:Int) (a:Option Addr) (F:List Fm) (c:Nat) (x:Int) (w:World):Below w.heap.size w (W3 v a F c x w):=(W3.all v a F c x w _ (Below.refl _ _)).2.2.2.2
theorem II (v:Int) (a:Option Addr) (c:Nat) (F:List Fm) (x:Int) (w:World) (h:FmL w a F) (hF:F.length<=maxLen) (hx:x∉uy F):
  Calls prog 53 #[zS v a F.length c,.int .i64 x] w (Gives (.tuple #[.agg #[.int .i64 0,.slice none 0 0],.bool false]) w):=by
 have HX:=hid (W3.all v a F c x w);have h0:=W3.all v a F c x w _ (Below.refl _ _);have hsz:(W3 v a F c x w).heap.size=w.heap.size+3:=by simp [W3]
 have cI:=oI a c F x (w.heap.size+1) (W3 v a F c x w) (h.below (W3.forms v a F c x w)) hF h0.2.2.1 om_;rw [lS hx] at cI;clear h hx h0 hsz;unfold W3 at HX cI;unfold Gives;go_enter func53,ntmps53;go_wp2_with (go_at_call 95;((with_reducible refine cI.mono ?_);rintro e w2 ⟨rfl,hb2⟩;obtain ⟨z0,z1,z2,hblk,hbo⟩:=HX.o _ hb2;have r0:=hblk.cell 0;have r1:=hblk.cell 1;have f0:=hblk.frozen 0;have f1:=hblk.frozen 1));have hB:=(hblk.setCell 0 (.int .i64 0)).setCell 1 (.slice none 0 0);refine bodyPost_ret (ay (b:=w.heap.size+2) (o:=0) rfl rfl hB.whole underlying49 rfl (uH _ _)) rfl ?_;exact ⟨rfl,below_setCells (below_setCells hbo om_ 0 [.int .i64 0]) om_ 1 [.slice none 0 0]⟩
end schema
theorem t25{P:Prop}(h:P:=by
 go_enter func149,ntmps149;go_wp2_with (first
  | (go_at_call 195;((with_reducible refine (cX _ hw).mono ?_);rintro e w1 ⟨rfl,hb1⟩))
  | (go_at_call 195;((with_reducible refine (cY _ hb1).mono ?_);rintro e w2 ⟨rfl,hb2⟩)))
 go_ret;exact ⟨rfl,hb2⟩):P:=h
namespace typing
open Go.RowKit schema
open field (Gives ak aj)
def gG (x y:Int):Int:=if x<y then -1 else if y<x then 1 else 0
theorem lq (x:Int) (w:World):Calls prog 195 #[.int .i64 x] w (Gives (.bool false) w):=by
 unfold Gives;go_enter func195,ntmps195;go_wp2;go_ret;exact ⟨by simp,Below.refl _ _⟩
theorem jm (x y:Int) (w:World):Calls prog 149 #[.int .i64 x,.int .i64 y] w (Gives (.int .i64 (gG x y)) w):=by
 have cX:=fun w' (hb:Below w.heap.size w w')=>aj (lq x w') hb
 have cY:=fun w' (hb:Below w.heap.size w w')=>aj (lq y w') hb
 obtain ⟨v,hv⟩:∃v:Int,Hid (gG x y=v):=⟨_,rfl⟩;rw [hv.o];unfold Gives;have hw:=Below.refl w.heap.size w;by_cases h1:x<y
 ·obtain rfl: -1=v:=by rw [<-hv.o];unfold gG;rw [if_pos h1]
  exact t25
 ·by_cases h2:y<x
  ·obtain rfl:1=v:=by rw [<-hv.o];unfold gG;rw [if_neg h1,if_pos h2]
   have d2:decide (x>y)=true:=decide_eq_true h2
   exact t25
  ·obtain rfl:0=v:=by rw [<-hv.o];unfold gG;rw [if_neg h1,if_neg h2]
   have d2:decide (x>y)=false:=decide_eq_false h2
   exact t25
theorem zk (i:Int) (q:Option Addr) (n qc:Nat) (x:Int) (w:World):
  Calls prog 148 #[zS i q n qc,.int .i64 x] w (Gives (.int .i64 (gG i x)) w):=by
 have HN:=ak w (.cells (zS i q n qc) 49);have cC:=aj (jm i x (w.alloc (.cells (zS i q n qc) 49))) HN;obtain ⟨v,hv⟩:∃v:Int,Hid (gG i x=v):=⟨_,rfl⟩;rw [hv.o] at cC ⊢;unfold Gives;go_enter func148,ntmps148;go_wp2_with (go_at_call 149;((with_reducible refine cC.mono ?_);rintro e w1 ⟨rfl,hb1⟩));go_ret;exact ⟨rfl,hb1⟩
def Mid (F:List Fm) (x:Int) (i j:Nat):Prop:=(∀p∈(forms F).take i,p.1<x)/\(∀p∈(forms F).drop j,¬p.1<x)
theorem Mid.start (F:List Fm) (x:Int):Mid F x 0 F.length:=⟨by simp,by rw [List.drop_of_length_le (by rw [aF];exact Nat.le_refl _)];simp⟩
theorem Mid.up {F:List Fm} {x:Int} {i j h:Nat} {p:Fm} (hm:Mid F x i j) (hs:Sorted (forms F)) (hp:F[h]?=some p) (hx:p.id<x):Mid F x (h+1) j:=by
 refine ⟨fun q hq=> ?_,hm.2⟩;obtain ⟨k,hk⟩:=List.mem_iff_getElem?.1 hq;rw [List.getElem?_take] at hk;split at hk
 ·rename_i hlt;by_cases e:k=h
  ·subst e;rw [fF hp] at hk;cases hk
   exact hx
  ·have h1:((forms F).map (·.1))[k]?=some q.1:=by rw [List.getElem?_map,hk];rfl
   have h2:((forms F).map (·.1))[h]?=some p.id:=by rw [List.getElem?_map,fF hp];rfl
   obtain ⟨a1,a2⟩:=List.getElem?_eq_some_iff.1 h1;obtain ⟨b1,b2⟩:=List.getElem?_eq_some_iff.1 h2;have:=List.pairwise_iff_getElem.1 hs k h a1 b1 om_;rw [a2,b2] at this;omega
 ·cases hk
theorem Mid.down {F:List Fm} {x:Int} {i j h:Nat} {p:Fm} (hm:Mid F x i j) (hs:Sorted (forms F)) (hp:F[h]?=some p) (hx:¬p.id<x):Mid F x i h:=by
 refine ⟨hm.1,fun q hq=> ?_⟩;obtain ⟨k,hk⟩:=List.mem_iff_getElem?.1 hq;rw [List.getElem?_drop] at hk;by_cases e:k=0
 ·subst e;rw [Nat.add_zero,fF hp] at hk;cases hk
  exact hx
 ·have h1:((forms F).map (·.1))[h+k]?=some q.1:=by rw [List.getElem?_map,hk];rfl
  have h2:((forms F).map (·.1))[h]?=some p.id:=by rw [List.getElem?_map,fF hp];rfl
  obtain ⟨a1,a2⟩:=List.getElem?_eq_some_iff.1 h1;obtain ⟨b1,b2⟩:=List.getElem?_eq_some_iff.1 h2;have:=List.pairwise_iff_getElem.1 hs h (h+k) b1 a1 om_;rw [a2,b2] at this;omega
theorem Mid.pos {F:List Fm} {x:Int} {i:Nat} (hm:Mid F x i i) (hs:Sorted (forms F)) (hi:i<=F.length):pos (forms F) x=i:=
 pos_eq hs (by rw [aF];exact hi) hm.1 hm.2
theorem yw {x y:Int} (h:x<y):gG x y= -1:=by unfold gG;rw [if_pos h]
theorem yt {x y:Int} (h:¬x<y):0<=gG x y:=by unfold gG;rw [if_neg h];split <;> omega
theorem jT (a:Option Addr) (cap:Nat) (F:List Fm) (x:Int) (w:World) (h:Fms w a F) (hF:F.length<=1000) (hs:Sorted (forms F)):
  Calls prog 147 #[.slice a F.length cap,.int .i64 x,.func (.func 148) #[] #[]] w
   (fun e w'=>∃b:Bool,e=.returned (.tuple #[.int .i64 (pos (forms F) x:Nat),.bool b])/\Below w.heap.size w w'):=by
 have hml:(F.length:Int)<=1000:=by omega
 have HF:=hid h;have HS:=hid hs;have HP:Hid (∀i,Mid F x i i->i<=F.length->pos (forms F) x=i):=hid (fun i hm hi=>hm.pos hs hi);generalize pos (forms F) x=P at *;have HM:=hid (Mid.start F x);clear h hs;go_enter func147,ntmps147;go_wp2;go_loopw [9,10] (fun n m wr=>∃i j:Nat,i<=j/\j<=F.length/\n=.int .i64 (i:Int)/\m=.int .i64 (j:Int)/\Hid (Mid F x i j)/\Hid (Below w.heap.size w wr)) (fun n m _=>(intOf m).toNat - (intOf n).toNat);case atStart=>exact ⟨0,F.length,Nat.zero_le _,Nat.le_refl _,rfl,rfl,HM,hid (Below.refl _ _)⟩
 case round=>
  obtain ⟨i,j,hij,hj,rfl,rfl,HMD,HB⟩:=hrel;by_cases hlt:i<j
  ·obtain ⟨H,hH⟩:∃H:Nat,(i+j) / 2=H:=⟨_,rfl⟩;have i1:(i:Int)<j:=by omega
   have i2:(j:Int)<=F.length:=by omega
   have hH1:i<=H:=by omega
   have hH2:H<j:=by omega
   have s1:((i:Int)+(j:Int)) / 2=(H:Int):=by omega
   have i3:(H:Int)<F.length:=by omega
   obtain ⟨b,off,p,rfl,hbl,hp,c0,c1⟩:=(HF.o.below HB.o).at (i:=H) om_;have cB:=zk p.id p.f p.fL.length p.fCap x wr;unfold Gives at cB;have HUP:=hid (fun hx=>HMD.o.up HS.o hp hx);have HDN:=hid (fun hx=>HMD.o.down HS.o hp hx);clear hp hH;by_cases hx:p.id<x
   ·rw [yw hx] at cB;have HX:=hid hx;clear hx;go_wp2_with (go_at_call 148;((with_reducible refine cB.mono ?_);rintro e w1 ⟨rfl,hb1⟩));exact ⟨⟨H+1,j,by omega,hj,by go_num,rfl,hid (HUP.o HX.o),hid (HB.o.trans (hb1.mono HB.o.size))⟩,by simp [intOf];omega⟩
   ·obtain ⟨V,hV⟩:∃V:Int,Hid (gG p.id x=V):=⟨_,rfl⟩;have hV0:0<=V:=by rw [<-hV.o];exact yt hx
    rw [hV.o] at cB;have HX:=hid hx;clear hx;have d1:decide (V<0)=false:=decide_eq_false om_;have d2:¬V<0:=by omega
    go_wp2_with (go_at_call 148;((with_reducible refine cB.mono ?_);rintro e w1 ⟨rfl,hb1⟩));exact ⟨⟨i,H,hH1,by omega,rfl,rfl,hid (HDN.o HX.o),hid (HB.o.trans (hb1.mono HB.o.size))⟩,by simp [intOf];omega⟩
  ·obtain rfl:i=j:=by omega
   obtain rfl:P=i:=HP.o i HMD.o hj;have j1:¬((P:Int)<(P:Int)):=by omega
   by_cases hl:P<F.length
   ·have i3:(P:Int)<F.length:=by omega
    obtain ⟨b,off,p,rfl,hbl,hp,c0,c1⟩:=(HF.o.below HB.o).at (i:=P) hl;have cB:=zk p.id p.f p.fL.length p.fCap x wr;unfold Gives at cB;obtain ⟨V,hV⟩:∃V:Int,Hid (gG p.id x=V):=⟨_,rfl⟩;rw [hV.o] at cB;clear hp;go_wp2_with (go_at_call 148;((with_reducible refine cB.mono ?_);rintro e w1 ⟨rfl,hb1⟩));go_ret2;exact ⟨_,rfl,HB.o.trans (hb1.mono HB.o.size)⟩
   ·have i3:¬((P:Int)<F.length):=by omega
    go_wp2;go_ret2;exact ⟨.inl rfl,HB.o⟩
end typing
end Go.Proofs.YtogkgbnpodojjaaGreat
