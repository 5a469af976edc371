/- Contracts and lemmas that claims of this seat share: TypingHeirs, TypingRow. Each says its own conditions. -/
import Derived.Test.YtogkgbnpodojjaaGreatCmWord
import Derived.Test.YtogkgbnpodojjaaGreatCmI
import Derived.Test.YtogkgbnpodojjaaGreatCmJ
import Derived.Test.YtogkgbnpodojjaaGreatCmN
import Derived.Test.YtogkgbnpodojjaaGreatCmS
set_option linter.unusedVariables false
namespace Go.Proofs.YtogkgbnpodojjaaGreat
open Go.Proofs.Tryz
namespace typing
open Go.RowKit schema
open field (Gives ak aj)
def Out (L:List field.Fd) (w:World) (e:Ending) (w':World):Prop:=
 Below w.heap.size w w'/\((L=[]/\e=.returned (.slice none 0 0))\/(L≠[]/\∃g,w.heap.size<=g/\e=.returned (.slice (some ⟨g,0,none⟩) L.length L.length)/\Block w' g 52 (fdV L)))
theorem Out.value {L:List field.Fd} {w w':World} {e:Ending} (h:Out L w e w'):∃hv,e=.returned hv/\Below w.heap.size w w'/\((L=[]/\hv=.slice none 0 0)\/(L≠[]/\∃g,w.heap.size<=g/\hv=.slice (some ⟨g,0,none⟩) L.length L.length/\Block w' g 52 (fdV L))):=by
 obtain ⟨hb,⟨h1,rfl⟩ | ⟨h1,g,h2,rfl,h3⟩⟩:=h
 ·exact ⟨_,rfl,hb,.inl ⟨h1,rfl⟩⟩
 ·exact ⟨_,rfl,hb,.inr ⟨h1,g,h2,rfl,h3⟩⟩
theorem new2 (w:World) (d1 d2:Obj) (L:List field.Fd):Below w.heap.size w (((w.alloc d1).alloc d2).alloc (.cells (fdV L).toArray 52))/\Block (((w.alloc d1).alloc d2).alloc (.cells (fdV L).toArray 52)) (w.heap.size+1+1) 52 (fdV L):=by
 have h1:=field.ak w d1;have h2:=h1.alloc h1.size d2;refine ⟨h2.alloc h2.size _, ?_⟩;have:=Block.new ((w.alloc d1).alloc d2) 52 (fdV L);rw [show ((w.alloc d1).alloc d2).heap.size=w.heap.size+1+1 by simp] at this;exact this
theorem new1 {B S:Nat} {w w1:World} (hb:Below B w w1) (hB:B<=w1.heap.size) (hS:B<=S) (v1 v2:Value) (L:List field.Fd):
  Below B w (((w1.setCell ⟨S,2,none⟩ v1).setCell ⟨S,3,none⟩ v2).alloc (.cells (fdV L).toArray 52))/\Block (((w1.setCell ⟨S,2,none⟩ v1).setCell ⟨S,3,none⟩ v2).alloc (.cells (fdV L).toArray 52)) w1.heap.size 52 (fdV L):=by
 have h1:=below_setCells (below_setCells hb hS 2 [v1]) hS 3 [v2];refine ⟨h1.alloc (by rw [size_setCells,size_setCells];exact hB) _, ?_⟩;have:=Block.new ((w1.setCell ⟨S,2,none⟩ v1).setCell ⟨S,3,none⟩ v2) 52 (fdV L);rw [show ((w1.setCell ⟨S,2,none⟩ v1).setCell ⟨S,3,none⟩ v2).heap.size=w1.heap.size by simp] at this;exact this
def Bq (c:Ch):Prop:=(2<=c.s.a/\c.s.a<=1048576)/\(-1099511627776<=c.old.hi/\c.old.hi<=1099511627776)
set_option maxRecDepth 20000 in
set_option maxHeartbeats 1600000 in
theorem Em (c:Ch) (ta:Option Addr) (tc:Nat) (la:Option Addr) (lc:Nat) (fa:Option Addr) (fc:Nat) (w:World) (hb4:c.s.op=4->Bd c) (hb6:c.s.op=6->Bq c):
  Calls prog 201 #[zH c ta tc la lc fa fc] w (Out (dG c) w):=by
 have HN:=ak w (.cells (zH c ta tc la lc fa fc) 147);by_cases h2:c.s.op=2
 ·have d2:=bt h2;have hsp:dG c=[]:=by unfold dG;simp [*]
  rw [hsp];clear hsp;unfold Out;clear hb4 hb6 h2;go_enter func201,ntmps201;go_wp2;go_ret;exact ⟨HN.alloc si_ _,.inl ⟨trivial,rfl⟩⟩
 ·have d2:=bf h2;by_cases h3:c.s.op=3
  ·have d3:=bt h3;have hsp:dG c=[c.s.f]:=by unfold dG;simp [*]
   rw [hsp];clear hsp;unfold Out;clear hb4 hb6 h2 h3;go_enter func201,ntmps201;go_wp2;go_ret;exact ⟨(new2 w _ _ [c.s.f]).1,.inr ⟨by simp,_,by omega,rfl,(new2 w _ _ [c.s.f]).2⟩⟩
  ·have d3:=bf h3;by_cases h4:c.s.op=4
   ·have d4:=bt h4;have hsp:dG c=[{ c.old with lo:=low c,hi:=high c}]:=by unfold dG;simp [*]
    rw [hsp];clear hsp;have cS:=vw c ta tc la lc fa fc (((w.alloc (.cells (zH c ta tc la lc fa fc) 147))).alloc (.cells (zF c.old) 52)) (hb4 h4);unfold Gives at cS;obtain ⟨Q1,hK1⟩:∃K:Int,Hid (low c=K):=⟨_,rfl⟩;obtain ⟨Q2,hK2⟩:∃K:Int,Hid (high c=K):=⟨_,rfl⟩;rw [hK1.o] at cS ⊢;rw [hK2.o] at cS ⊢;unfold Out;clear hb4 hb6 h2 h3 h4;have k0:Block (((w.alloc (.cells (zH c ta tc la lc fa fc) 147))).alloc (.cells (zF c.old) 52)) w.heap.size 147 (zH c ta tc la lc fa fc):=(Block.new w _ _).alloc _;have k1:Block (((w.alloc (.cells (zH c ta tc la lc fa fc) 147))).alloc (.cells (zF c.old) 52)) (w.heap.size+1) 52 (zF c.old):=by have:=Block.new ((w.alloc (.cells (zH c ta tc la lc fa fc) 147))) 52 (zF c.old);simpa using this
    have kb:Below w.heap.size w (((w.alloc (.cells (zH c ta tc la lc fa fc) 147))).alloc (.cells (zF c.old) 52)):=HN.alloc si_ _;have HR0:=hid k0.whole;have K1:=hid k1;have KB:=hid kb;clear k0 k1 kb;have HI:Hid ((prog.info? 147).map (·.size)=some ((zH c ta tc la lc fa fc):List Value).length):=hid dH;go_enter func201,ntmps201;go_wp2_with (first
     | (with_reducible refine wpList_load_mid rfl 147 (.tmp 1) rfl w.heap.size 0 rfl (zH c ta tc la lc fa fc) _ HR0.o underlying147 rfl HI.o ?_)
     | (go_at_call 193;((with_reducible refine cS.mono ?_);rintro e w1 ⟨rfl,hb1⟩;have hk:=K1.o.later hb1;have y2:=hk.cell 2;have y3:=hk.cell 3;have y0:=hk.cell 0;have y1:=hk.cell 1;have y4:=hk.cell 4;have f2:=hk.frozen 2;have f3:=hk.frozen 3;have HS:=hid hb1.size;have HBW:=hid (KB.o.trans (hb1.mono (by simp;omega)));clear hk hb1)))
    go_ret;have hsz:=HS.o;simp at hsz;have hz:=new1 HBW.o om_ (show w.heap.size<=w.heap.size+1 by omega) (.int .i64 Q1) (.int .i64 Q2) [{ c.old with lo:=Q1,hi:=Q2}];exact ⟨hz.1,.inr ⟨by simp,_,by omega,rfl,hz.2⟩⟩
   ·have d4:=bf h4;by_cases h5:c.s.op=5
    ·have d5:=bt h5;have hsp:dG c=[{ c.old with most:=c.s.a}]:=by unfold dG;simp [*]
     rw [hsp];clear hsp;unfold Out;clear hb4 hb6 h2 h3 h4 h5;go_enter func201,ntmps201;go_wp2;go_ret;exact ⟨(new2 w _ _ [{ c.old with most:=c.s.a}]).1,.inr ⟨by simp,_,by omega,rfl,(new2 w _ _ [{ c.old with most:=c.s.a}]).2⟩⟩
    ·have d5:=bf h5;by_cases h6:c.s.op=6
     ·have d6:=bt h6;have hsp:dG c=[{ c.old with hi:=Int.tdiv c.old.hi c.s.a},⟨c.s.tt,1,0,mn (c.s.a - 1) c.old.hi,0⟩]:=by unfold dG;simp [*]
      rw [hsp];clear hsp;obtain ⟨⟨qa,qb⟩,qc⟩:=hb6 h6;have em:∀ts t W,(Builtin.min_ ts t #[.int .i64 (c.s.a - 1),.int .i64 c.old.hi]).run prog W=.ok (.int .i64 (mn (c.s.a - 1) c.old.hi)) W:=fun ts t W=>by rw [run_min_int2];rfl
      obtain ⟨M,hM⟩:∃M:Int,Hid (mn (c.s.a - 1) c.old.hi=M):=⟨_,rfl⟩;rw [hM.o] at em ⊢;have q0:¬c.s.a=0:=by omega
      unfold Out;clear hb4 hb6 h2 h3 h4 h5 h6;go_enter func201,ntmps201;go_wp2;go_ret;exact ⟨(new2 w _ _ [{ c.old with hi:=Int.tdiv c.old.hi c.s.a},⟨c.s.tt,1,0,M,0⟩]).1,.inr ⟨by simp,_,by omega,rfl,(new2 w _ _ [{ c.old with hi:=Int.tdiv c.old.hi c.s.a},⟨c.s.tt,1,0,M,0⟩]).2⟩⟩
     ·have d6:=bf h6;by_cases h8:c.s.op=8
      ·have d8:=bt h8;have hsp:dG c=[{ c.old with id:=c.s.tt}]:=by unfold dG;simp [*]
       rw [hsp];clear hsp;unfold Out;clear hb4 hb6 h2 h3 h4 h5 h6 h8;go_enter func201,ntmps201;go_wp2;go_ret;exact ⟨(new2 w _ _ [{ c.old with id:=c.s.tt}]).1,.inr ⟨by simp,_,by omega,rfl,(new2 w _ _ [{ c.old with id:=c.s.tt}]).2⟩⟩
      ·have d8:=bf h8;have hsp:dG c=[c.old]:=by unfold dG;simp [*]
       rw [hsp];clear hsp;unfold Out;clear hb4 hb6 h2 h3 h4 h5 h6 h8;go_enter func201,ntmps201;go_wp2;go_ret;exact ⟨(new2 w _ _ [c.old]).1,.inr ⟨by simp,_,by omega,rfl,(new2 w _ _ [c.old]).2⟩⟩
end typing
namespace typing
open Go.RowKit schema rows
open field (Gives ak aj)
theorem pR (L:List field.Fd) (i:Nat):(fdV L).take (i*5)=fdV (L.take i):=by
 by_cases h:i<=L.length
 ·conv=>lhs;rw [<-List.take_append_drop i L,fC]
  exact List.take_left' (by rw [fO,List.length_take,Nat.min_eq_left h])
 ·rw [List.take_of_length_le (by rw [fO];omega),List.take_of_length_le om_]
theorem pM (L:List field.Fd) (i:Nat):(fdV L).drop (i*5)=fdV (L.drop i):=by
 by_cases h:i<=L.length
 ·conv=>lhs;rw [<-List.take_append_drop i L,fC]
  exact List.drop_left' (by rw [fO,List.length_take,Nat.min_eq_left h])
 ·rw [List.drop_of_length_le (by rw [fO];omega),List.drop_of_length_le om_];rfl
theorem pO (f:field.Fd):fdV [f]=fdC f:=by simp [fdV]
theorem finish {w w1 w3:World} {B m:Nat} {v v':Value} {ys:List Value} {L:List field.Fd} (hb:Below w.heap.size w w1) (hB:w.heap.size<=B) (hv:∀k,v.ownBlock=some k->B<=k)
  (ho3:w3.ownsRow B 52 5 v' m ys) (hg:w1.grownBy w3 v.ownBlock) (hy:ys=fdV L) (hm:m=L.length):mO L w (.returned v') w3:=by
 subst hy hm;exact ⟨v',rfl,aW ho3 hB,hb.grown hg hb.size (fun k hk=>by have:=hv k hk;omega)⟩
theorem AO (base N i:Nat) (v:Value) (xs:List Value) (H:List field.Fd) (hv:Value) (w:World) (hown:w.ownsRow base 52 5 v (N+1) xs) (hbase:base<=w.heap.size) (hi:i<=N) (hx1:∀u∈xs,u.oneCell'=true) (hn:N<=1000)
  (hH:(H=[]/\hv=.slice none 0 0)\/(H≠[]/\H.length<=2/\∃g,hv=.slice (some ⟨g,0,none⟩) H.length H.length/\Block w g 52 (fdV H)/\v.ownBlock≠some g)):
  Calls prog 200 #[v,.int .i64 i,.int .i64 ((i:Int)+1),hv] w (mM base v.ownBlock (N+H.length) (xs.take (i*5)++(fdV H++xs.drop ((i+1)*5))) w):=by
 rcases hH with ⟨rfl,rfl⟩ | ⟨h0,h2,g,rfl,hG,hgv⟩
 ·by_cases hN:i=N
  ·have:=wo base N i v xs w hown hbase hN hx1 hn;simpa [fdV] using this
  ·have:=wu base N i v xs w hown hbase om_ hx1 hn;simpa [fdV] using this
 ·have hgo:H.length*5<=(fdV H).length:=by rw [fO];exact Nat.le_refl _
  have hc:(∃a,H=[a])\/(∃a b,H=[a,b]):=by
   cases H with
   | nil=>exact absurd rfl h0
   | cons a r=>
    cases r with
    | nil=>exact .inl ⟨a,rfl⟩
    | cons b q=>
     cases q with
     | nil=>exact .inr ⟨a,b,rfl⟩
     | cons d t=>simp at h2
  have hl:=fO H;have h1:=lM H;generalize fdV H=X at *;rcases hc with ⟨a,rfl⟩ | ⟨a,b,rfl⟩
  ·simp only [List.length_cons,List.length_nil] at hl hgo ⊢;by_cases hN:i=N
   ·exact wE base N i g 1 X 52 v xs X w hown hbase hN hl hG hgo hgv (fun j u hj=>hj) h1 hx1 hn
   ·exact wF base N i g 1 X 52 v xs X w hown hbase om_ hl hG hgo hgv (fun j u hj=>hj) h1 hx1 hn
  ·simp only [List.length_cons,List.length_nil] at hl hgo ⊢;by_cases hN:i=N
   ·exact wG base N i g 2 X 52 v xs X w hown hbase hN hl hG hgo hgv (fun j u hj=>hj) h1 hx1 hn
   ·exact wH base N i g 2 X 52 v xs X w hown hbase om_ hl hG hgo hgv (fun j u hj=>hj) h1 hx1 hn
theorem Eo (c:Ch):(dG c).length<=2:=by
 unfold dG;repeat' split
 all_goals simp
end typing
end Go.Proofs.YtogkgbnpodojjaaGreat
