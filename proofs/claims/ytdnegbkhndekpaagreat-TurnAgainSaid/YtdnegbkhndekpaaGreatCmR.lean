/- Contracts and lemmas that claims of this seat share: InsertV, TypingSearch. Each says its own conditions. -/
import Derived.Test.YtdnegbkhndekpaaGreatCmWord
import Derived.Handy
import Derived.Test.YtdnegbkhndekpaaGreatCmC
import Derived.Test.YtdnegbkhndekpaaGreatCmG
import Derived.Test.YtdnegbkhndekpaaGreatCmA
import Derived.Test.YtdnegbkhndekpaaGreatCmB
set_option linter.unusedVariables false
namespace Go.Proofs.YtdnegbkhndekpaaGreat
open Go.Proofs.Tryz
theorem t118{P:Prop}(h:P:=by
 rw [List.getElem?_drop,<-htk,List.getElem?_take] at hj;split at hj
 ·exact hj
 ·cases hj):P:=h
theorem t47{P:Prop}(h:P:=by
 go_enter func51,ntmps51;go_wp2_with (at_builtin;refine aN rfl _ _ 33 rfl base 28 i0 _ 2 24 underlying33 hi0 hz0 hz1 hz2 (by simp [Value.cells]) om_ _ i xs rfl HO.o (some ⟨g,goff,none⟩) 1 vc news rfl (by rw [HL.o]) (.inr ⟨_,rfl,HC.o⟩) H1.o HN2.o HN3.o HB.o ?_);intro v' w1 ho hg;have HO2:=hid ho;have HG2:=hid hg;rw [HOB.o] at HG2;clear ho hg;go_wp2;go_ret;exact ⟨_,rfl,HO2.o,HG2.o⟩):P:=h
namespace schema
open Go.RowKit rows
def KH (base:Nat) (ob:Option Nat) (n:Nat) (ys:List Value) (w:World) (e:Ending) (w':World):Prop:=∃v',e=.returned v'/\w'.ownsRow base 28 2 v' n ys/\w.grownBy w' ob
set_option maxRecDepth 20000 in
theorem AL (base n i g goff vc:Nat) (gC:List Value) (gt:TypeId) (v:Value) (xs news:List Value) (w:World) (hown:w.ownsRow base 28 2 v n xs) (hbase:base<=w.heap.size) (hi:i<=n)
  (hl:news.length=2) (hG:Block w g gt gC) (hgo:goff+2<=gC.length) (hgv:v.ownBlock≠some g) (hnews:∀j u,news[j]?=some u->gC[goff+j]?=some u) (h1:∀u∈news,u.oneCell'=true) (hx1:∀u∈xs,u.oneCell'=true) (hn:n<=1000):
  Calls prog 51 #[v,.int .i64 i,.slice (some ⟨g,goff,none⟩) 1 vc] w (KH base v.ownBlock (n+1) (xs.take (i*2)++(news++xs.drop (i*2))) w):=by
 obtain ⟨i0,hi0,hz0,hz1,hz2⟩:=record.dO;have hxl:=hown.1;have hcell:∀j u,news[j]?=some u->w.cell? ((⟨g,goff,none⟩:Addr).add j)=some u:=fun j u hj=>by rw [Addr.add_lit,hG.cell];exact hnews j u hj
 have b1:(i:Int)<=n:=by omega
 have b2:(n:Int)<=1000:=by omega
 by_cases hin:i=n
 ·subst hin;have e1:xs.take (i*2)=xs:=List.take_of_length_le om_;have e2:xs.drop (i*2)=[]:=List.drop_of_length_le om_;rw [e1,e2,List.append_nil];obtain ⟨bp,cp,rfl,hcp⟩:=aB hown;have HO:=hid hown;have HC:=hid hcell;have HN2:Hid (i+1<=maxLen):=by show _<=_;unfold maxLen;omega
  have HN3:Hid ((i+1)*24<=140737488355328):=by show _<=_;omega
  have HL:=hid hl;have H1:=hid h1;have HB:=hid hbase;obtain ⟨OB,hOB⟩:∃OB,(Value.slice bp i cp).ownBlock=OB:=⟨_,rfl⟩;have HOB:=hid hOB;rw [hOB];clear hOB hown hcell hxl hG hgo hnews h1 hx1 e1 e2 hl hbase hgv;by_cases hci:i=cp
  ·subst hci
   exact t47
  ·exact t47
 ·rcases hown.2 with ⟨rfl,h0⟩ | ⟨b,cap,cur,rfl,hbb,hB,hnc,hcm,hcs,htake⟩
  ·omega
  ·obtain ⟨C,rfl⟩:∃C:List Value,cur=C.toArray:=⟨cur.toList,by simp⟩;simp only [List.size_toArray] at hcs;have htk:C.take (n*2)=xs:=by simpa using htake
   have hbg:g≠b:=by intro h;subst h;exact hgv rfl
   have hX1:C.take (i*2)=xs.take (i*2):=by rw [<-htk,List.take_take,Nat.min_eq_left (Nat.mul_le_mul_right _ hi)]
   have hX2l:(xs.drop (i*2)).length=(n - i)*2:=by rw [List.length_drop,hxl,Nat.sub_mul]
   have hX2c:∀j u,(xs.drop (i*2))[j]?=some u->C[i*2+j]?=some u:=fun j u hj=>by
    exact t118
   have hX21:∀u∈xs.drop (i*2),u.oneCell'=true:=fun u hu=>hx1 u (List.mem_of_mem_drop hu)
   obtain ⟨X2,hX2⟩:∃X2,xs.drop (i*2)=X2:=⟨_,rfl⟩;rw [hX2] at hX2l hX2c hX21 ⊢;rw [<-hX1];have hlt:i<n:=by omega
   have c1:(i:Int)<n:=by omega
   have c2:¬((i:Int)=(n:Int)):=by omega
   have c3:¬(cap=i):=by omega
   have hcm':cap<=9223372036854775807:=by unfold maxLen at hcm;omega
   have w1:IntKind.i64.wrap ((i:Int)+1)=(i:Int)+1:=by rw [IntKind.wrap_i64];omega
   have w2:IntKind.i64.wrap ((n:Int)+1)=(n:Int)+1:=by rw [IntKind.wrap_i64];omega
   have t1:((i:Int)+1).toNat=i+1:=by omega
   have t2:((n:Int)+1).toNat=n+1:=by omega
   have p1:(0:Int)<=(i:Int)+1:=by omega
   have p2:(i:Int)+1<=(n:Int)+1:=by omega
   have hBB:Block w b 28 C:=hB;have hOB:(Value.slice (some ⟨b,0,none⟩) n cap).ownBlock=some b:=rfl;rw [hOB];clear hOB;by_cases hroom:n+1<=cap
   ·have c4:¬((cap:Int)<(n:Int)+1):=by omega
    have c5:¬(cap=i+1):=by omega
    have c6:(n:Int)+1<=(cap:Int):=by omega
    have hov:∀lb cb,(callFunc 94 #[.slice (some ⟨g,goff,none⟩) 1 vc,.slice (some ⟨b,(i+1)*2,none⟩) lb cb]).run prog w=.ok (.value (.bool false)) w:=fun lb cb=>by
     rw [run_callFunc_extern func94 kr_ kr_ kr_ (e:=Extern.SlicesOverlaps.overlaps #[33,33] #[4]) kr_,
      kK w 33 4 28 underlying33 i0 hi0 ⟨g,goff,none⟩ ⟨b,(i+1)*2,none⟩ 1 vc lb cb hbg gt 28 gC C hG hBB (by intro h;subst h;simp at hcs;omega)]
     rfl
    have HB:=hid hBB;have HG:=hid hG;have HCS:=hid hcs;have HL:=hid hl;have HX2l:=hid hX2l;have HX2c:=hid hX2c;have HX21:=hid hX21;have H1:=hid h1;have HNW:=hid hnews;have HGO:=hid hgo;have HCM:=hid hcm;have HBB:=hid hbb;clear hown hcell hxl hG hgo hnews h1 hx1 hl hbase hgv htake htk hX1 hX2 hX2l hX2c hX21 hB hBB hcs hcm hbb;go_enter func51,ntmps51;go_wp2_with (simp only [hov]);refine tail.region 8 kr_ kr_ ?_;simp only [List.take_succ_cons,List.take_zero,List.drop_succ_cons,List.drop_zero];repeat (go_big_quiet_step (fail))
    refine wpQuiet_nil ?_;rintro _ ⟨nq,rfl⟩;refine bC rfl _ _ 33 33 rfl 28 i0 2 underlying33 hi0 hz1 _ _ _ _ _ _ rfl rfl b ((i+1)*2) C 28 (HB.o.drewN nq) (n - i) (by simp only [Nat.min_def];split <;> omega) X2 HX2l.o (fun _=>⟨rfl,⟨b,i*2,none⟩,rfl,fun j u hj=>by rw [Addr.add_lit,(HB.o.drewN nq).cell];exact HX2c.o j u hj⟩) (by rw [HX2l.o,HCS.o,<-Nat.add_mul];exact Nat.mul_le_mul_right _ om_) HX21.o ?_;intro w3 h3;have hG3:Block w3 g gt gC:=HG.o.but h3.o.2.1 HG.o.lt hbg;have HG3:=hid hG3;have hs3:=h3.o.2.2;clear hG3;go_wp2_with (refine bC rfl _ _ 33 33 rfl 28 i0 2 underlying33 hi0 hz1 _ _ _ _ _ _ rfl rfl b (i*2) (splice C ((i+1)*2) X2) 28 h3.o.1 1 (by simp only [Nat.min_def];split <;> omega) news (by rw [HL.o]) (fun _=>⟨rfl,⟨g,goff,none⟩,rfl,fun j u hj=>by rw [Addr.add_lit,HG3.o.cell];exact HNW.o j u hj⟩) (by rw [length_splice _ _ _ (by rw [HX2l.o,HCS.o,<-Nat.add_mul];exact Nat.mul_le_mul_right _ om_),HL.o,HCS.o];exact (by omega:i*2+2<=cap*2)) H1.o ?_);intro w4 h4;go_wp2;go_ret;have hl2:=two C (i*2) news X2 (by rw [HL.o,HX2l.o,HCS.o];omega);rw [HL.o,HX2l.o,show i*2+2=(i+1)*2 by omega,show (i+1)*2+(n - i)*2=(n+1)*2 by omega,List.append_assoc] at hl2;refine ⟨_,rfl,iE h4.o.1 HBB.o hroom HCM.o ?_ hl2, ?_⟩
    ·rw [length_splice,length_splice,HCS.o]
     ·rw [HX2l.o,HCS.o];omega
     ·rw [length_splice,HL.o,HCS.o]
      ·omega
      ·rw [HX2l.o,HCS.o];omega
    ·have e3:=h3.o.2.1;have e4:=h4.o.2.1;exact dF (v:=.slice (some ⟨b,0,none⟩) n cap) (But.trans (But.drewN e3 0) e4) rfl
   ·obtain rfl:n=cap:=by omega
    have c4:(n:Int)<(n:Int)+1:=by omega
    have k1:IntKind.i64.wrap ((n:Int)+1 - (i:Int))=(n:Int)+1 - (i:Int):=by rw [IntKind.wrap_i64];omega
    have HB:=hid hBB;have HG:=hid hG;have HCS:=hid hcs;have HL:=hid hl;have HX2l:=hid hX2l;have HX2c:=hid hX2c;have HX21:=hid hX21;have H1:=hid h1;have HNW:=hid hnews;have HGO:=hid hgo;have HCM:=hid hcm;have HBB:=hid hbb;have HBW:=hid hbase;have hsz0:0<2:=by omega
    have HN3:Hid ((i+(n+1 - i))*24<=140737488355328):=by show _<=_;omega
    have HN2:Hid (i+(n+1 - i)<=maxLen):=by show _<=_;unfold maxLen;omega
    have HF0:Hid (i*2<=C.length):=by show _<=_;rw [hcs];omega
    clear hown hcell hxl hG hgo hnews h1 hx1 hl hbase hgv htake htk hX1 hX2 hX2l hX2c hX21 hB hBB hcs hcm hbb;go_enter func51,ntmps51;go_wp2_with (at_builtin;refine gy rfl _ _ 33 3 rfl 28 i0 _ 2 24 underlying33 underlying3 hi0 hz0 hz1 hz2 (by simp [Value.cells]) hsz0 b i n rfl (n+1 - i) _ rfl om_ om_ C HB.o HF0.o om_ om_ HN3.o HN2.o ?_);intro G R w3 h3;have hs3:w.heap.size<w3.heap.size:=h3.o.2.2.2.2.2;have g1:¬(G=i):=by have:=h3.o.2.2.1;omega
    have g2:¬(G=i+1):=by have:=h3.o.2.2.1;omega
    have g3:i+(n+1 - i)=n+1:=by omega
    have HG1:=hid h3.o.2.2.1;have HG2:=hid h3.o.2.2.2.1;have HRl:=hid h3.o.2.1;have HLT:=hid HB.o.lt;have HLG:=hid HG.o.lt;have HB3:Hid (Block w3 b 28 C):=hid (HB.o.later h3.o.2.2.2.2.1);have HG3:Hid (Block w3 g gt gC):=hid (HG.o.later h3.o.2.2.2.2.1);have HCL:Hid ((C.take (i*2)++R).length=G*2):=by
     show _=_
     rw [List.length_append,List.length_take,Nat.min_eq_left HF0.o,HRl.o,<-Nat.add_mul];congr 1;have:=HG1.o;omega
    rw [g3];go_wp2_with (refine bC rfl _ _ 33 33 rfl 28 i0 2 underlying33 hi0 hz1 _ _ _ _ _ _ rfl rfl w.heap.size (i*2) (C.take (i*2)++R) 28 h3.o.1 1 (by simp only [Nat.min_def];split <;> omega) news (by rw [HL.o]) (fun _=>⟨rfl,⟨g,goff,none⟩,rfl,fun j u hj=>by rw [Addr.add_lit,HG3.o.cell];exact HNW.o j u hj⟩) (by rw [HCL.o,HL.o];have:=HG1.o;omega) H1.o ?_);intro w4 h4;have HB4:Hid (Block w4 b 28 C):=hid (HB3.o.but h4.o.2.1 HB3.o.lt (by have:=HLT.o;omega));have hs4:=h4.o.2.2;have HL4:Hid ((splice (C.take (i*2)++R) (i*2) news).length=G*2):=hid (by rw [length_splice _ _ _ (by rw [HCL.o,HL.o];have:=HG1.o;omega),HCL.o]);go_wp2;refine tail.region 8 kr_ kr_ ?_;simp only [List.take_succ_cons,List.take_zero,List.drop_succ_cons,List.drop_zero];repeat (go_big_quiet_step (fail))
    refine wpQuiet_nil ?_;rintro _ ⟨nq,rfl⟩;refine bC rfl _ _ 33 33 rfl 28 i0 2 underlying33 hi0 hz1 _ _ _ _ _ _ rfl rfl w.heap.size ((i+1)*2) (splice (C.take (i*2)++R) (i*2) news) 28 (h4.o.1.drewN nq) (n - i) (by simp only [Nat.min_def];split <;> omega) X2 HX2l.o (fun _=>⟨rfl,⟨b,i*2,none⟩,rfl,fun j u hj=>by rw [Addr.add_lit,(HB4.o.drewN nq).cell];exact HX2c.o j u hj⟩) (by rw [HL4.o,HX2l.o];have:=HG1.o;omega) HX21.o ?_;intro w5 h5;go_wp2;go_ret;have hl2:=two' (C.take (i*2)++R) (i*2) news X2 (by rw [HL.o,HX2l.o,HCL.o];have:=HG1.o;omega);rw [HL.o,HX2l.o,show i*2+2=(i+1)*2 by omega,show (i+1)*2+(n - i)*2=(n+1)*2 by omega,List.append_assoc,List.take_left' (by rw [List.length_take,Nat.min_eq_left HF0.o])] at hl2;refine ⟨_,rfl,iE h5.o.1 HBW.o (by have:=HG1.o;omega) HG2.o ?_ hl2, ?_⟩
    ·rw [length_splice,HL4.o];rw [HX2l.o,HL4.o];have:=HG1.o;omega
    ·exact eX (h3.o.2.2.2.2.1.trans ((But.trans (But.drewN h4.o.2.1 0) (by have:=h5.o.2.1;exact this.mono (by simp [hs4]))).below om_ (Nat.le_refl _)))
end schema
theorem t38{P:Prop}(h:P:=by
 go_enter func86,ntmps86;go_wp2_with (first
  | (go_at_call 120;((with_reducible refine (cX _ hw).mono ?_);rintro e w1 ⟨rfl,hb1⟩))
  | (go_at_call 120;((with_reducible refine (cY _ hb1).mono ?_);rintro e w2 ⟨rfl,hb2⟩)))
 go_ret;exact ⟨rfl,hb2⟩):P:=h
namespace typing
open Go.RowKit schema
open field (Gives aC aj)
def uh (x y:Int):Int:=if x<y then -1 else if y<x then 1 else 0
theorem yM (x:Int) (w:World):Calls prog 120 #[.int .i64 x] w (Gives (.bool false) w):=by
 unfold Gives;go_enter func120,ntmps120;go_wp2;go_ret;exact ⟨by simp,Below.refl _ _⟩
theorem BD (x y:Int) (w:World):Calls prog 86 #[.int .i64 x,.int .i64 y] w (Gives (.int .i64 (uh x y)) w):=by
 have cX:=fun w' (hb:Below w.heap.size w w')=>aj (yM x w') hb
 have cY:=fun w' (hb:Below w.heap.size w w')=>aj (yM y w') hb
 obtain ⟨v,hv⟩:∃v:Int,Hid (uh x y=v):=⟨_,rfl⟩;rw [hv.o];unfold Gives;have hw:=Below.refl w.heap.size w;by_cases h1:x<y
 ·obtain rfl: -1=v:=by rw [<-hv.o];unfold uh;rw [if_pos h1]
  exact t38
 ·by_cases h2:y<x
  ·obtain rfl:1=v:=by rw [<-hv.o];unfold uh;rw [if_neg h1,if_pos h2]
   have d2:decide (x>y)=true:=decide_eq_true h2
   exact t38
  ·obtain rfl:0=v:=by rw [<-hv.o];unfold uh;rw [if_neg h1,if_neg h2]
   have d2:decide (x>y)=false:=decide_eq_false h2
   exact t38
theorem A7 (i:Int) (q:Option Addr) (n qc:Nat) (x:Int) (w:World):
  Calls prog 85 #[zS i q n qc,.int .i64 x] w (Gives (.int .i64 (uh i x)) w):=by
 have HN:=aC w (.cells (zS i q n qc) 57);have cC:=aj (BD i x (w.alloc (.cells (zS i q n qc) 57))) HN;obtain ⟨v,hv⟩:∃v:Int,Hid (uh i x=v):=⟨_,rfl⟩;rw [hv.o] at cC ⊢;unfold Gives;go_enter func85,ntmps85;go_wp2_with (go_at_call 86;((with_reducible refine cC.mono ?_);rintro e w1 ⟨rfl,hb1⟩));go_ret;exact ⟨rfl,hb1⟩
def Mid (F:List Fm) (x:Int) (i j:Nat):Prop:=(∀p∈(forms F).take i,p.1<x)/\(∀p∈(forms F).drop j,¬p.1<x)
theorem Mid.start (F:List Fm) (x:Int):Mid F x 0 F.length:=⟨by simp,by rw [List.drop_of_length_le (by rw [aF];exact Nat.le_refl _)];simp⟩
theorem Mid.up {F:List Fm} {x:Int} {i j h:Nat} {p:Fm} (hm:Mid F x i j) (hs:Sorted (forms F)) (hp:F[h]?=some p) (hx:p.id<x):Mid F x (h+1) j:=by
 refine ⟨fun q hq=> ?_,hm.2⟩;obtain ⟨k,hk⟩:=List.mem_iff_getElem?.1 hq;rw [List.getElem?_take] at hk;split at hk
 ·rename_i hlt;by_cases e:k=h
  ·subst e;rw [dR hp] at hk;cases hk
   exact hx
  ·have h1:((forms F).map (·.1))[k]?=some q.1:=by rw [List.getElem?_map,hk];rfl
   have h2:((forms F).map (·.1))[h]?=some p.id:=by rw [List.getElem?_map,dR hp];rfl
   obtain ⟨a1,a2⟩:=List.getElem?_eq_some_iff.1 h1;obtain ⟨b1,b2⟩:=List.getElem?_eq_some_iff.1 h2;have:=List.pairwise_iff_getElem.1 hs k h a1 b1 om_;rw [a2,b2] at this;omega
 ·cases hk
theorem Mid.down {F:List Fm} {x:Int} {i j h:Nat} {p:Fm} (hm:Mid F x i j) (hs:Sorted (forms F)) (hp:F[h]?=some p) (hx:¬p.id<x):Mid F x i h:=by
 refine ⟨hm.1,fun q hq=> ?_⟩;obtain ⟨k,hk⟩:=List.mem_iff_getElem?.1 hq;rw [List.getElem?_drop] at hk;by_cases e:k=0
 ·subst e;rw [Nat.add_zero,dR hp] at hk;cases hk
  exact hx
 ·have h1:((forms F).map (·.1))[h+k]?=some q.1:=by rw [List.getElem?_map,hk];rfl
  have h2:((forms F).map (·.1))[h]?=some p.id:=by rw [List.getElem?_map,dR hp];rfl
  obtain ⟨a1,a2⟩:=List.getElem?_eq_some_iff.1 h1;obtain ⟨b1,b2⟩:=List.getElem?_eq_some_iff.1 h2;have:=List.pairwise_iff_getElem.1 hs h (h+k) b1 a1 om_;rw [a2,b2] at this;omega
theorem Mid.pos {F:List Fm} {x:Int} {i:Nat} (hm:Mid F x i i) (hs:Sorted (forms F)) (hi:i<=F.length):pos (forms F) x=i:=
 pos_eq hs (by rw [aF];exact hi) hm.1 hm.2
theorem J4 {x y:Int} (h:x<y):uh x y= -1:=by unfold uh;rw [if_pos h]
theorem J5 {x y:Int} (h:¬x<y):0<=uh x y:=by unfold uh;rw [if_neg h];split <;> omega
theorem rM (a:Option Addr) (cap:Nat) (F:List Fm) (x:Int) (w:World) (h:Fms w a F) (hF:F.length<=1000) (hs:Sorted (forms F)):
  Calls prog 84 #[.slice a F.length cap,.int .i64 x,.func (.func 85) #[] #[]] w
   (fun e w'=>∃b:Bool,e=.returned (.tuple #[.int .i64 (pos (forms F) x:Nat),.bool b])/\Below w.heap.size w w'):=by
 have hml:(F.length:Int)<=1000:=by omega
 have HF:=hid h;have HS:=hid hs;have HP:Hid (∀i,Mid F x i i->i<=F.length->pos (forms F) x=i):=hid (fun i hm hi=>hm.pos hs hi);generalize pos (forms F) x=P at *;have HM:=hid (Mid.start F x);clear h hs;go_enter func84,ntmps84;go_wp2;go_loopw [9,10] (fun n m wr=>∃i j:Nat,i<=j/\j<=F.length/\n=.int .i64 (i:Int)/\m=.int .i64 (j:Int)/\Hid (Mid F x i j)/\Hid (Below w.heap.size w wr)) (fun n m _=>(intOf m).toNat - (intOf n).toNat);case atStart=>exact ⟨0,F.length,Nat.zero_le _,Nat.le_refl _,rfl,rfl,HM,hid (Below.refl _ _)⟩
 case round=>
  obtain ⟨i,j,hij,hj,rfl,rfl,HMD,HB⟩:=hrel;by_cases hlt:i<j
  ·obtain ⟨H,hH⟩:∃H:Nat,(i+j) / 2=H:=⟨_,rfl⟩;have i1:(i:Int)<j:=by omega
   have i2:(j:Int)<=F.length:=by omega
   have hH1:i<=H:=by omega
   have hH2:H<j:=by omega
   have s1:((i:Int)+(j:Int)) / 2=(H:Int):=by omega
   have i3:(H:Int)<F.length:=by omega
   obtain ⟨b,off,p,rfl,hbl,hp,c0,c1⟩:=(HF.o.below HB.o).at (i:=H) om_;have cB:=A7 p.id p.f p.fL.length p.fCap x wr;unfold Gives at cB;have HUP:=hid (fun hx=>HMD.o.up HS.o hp hx);have HDN:=hid (fun hx=>HMD.o.down HS.o hp hx);clear hp hH;by_cases hx:p.id<x
   ·rw [J4 hx] at cB;have HX:=hid hx;clear hx;go_wp2_with (go_at_call 85;((with_reducible refine cB.mono ?_);rintro e w1 ⟨rfl,hb1⟩));exact ⟨⟨H+1,j,by omega,hj,by go_num,rfl,hid (HUP.o HX.o),hid (HB.o.trans (hb1.mono HB.o.size))⟩,by simp [intOf];omega⟩
   ·obtain ⟨V,hV⟩:∃V:Int,Hid (uh p.id x=V):=⟨_,rfl⟩;have hV0:0<=V:=by rw [<-hV.o];exact J5 hx
    rw [hV.o] at cB;have HX:=hid hx;clear hx;have d1:decide (V<0)=false:=decide_eq_false om_;have d2:¬V<0:=by omega
    go_wp2_with (go_at_call 85;((with_reducible refine cB.mono ?_);rintro e w1 ⟨rfl,hb1⟩));exact ⟨⟨i,H,hH1,by omega,rfl,rfl,hid (HDN.o HX.o),hid (HB.o.trans (hb1.mono HB.o.size))⟩,by simp [intOf];omega⟩
  ·obtain rfl:i=j:=by omega
   obtain rfl:P=i:=HP.o i HMD.o hj;have j1:¬((P:Int)<(P:Int)):=by omega
   by_cases hl:P<F.length
   ·have i3:(P:Int)<F.length:=by omega
    obtain ⟨b,off,p,rfl,hbl,hp,c0,c1⟩:=(HF.o.below HB.o).at (i:=P) hl;have cB:=A7 p.id p.f p.fL.length p.fCap x wr;unfold Gives at cB;obtain ⟨V,hV⟩:∃V:Int,Hid (uh p.id x=V):=⟨_,rfl⟩;rw [hV.o] at cB;clear hp;go_wp2_with (go_at_call 85;((with_reducible refine cB.mono ?_);rintro e w1 ⟨rfl,hb1⟩));go_ret2;exact ⟨_,rfl,HB.o.trans (hb1.mono HB.o.size)⟩
   ·have i3:¬((P:Int)<F.length):=by omega
    go_wp2;go_ret2;exact ⟨.inl rfl,HB.o⟩
end typing
end Go.Proofs.YtdnegbkhndekpaaGreat
