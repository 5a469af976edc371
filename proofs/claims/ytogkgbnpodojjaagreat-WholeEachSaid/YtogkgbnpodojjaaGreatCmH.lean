/- Contracts and lemmas that claims of this seat share: InsertV, DeleteV, InsertF, DeleteF. Each says its own conditions. -/
import Derived.Test.YtogkgbnpodojjaaGreatCmWord
import Derived.Test.YtogkgbnpodojjaaGreatCmE
import Derived.Test.YtogkgbnpodojjaaGreatCmG
import Derived.Test.YtogkgbnpodojjaaGreatCmF
import Derived.Test.YtogkgbnpodojjaaGreatCmC
set_option linter.unusedVariables false
namespace Go.Proofs.YtogkgbnpodojjaaGreat
open Go.Proofs.Tryz
theorem t100{P:Prop}(h:P:=by
 rw [List.getElem?_drop,<-htk,List.getElem?_take] at hj;split at hj
 ·exact hj
 ·cases hj):P:=h
theorem t32{P:Prop}(h:P:=by
 go_enter func160,ntmps160;go_wp2_with (at_builtin;refine aO rfl _ _ 64 rfl base 54 i0 _ 2 24 underlying64 hi0 hz0 hz1 hz2 (by simp [Value.cells]) om_ _ i xs rfl HO.o (some ⟨g,goff,none⟩) 1 vc news rfl (by rw [HL.o]) (.inr ⟨_,rfl,HC.o⟩) H1.o HN2.o HN3.o HB.o ?_);intro v' w1 ho hg;have HO2:=hid ho;have HG2:=hid hg;rw [HOB.o] at HG2;clear ho hg;go_wp2;go_ret;exact ⟨_,rfl,HO2.o,HG2.o⟩):P:=h
namespace schema
open Go.RowKit rows
def KN (base:Nat) (ob:Option Nat) (n:Nat) (ys:List Value) (w:World) (e:Ending) (w':World):Prop:=∃v',e=.returned v'/\w'.ownsRow base 54 2 v' n ys/\w.grownBy w' ob
set_option maxRecDepth 20000 in
theorem A8 (base n i g goff vc:Nat) (gC:List Value) (gt:TypeId) (v:Value) (xs news:List Value) (w:World) (hown:w.ownsRow base 54 2 v n xs) (hbase:base<=w.heap.size) (hi:i<=n)
  (hl:news.length=2) (hG:Block w g gt gC) (hgo:goff+2<=gC.length) (hgv:v.ownBlock≠some g) (hnews:∀j u,news[j]?=some u->gC[goff+j]?=some u) (h1:∀u∈news,u.oneCell'=true) (hx1:∀u∈xs,u.oneCell'=true) (hn:n<=1000):
  Calls prog 160 #[v,.int .i64 i,.slice (some ⟨g,goff,none⟩) 1 vc] w (KN base v.ownBlock (n+1) (xs.take (i*2)++(news++xs.drop (i*2))) w):=by
 obtain ⟨i0,hi0,hz0,hz1,hz2⟩:=record.jk;have hxl:=hown.1;have hcell:∀j u,news[j]?=some u->w.cell? ((⟨g,goff,none⟩:Addr).add j)=some u:=fun j u hj=>by rw [Addr.add_lit,hG.cell];exact hnews j u hj
 have b1:(i:Int)<=n:=by omega
 have b2:(n:Int)<=1000:=by omega
 by_cases hin:i=n
 ·subst hin;have e1:xs.take (i*2)=xs:=List.take_of_length_le om_;have e2:xs.drop (i*2)=[]:=List.drop_of_length_le om_;rw [e1,e2,List.append_nil];obtain ⟨bp,cp,rfl,hcp⟩:=aA hown;have HO:=hid hown;have HC:=hid hcell;have HN2:Hid (i+1<=maxLen):=by show _<=_;unfold maxLen;omega
  have HN3:Hid ((i+1)*24<=140737488355328):=by show _<=_;omega
  have HL:=hid hl;have H1:=hid h1;have HB:=hid hbase;obtain ⟨OB,hOB⟩:∃OB,(Value.slice bp i cp).ownBlock=OB:=⟨_,rfl⟩;have HOB:=hid hOB;rw [hOB];clear hOB hown hcell hxl hG hgo hnews h1 hx1 e1 e2 hl hbase hgv;by_cases hci:i=cp
  ·subst hci
   exact t32
  ·exact t32
 ·rcases hown.2 with ⟨rfl,h0⟩ | ⟨b,cap,cur,rfl,hbb,hB,hnc,hcm,hcs,htake⟩
  ·omega
  ·obtain ⟨C,rfl⟩:∃C:List Value,cur=C.toArray:=⟨cur.toList,by simp⟩;simp only [List.size_toArray] at hcs;have htk:C.take (n*2)=xs:=by simpa using htake
   have hbg:g≠b:=by intro h;subst h;exact hgv rfl
   have hX1:C.take (i*2)=xs.take (i*2):=by rw [<-htk,List.take_take,Nat.min_eq_left (Nat.mul_le_mul_right _ hi)]
   have hX2l:(xs.drop (i*2)).length=(n - i)*2:=by rw [List.length_drop,hxl,Nat.sub_mul]
   have hX2c:∀j u,(xs.drop (i*2))[j]?=some u->C[i*2+j]?=some u:=fun j u hj=>by
    exact t100
   have hX21:∀u∈xs.drop (i*2),u.oneCell'=true:=fun u hu=>hx1 u (List.mem_of_mem_drop hu)
   obtain ⟨X2,hX2⟩:∃X2,xs.drop (i*2)=X2:=⟨_,rfl⟩;rw [hX2] at hX2l hX2c hX21 ⊢;rw [<-hX1];have hlt:i<n:=by omega
   have c1:(i:Int)<n:=by omega
   have c2:¬((i:Int)=(n:Int)):=by omega
   have c3:¬(cap=i):=by omega
   have hcm':cap<=9223372036854775807:=by unfold maxLen at hcm;omega
   have w1:IntKind.i64.wrap ((i:Int)+1)=(i:Int)+1:=by rw [IntKind.wrap_i64];omega
   have w2:IntKind.i64.wrap ((n:Int)+1)=(n:Int)+1:=by rw [IntKind.wrap_i64];omega
   have t1:((i:Int)+1).toNat=i+1:=by omega
   have t2:((n:Int)+1).toNat=n+1:=by omega
   have p1:(0:Int)<=(i:Int)+1:=by omega
   have p2:(i:Int)+1<=(n:Int)+1:=by omega
   have hBB:Block w b 54 C:=hB;have hOB:(Value.slice (some ⟨b,0,none⟩) n cap).ownBlock=some b:=rfl;rw [hOB];clear hOB;by_cases hroom:n+1<=cap
   ·have c4:¬((cap:Int)<(n:Int)+1):=by omega
    have c5:¬(cap=i+1):=by omega
    have c6:(n:Int)+1<=(cap:Int):=by omega
    have hov:∀lb cb,(callFunc 205 #[.slice (some ⟨g,goff,none⟩) 1 vc,.slice (some ⟨b,(i+1)*2,none⟩) lb cb]).run prog w=.ok (.value (.bool false)) w:=fun lb cb=>by
     rw [run_callFunc_extern func205 kr_ kr_ kr_ (e:=Extern.SlicesOverlaps.overlaps #[64,64] #[4]) kr_,
      ji w 64 4 54 underlying64 i0 hi0 ⟨g,goff,none⟩ ⟨b,(i+1)*2,none⟩ 1 vc lb cb hbg gt 54 gC C hG hBB (by intro h;subst h;simp at hcs;omega)]
     rfl
    have HB:=hid hBB;have HG:=hid hG;have HCS:=hid hcs;have HL:=hid hl;have HX2l:=hid hX2l;have HX2c:=hid hX2c;have HX21:=hid hX21;have H1:=hid h1;have HNW:=hid hnews;have HGO:=hid hgo;have HCM:=hid hcm;have HBB:=hid hbb;clear hown hcell hxl hG hgo hnews h1 hx1 hl hbase hgv htake htk hX1 hX2 hX2l hX2c hX21 hB hBB hcs hcm hbb;go_enter func160,ntmps160;go_wp2_with (simp only [hov]);refine tail.region 8 kr_ kr_ ?_;simp only [List.take_succ_cons,List.take_zero,List.drop_succ_cons,List.drop_zero];repeat (go_big_quiet_step (fail))
    refine wpQuiet_nil ?_;rintro _ ⟨nq,rfl⟩;refine aQ rfl _ _ 64 64 rfl 54 i0 2 underlying64 hi0 hz1 _ _ _ _ _ _ rfl rfl b ((i+1)*2) C 54 (HB.o.drewN nq) (n - i) (by simp only [Nat.min_def];split <;> omega) X2 HX2l.o (fun _=>⟨rfl,⟨b,i*2,none⟩,rfl,fun j u hj=>by rw [Addr.add_lit,(HB.o.drewN nq).cell];exact HX2c.o j u hj⟩) (by rw [HX2l.o,HCS.o,<-Nat.add_mul];exact Nat.mul_le_mul_right _ om_) HX21.o ?_;intro w3 h3;have hG3:Block w3 g gt gC:=HG.o.but h3.o.2.1 HG.o.lt hbg;have HG3:=hid hG3;have hs3:=h3.o.2.2;clear hG3;go_wp2_with (refine aQ rfl _ _ 64 64 rfl 54 i0 2 underlying64 hi0 hz1 _ _ _ _ _ _ rfl rfl b (i*2) (splice C ((i+1)*2) X2) 54 h3.o.1 1 (by simp only [Nat.min_def];split <;> omega) news (by rw [HL.o]) (fun _=>⟨rfl,⟨g,goff,none⟩,rfl,fun j u hj=>by rw [Addr.add_lit,HG3.o.cell];exact HNW.o j u hj⟩) (by rw [length_splice _ _ _ (by rw [HX2l.o,HCS.o,<-Nat.add_mul];exact Nat.mul_le_mul_right _ om_),HL.o,HCS.o];exact (by omega:i*2+2<=cap*2)) H1.o ?_);intro w4 h4;go_wp2;go_ret;have hl2:=two C (i*2) news X2 (by rw [HL.o,HX2l.o,HCS.o];omega);rw [HL.o,HX2l.o,show i*2+2=(i+1)*2 by omega,show (i+1)*2+(n - i)*2=(n+1)*2 by omega,List.append_assoc] at hl2;refine ⟨_,rfl,fJ h4.o.1 HBB.o hroom HCM.o ?_ hl2, ?_⟩
    ·rw [length_splice,length_splice,HCS.o]
     ·rw [HX2l.o,HCS.o];omega
     ·rw [length_splice,HL.o,HCS.o]
      ·omega
      ·rw [HX2l.o,HCS.o];omega
    ·have e3:=h3.o.2.1;have e4:=h4.o.2.1;exact bD (v:=.slice (some ⟨b,0,none⟩) n cap) (But.trans (But.drewN e3 0) e4) rfl
   ·obtain rfl:n=cap:=by omega
    have c4:(n:Int)<(n:Int)+1:=by omega
    have k1:IntKind.i64.wrap ((n:Int)+1 - (i:Int))=(n:Int)+1 - (i:Int):=by rw [IntKind.wrap_i64];omega
    have HB:=hid hBB;have HG:=hid hG;have HCS:=hid hcs;have HL:=hid hl;have HX2l:=hid hX2l;have HX2c:=hid hX2c;have HX21:=hid hX21;have H1:=hid h1;have HNW:=hid hnews;have HGO:=hid hgo;have HCM:=hid hcm;have HBB:=hid hbb;have HBW:=hid hbase;have hsz0:0<2:=by omega
    have HN3:Hid ((i+(n+1 - i))*24<=140737488355328):=by show _<=_;omega
    have HN2:Hid (i+(n+1 - i)<=maxLen):=by show _<=_;unfold maxLen;omega
    have HF0:Hid (i*2<=C.length):=by show _<=_;rw [hcs];omega
    clear hown hcell hxl hG hgo hnews h1 hx1 hl hbase hgv htake htk hX1 hX2 hX2l hX2c hX21 hB hBB hcs hcm hbb;go_enter func160,ntmps160;go_wp2_with (at_builtin;refine fB rfl _ _ 64 3 rfl 54 i0 _ 2 24 underlying64 underlying3 hi0 hz0 hz1 hz2 (by simp [Value.cells]) hsz0 b i n rfl (n+1 - i) _ rfl om_ om_ C HB.o HF0.o om_ om_ HN3.o HN2.o ?_);intro G R w3 h3;have hs3:w.heap.size<w3.heap.size:=h3.o.2.2.2.2.2;have g1:¬(G=i):=by have:=h3.o.2.2.1;omega
    have g2:¬(G=i+1):=by have:=h3.o.2.2.1;omega
    have g3:i+(n+1 - i)=n+1:=by omega
    have HG1:=hid h3.o.2.2.1;have HG2:=hid h3.o.2.2.2.1;have HRl:=hid h3.o.2.1;have HLT:=hid HB.o.lt;have HLG:=hid HG.o.lt;have HB3:Hid (Block w3 b 54 C):=hid (HB.o.later h3.o.2.2.2.2.1);have HG3:Hid (Block w3 g gt gC):=hid (HG.o.later h3.o.2.2.2.2.1);have HCL:Hid ((C.take (i*2)++R).length=G*2):=by
     show _=_
     rw [List.length_append,List.length_take,Nat.min_eq_left HF0.o,HRl.o,<-Nat.add_mul];congr 1;have:=HG1.o;omega
    rw [g3];go_wp2_with (refine aQ rfl _ _ 64 64 rfl 54 i0 2 underlying64 hi0 hz1 _ _ _ _ _ _ rfl rfl w.heap.size (i*2) (C.take (i*2)++R) 54 h3.o.1 1 (by simp only [Nat.min_def];split <;> omega) news (by rw [HL.o]) (fun _=>⟨rfl,⟨g,goff,none⟩,rfl,fun j u hj=>by rw [Addr.add_lit,HG3.o.cell];exact HNW.o j u hj⟩) (by rw [HCL.o,HL.o];have:=HG1.o;omega) H1.o ?_);intro w4 h4;have HB4:Hid (Block w4 b 54 C):=hid (HB3.o.but h4.o.2.1 HB3.o.lt (by have:=HLT.o;omega));have hs4:=h4.o.2.2;have HL4:Hid ((splice (C.take (i*2)++R) (i*2) news).length=G*2):=hid (by rw [length_splice _ _ _ (by rw [HCL.o,HL.o];have:=HG1.o;omega),HCL.o]);go_wp2;refine tail.region 8 kr_ kr_ ?_;simp only [List.take_succ_cons,List.take_zero,List.drop_succ_cons,List.drop_zero];repeat (go_big_quiet_step (fail))
    refine wpQuiet_nil ?_;rintro _ ⟨nq,rfl⟩;refine aQ rfl _ _ 64 64 rfl 54 i0 2 underlying64 hi0 hz1 _ _ _ _ _ _ rfl rfl w.heap.size ((i+1)*2) (splice (C.take (i*2)++R) (i*2) news) 54 (h4.o.1.drewN nq) (n - i) (by simp only [Nat.min_def];split <;> omega) X2 HX2l.o (fun _=>⟨rfl,⟨b,i*2,none⟩,rfl,fun j u hj=>by rw [Addr.add_lit,(HB4.o.drewN nq).cell];exact HX2c.o j u hj⟩) (by rw [HL4.o,HX2l.o];have:=HG1.o;omega) HX21.o ?_;intro w5 h5;go_wp2;go_ret;have hl2:=two' (C.take (i*2)++R) (i*2) news X2 (by rw [HL.o,HX2l.o,HCL.o];have:=HG1.o;omega);rw [HL.o,HX2l.o,show i*2+2=(i+1)*2 by omega,show (i+1)*2+(n - i)*2=(n+1)*2 by omega,List.append_assoc,List.take_left' (by rw [List.length_take,Nat.min_eq_left HF0.o])] at hl2;refine ⟨_,rfl,fJ h5.o.1 HBW.o (by have:=HG1.o;omega) HG2.o ?_ hl2, ?_⟩
    ·rw [length_splice,HL4.o];rw [HX2l.o,HL4.o];have:=HG1.o;omega
    ·exact dw (h3.o.2.2.2.2.1.trans ((But.trans (But.drewN h4.o.2.1 0) (by have:=h5.o.2.1;exact this.mono (by simp [hs4]))).below om_ (Nat.le_refl _)))
end schema
theorem t67{P:Prop}(h:P:=by
 rw [eU _ _ _ _ (Nat.le_refl _) (by rw [HL3.o];have:=HNC.o;omega)];have:=eX C (i*2) X2 (by rw [HCS.o];have:=HNC.o;omega);rw [HX2l.o,<-Nat.add_mul,g3] at this;exact this):P:=h
namespace schema
open Go.RowKit rows
def KL (base:Nat) (ob:Option Nat) (n:Nat) (ys:List Value) (w:World) (e:Ending) (w':World):Prop:=∃v',e=.returned v'/\w'.ownsRow base 54 2 v' n ys/\w.grownBy w' ob/\v'.ownBlock=ob
set_option maxRecDepth 20000 in
theorem zq (base N i:Nat) (v:Value) (xs:List Value) (w:World) (hown:w.ownsRow base 54 2 v (N+1) xs) (hi:i<=N) (hx1:∀u∈xs,u.oneCell'=true) (hn:N<=1000):
  Calls prog 161 #[v,.int .i64 i,.int .i64 ((i:Int)+1)] w (KL base v.ownBlock N (xs.take (i*2)++xs.drop ((i+1)*2)) w):=by
 obtain ⟨i0,hi0,hz0,hz1,hz2⟩:=record.jk;have hxl:=hown.1;rcases hown.2 with ⟨_,h0⟩ | ⟨b,cap,cur,rfl,hbb,hB,hnc,hcm,hcs,htake⟩
 ·omega
 ·obtain ⟨C,rfl⟩:∃C:List Value,cur=C.toArray:=⟨cur.toList,by simp⟩;simp only [List.size_toArray] at hcs;have htk:C.take ((N+1)*2)=xs:=by simpa using htake
  have hX1:C.take (i*2)=xs.take (i*2):=by rw [<-htk,List.take_take,Nat.min_eq_left (Nat.mul_le_mul_right _ om_)]
  have hX2l:(xs.drop ((i+1)*2)).length=(N - i)*2:=by rw [List.length_drop,hxl,<-Nat.sub_mul];congr 1;omega
  have hX2c:∀j u,(xs.drop ((i+1)*2))[j]?=some u->C[(i+1)*2+j]?=some u:=fun j u hj=>by
   exact t100
  have hX21:∀u∈xs.drop ((i+1)*2),u.oneCell'=true:=fun u hu=>hx1 u (List.mem_of_mem_drop hu)
  obtain ⟨X2,hX2⟩:∃X2,xs.drop ((i+1)*2)=X2:=⟨_,rfl⟩;rw [hX2] at hX2l hX2c hX21 ⊢;rw [<-hX1];have hOB:(Value.slice (some ⟨b,0,none⟩) (N+1) cap).ownBlock=some b:=rfl;rw [hOB];clear hOB;have c1:(i:Int)<=N:=by omega
  have c2:¬((i:Int)=(i:Int)+1):=by omega
  have c3:¬(cap=N):=by omega
  have c4:¬(cap=i):=by omega
  have hcm':cap<=9223372036854775807:=by unfold maxLen at hcm;omega
  have b2:(N:Int)<=1000:=by omega
  have t1:((i:Int)+1).toNat=i+1:=by omega
  have t2:((N:Int)+1).toNat=N+1:=by omega
  have p1:(0:Int)<=(i:Int)+1:=by omega
  have hBB:Block w b 54 C:=hB;have hz1c:∀u∈(Value.cells (.agg #[.int .i64 0,.string ⟨#[]⟩])).toList,u.oneCell'=true:=by simp [Value.cells];try decide
  have h0z:0<2:=by omega
  have g3:i+(N - i)=N:=by omega
  have HB:=hid hBB;have HCS:=hid hcs;have HX2l:=hid hX2l;have HX2c:=hid hX2c;have HX21:=hid hX21;have HCM:=hid hcm;have HBB:=hid hbb;have HNC:Hid ((N+1)*2<=cap*2):=Nat.mul_le_mul_right _ hnc;clear hown hxl hx1 htake htk hX1 hX2 hX2l hX2c hX21 hB hBB hcs hcm hbb;by_cases c5:cap=i+1
  ·obtain rfl:i=N:=by omega
   subst c5;go_enter func161,ntmps161;go_wp2;refine tail.region 6 kr_ kr_ ?_;simp only [List.take_succ_cons,List.take_zero,List.drop_succ_cons,List.drop_zero];repeat (go_big_quiet_step (fail))
   refine wpQuiet_nil ?_;rintro _ ⟨nq,rfl⟩;refine dF rfl _ _ 64 rfl 54 i0 2 underlying64 hi0 hz1 b _ _ rfl C (HB.o.drewN nq) _ 0 _ rfl X2 (by have:=HX2l.o;simpa using this) (fun h=>absurd h om_) HX21.o om_ (by rw [HX2l.o,HCS.o];have:=HNC.o;omega) ?_;intro w3 h3;have HL3:Hid ((splice C (i*2) X2).length=(i+1)*2):=hid (by rw [length_splice _ _ _ (by rw [HX2l.o,HCS.o];have:=HNC.o;omega),HCS.o]);go_wp2_with (refine cu rfl _ 64 rfl 54 i0 _ 2 underlying64 hi0 hz0 (by simp [Value.cells]) hz1c h0z _ 1 _ rfl b (i*2) (splice C (i*2) X2) 54 h3.o.1 (fun _=>by simp) (by rw [HL3.o];have:=HNC.o;omega) ?_);intro Z w4 h4;go_wp2;go_ret;have hl2:(splice (splice C (i*2) X2) (i*2) Z).take (i*2)=C.take (i*2)++X2:=by
    exact t67
   refine ⟨_,rfl,fJ h4.o.2.1 HBB.o om_ HCM.o (by rw [length_splice _ _ _ (by rw [HL3.o,h4.o.1];have:=HNC.o;omega),HL3.o]) hl2, ?_,rfl⟩;exact bD (v:=.slice (some ⟨b,0,none⟩) i (i+1)) (But.trans (But.drewN h3.o.2.1 0) (h4.o.2.2.1.mono (by have:=h3.o.2.2;simp at this;omega))) rfl
  ·go_enter func161,ntmps161;go_wp2;refine tail.region 6 kr_ kr_ ?_;simp only [List.take_succ_cons,List.take_zero,List.drop_succ_cons,List.drop_zero];repeat (go_big_quiet_step (fail))
   refine wpQuiet_nil ?_;rintro _ ⟨nq,rfl⟩;refine dF rfl _ _ 64 rfl 54 i0 2 underlying64 hi0 hz1 b _ _ rfl C (HB.o.drewN nq) _ (N - i) _ (by rfl) X2 HX2l.o (fun h=>⟨⟨b,(i+1)*2,none⟩,rfl,fun j u hj=>by rw [Addr.add_lit,(HB.o.drewN nq).cell];exact HX2c.o j u hj⟩) HX21.o om_ (by rw [HX2l.o,HCS.o];have:=HNC.o;omega) ?_;intro w3 h3;rw [g3];have HL3:Hid ((splice C (i*2) X2).length=cap*2):=hid (by rw [length_splice _ _ _ (by rw [HX2l.o,HCS.o];have:=HNC.o;omega),HCS.o]);go_wp2_with (refine cu rfl _ 64 rfl 54 i0 _ 2 underlying64 hi0 hz0 (by simp [Value.cells]) hz1c h0z _ 1 _ rfl b (N*2) (splice C (i*2) X2) 54 h3.o.1 (fun _=>by simp) (by rw [HL3.o];have:=HNC.o;omega) ?_);intro Z w4 h4;go_wp2;go_ret;have hl2:(splice (splice C (i*2) X2) (N*2) Z).take (N*2)=C.take (i*2)++X2:=by
    exact t67
   refine ⟨_,rfl,fJ h4.o.2.1 HBB.o om_ HCM.o (by rw [length_splice _ _ _ (by rw [HL3.o,h4.o.1];have:=HNC.o;omega),HL3.o]) hl2, ?_,rfl⟩;exact bD (v:=.slice (some ⟨b,0,none⟩) N cap) (But.trans (But.drewN h3.o.2.1 0) (h4.o.2.2.1.mono (by have:=h3.o.2.2;simp at this;omega))) rfl
end schema
theorem t33{P:Prop}(h:P:=by
 go_enter func198,ntmps198;go_wp2_with (at_builtin;refine aO rfl _ _ 47 rfl base 52 i0 _ 5 40 underlying47 hi0 hz0 hz1 hz2 (by simp [Value.cells]) om_ _ i xs rfl HO.o (some ⟨g,goff,none⟩) 1 vc news rfl (by rw [HL.o]) (.inr ⟨_,rfl,HC.o⟩) H1.o HN2.o HN3.o HB.o ?_);intro v' w1 ho hg;have HO2:=hid ho;have HG2:=hid hg;rw [HOB.o] at HG2;clear ho hg;go_wp2;go_ret;exact ⟨_,rfl,HO2.o,HG2.o⟩):P:=h
namespace schema
open Go.RowKit rows
def mM (base:Nat) (ob:Option Nat) (n:Nat) (ys:List Value) (w:World) (e:Ending) (w':World):Prop:=∃v',e=.returned v'/\w'.ownsRow base 52 5 v' n ys/\w.grownBy w' ob
set_option maxRecDepth 20000 in
theorem ng (base n i g goff vc:Nat) (gC:List Value) (gt:TypeId) (v:Value) (xs news:List Value) (w:World) (hown:w.ownsRow base 52 5 v n xs) (hbase:base<=w.heap.size) (hi:i<=n)
  (hl:news.length=5) (hG:Block w g gt gC) (hgo:goff+5<=gC.length) (hgv:v.ownBlock≠some g) (hnews:∀j u,news[j]?=some u->gC[goff+j]?=some u) (h1:∀u∈news,u.oneCell'=true) (hx1:∀u∈xs,u.oneCell'=true) (hn:n<=1000):
  Calls prog 198 #[v,.int .i64 i,.slice (some ⟨g,goff,none⟩) 1 vc] w (mM base v.ownBlock (n+1) (xs.take (i*5)++(news++xs.drop (i*5))) w):=by
 obtain ⟨i0,hi0,hz0,hz1,hz2⟩:=dL;have hxl:=hown.1;have hcell:∀j u,news[j]?=some u->w.cell? ((⟨g,goff,none⟩:Addr).add j)=some u:=fun j u hj=>by rw [Addr.add_lit,hG.cell];exact hnews j u hj
 have b1:(i:Int)<=n:=by omega
 have b2:(n:Int)<=1000:=by omega
 by_cases hin:i=n
 ·subst hin;have e1:xs.take (i*5)=xs:=List.take_of_length_le om_;have e2:xs.drop (i*5)=[]:=List.drop_of_length_le om_;rw [e1,e2,List.append_nil];obtain ⟨bp,cp,rfl,hcp⟩:=aA hown;have HO:=hid hown;have HC:=hid hcell;have HN2:Hid (i+1<=maxLen):=by show _<=_;unfold maxLen;omega
  have HN3:Hid ((i+1)*40<=140737488355328):=by show _<=_;omega
  have HL:=hid hl;have H1:=hid h1;have HB:=hid hbase;obtain ⟨OB,hOB⟩:∃OB,(Value.slice bp i cp).ownBlock=OB:=⟨_,rfl⟩;have HOB:=hid hOB;rw [hOB];clear hOB hown hcell hxl hG hgo hnews h1 hx1 e1 e2 hl hbase hgv;by_cases hci:i=cp
  ·subst hci
   exact t33
  ·exact t33
 ·rcases hown.2 with ⟨rfl,h0⟩ | ⟨b,cap,cur,rfl,hbb,hB,hnc,hcm,hcs,htake⟩
  ·omega
  ·obtain ⟨C,rfl⟩:∃C:List Value,cur=C.toArray:=⟨cur.toList,by simp⟩;simp only [List.size_toArray] at hcs;have htk:C.take (n*5)=xs:=by simpa using htake
   have hbg:g≠b:=by intro h;subst h;exact hgv rfl
   have hX1:C.take (i*5)=xs.take (i*5):=by rw [<-htk,List.take_take,Nat.min_eq_left (Nat.mul_le_mul_right _ hi)]
   have hX2l:(xs.drop (i*5)).length=(n - i)*5:=by rw [List.length_drop,hxl,Nat.sub_mul]
   have hX2c:∀j u,(xs.drop (i*5))[j]?=some u->C[i*5+j]?=some u:=fun j u hj=>by
    rw [List.getElem?_drop,<-htk,List.getElem?_take] at hj;split at hj
    ·exact hj
    ·cases hj
   have hX21:∀u∈xs.drop (i*5),u.oneCell'=true:=fun u hu=>hx1 u (List.mem_of_mem_drop hu)
   obtain ⟨X2,hX2⟩:∃X2,xs.drop (i*5)=X2:=⟨_,rfl⟩;rw [hX2] at hX2l hX2c hX21 ⊢;rw [<-hX1];have hlt:i<n:=by omega
   have c1:(i:Int)<n:=by omega
   have c2:¬((i:Int)=(n:Int)):=by omega
   have c3:¬(cap=i):=by omega
   have hcm':cap<=9223372036854775807:=by unfold maxLen at hcm;omega
   have w1:IntKind.i64.wrap ((i:Int)+1)=(i:Int)+1:=by rw [IntKind.wrap_i64];omega
   have w2:IntKind.i64.wrap ((n:Int)+1)=(n:Int)+1:=by rw [IntKind.wrap_i64];omega
   have t1:((i:Int)+1).toNat=i+1:=by omega
   have t2:((n:Int)+1).toNat=n+1:=by omega
   have p1:(0:Int)<=(i:Int)+1:=by omega
   have p2:(i:Int)+1<=(n:Int)+1:=by omega
   have hBB:Block w b 52 C:=hB;have hOB:(Value.slice (some ⟨b,0,none⟩) n cap).ownBlock=some b:=rfl;rw [hOB];clear hOB;by_cases hroom:n+1<=cap
   ·have c4:¬((cap:Int)<(n:Int)+1):=by omega
    have c5:¬(cap=i+1):=by omega
    have c6:(n:Int)+1<=(cap:Int):=by omega
    have hov:∀lb cb,(callFunc 221 #[.slice (some ⟨g,goff,none⟩) 1 vc,.slice (some ⟨b,(i+1)*5,none⟩) lb cb]).run prog w=.ok (.value (.bool false)) w:=fun lb cb=>by
     rw [run_callFunc_extern func221 kr_ kr_ kr_ (e:=Extern.SlicesOverlaps.overlaps #[47,47] #[4]) kr_,
      ji w 47 4 52 underlying47 i0 hi0 ⟨g,goff,none⟩ ⟨b,(i+1)*5,none⟩ 1 vc lb cb hbg gt 52 gC C hG hBB (by intro h;subst h;simp at hcs;omega)]
     rfl
    have HB:=hid hBB;have HG:=hid hG;have HCS:=hid hcs;have HL:=hid hl;have HX2l:=hid hX2l;have HX2c:=hid hX2c;have HX21:=hid hX21;have H1:=hid h1;have HNW:=hid hnews;have HGO:=hid hgo;have HCM:=hid hcm;have HBB:=hid hbb;clear hown hcell hxl hG hgo hnews h1 hx1 hl hbase hgv htake htk hX1 hX2 hX2l hX2c hX21 hB hBB hcs hcm hbb;go_enter func198,ntmps198;go_wp2_with (simp only [hov]);refine tail.region 8 kr_ kr_ ?_;simp only [List.take_succ_cons,List.take_zero,List.drop_succ_cons,List.drop_zero];repeat (go_big_quiet_step (fail))
    refine wpQuiet_nil ?_;rintro _ ⟨nq,rfl⟩;refine aQ rfl _ _ 47 47 rfl 52 i0 5 underlying47 hi0 hz1 _ _ _ _ _ _ rfl rfl b ((i+1)*5) C 52 (HB.o.drewN nq) (n - i) (by simp only [Nat.min_def];split <;> omega) X2 HX2l.o (fun _=>⟨rfl,⟨b,i*5,none⟩,rfl,fun j u hj=>by rw [Addr.add_lit,(HB.o.drewN nq).cell];exact HX2c.o j u hj⟩) (by rw [HX2l.o,HCS.o,<-Nat.add_mul];exact Nat.mul_le_mul_right _ om_) HX21.o ?_;intro w3 h3;have hG3:Block w3 g gt gC:=HG.o.but h3.o.2.1 HG.o.lt hbg;have HG3:=hid hG3;have hs3:=h3.o.2.2;clear hG3;go_wp2_with (refine aQ rfl _ _ 47 47 rfl 52 i0 5 underlying47 hi0 hz1 _ _ _ _ _ _ rfl rfl b (i*5) (splice C ((i+1)*5) X2) 52 h3.o.1 1 (by simp only [Nat.min_def];split <;> omega) news (by rw [HL.o]) (fun _=>⟨rfl,⟨g,goff,none⟩,rfl,fun j u hj=>by rw [Addr.add_lit,HG3.o.cell];exact HNW.o j u hj⟩) (by rw [length_splice _ _ _ (by rw [HX2l.o,HCS.o,<-Nat.add_mul];exact Nat.mul_le_mul_right _ om_),HL.o,HCS.o];exact (by omega:i*5+5<=cap*5)) H1.o ?_);intro w4 h4;go_wp2;go_ret;have hl2:=two C (i*5) news X2 (by rw [HL.o,HX2l.o,HCS.o];omega);rw [HL.o,HX2l.o,show i*5+5=(i+1)*5 by omega,show (i+1)*5+(n - i)*5=(n+1)*5 by omega,List.append_assoc] at hl2;refine ⟨_,rfl,fJ h4.o.1 HBB.o hroom HCM.o ?_ hl2, ?_⟩
    ·rw [length_splice,length_splice,HCS.o]
     ·rw [HX2l.o,HCS.o];omega
     ·rw [length_splice,HL.o,HCS.o]
      ·omega
      ·rw [HX2l.o,HCS.o];omega
    ·have e3:=h3.o.2.1;have e4:=h4.o.2.1;exact bD (v:=.slice (some ⟨b,0,none⟩) n cap) (But.trans (But.drewN e3 0) e4) rfl
   ·obtain rfl:n=cap:=by omega
    have c4:(n:Int)<(n:Int)+1:=by omega
    have k1:IntKind.i64.wrap ((n:Int)+1 - (i:Int))=(n:Int)+1 - (i:Int):=by rw [IntKind.wrap_i64];omega
    have HB:=hid hBB;have HG:=hid hG;have HCS:=hid hcs;have HL:=hid hl;have HX2l:=hid hX2l;have HX2c:=hid hX2c;have HX21:=hid hX21;have H1:=hid h1;have HNW:=hid hnews;have HGO:=hid hgo;have HCM:=hid hcm;have HBB:=hid hbb;have HBW:=hid hbase;have hsz0:0<5:=by omega
    have HN3:Hid ((i+(n+1 - i))*40<=140737488355328):=by show _<=_;omega
    have HN2:Hid (i+(n+1 - i)<=maxLen):=by show _<=_;unfold maxLen;omega
    have HF0:Hid (i*5<=C.length):=by show _<=_;rw [hcs];omega
    clear hown hcell hxl hG hgo hnews h1 hx1 hl hbase hgv htake htk hX1 hX2 hX2l hX2c hX21 hB hBB hcs hcm hbb;go_enter func198,ntmps198;go_wp2_with (at_builtin;refine fB rfl _ _ 47 3 rfl 52 i0 _ 5 40 underlying47 underlying3 hi0 hz0 hz1 hz2 (by simp [Value.cells]) hsz0 b i n rfl (n+1 - i) _ rfl om_ om_ C HB.o HF0.o om_ om_ HN3.o HN2.o ?_);intro G R w3 h3;have hs3:w.heap.size<w3.heap.size:=h3.o.2.2.2.2.2;have g1:¬(G=i):=by have:=h3.o.2.2.1;omega
    have g2:¬(G=i+1):=by have:=h3.o.2.2.1;omega
    have g3:i+(n+1 - i)=n+1:=by omega
    have HG1:=hid h3.o.2.2.1;have HG2:=hid h3.o.2.2.2.1;have HRl:=hid h3.o.2.1;have HLT:=hid HB.o.lt;have HLG:=hid HG.o.lt;have HB3:Hid (Block w3 b 52 C):=hid (HB.o.later h3.o.2.2.2.2.1);have HG3:Hid (Block w3 g gt gC):=hid (HG.o.later h3.o.2.2.2.2.1);have HCL:Hid ((C.take (i*5)++R).length=G*5):=by
     show _=_
     rw [List.length_append,List.length_take,Nat.min_eq_left HF0.o,HRl.o,<-Nat.add_mul];congr 1;have:=HG1.o;omega
    rw [g3];go_wp2_with (refine aQ rfl _ _ 47 47 rfl 52 i0 5 underlying47 hi0 hz1 _ _ _ _ _ _ rfl rfl w.heap.size (i*5) (C.take (i*5)++R) 52 h3.o.1 1 (by simp only [Nat.min_def];split <;> omega) news (by rw [HL.o]) (fun _=>⟨rfl,⟨g,goff,none⟩,rfl,fun j u hj=>by rw [Addr.add_lit,HG3.o.cell];exact HNW.o j u hj⟩) (by rw [HCL.o,HL.o];have:=HG1.o;omega) H1.o ?_);intro w4 h4;have HB4:Hid (Block w4 b 52 C):=hid (HB3.o.but h4.o.2.1 HB3.o.lt (by have:=HLT.o;omega));have hs4:=h4.o.2.2;have HL4:Hid ((splice (C.take (i*5)++R) (i*5) news).length=G*5):=hid (by rw [length_splice _ _ _ (by rw [HCL.o,HL.o];have:=HG1.o;omega),HCL.o]);go_wp2;refine tail.region 8 kr_ kr_ ?_;simp only [List.take_succ_cons,List.take_zero,List.drop_succ_cons,List.drop_zero];repeat (go_big_quiet_step (fail))
    refine wpQuiet_nil ?_;rintro _ ⟨nq,rfl⟩;refine aQ rfl _ _ 47 47 rfl 52 i0 5 underlying47 hi0 hz1 _ _ _ _ _ _ rfl rfl w.heap.size ((i+1)*5) (splice (C.take (i*5)++R) (i*5) news) 52 (h4.o.1.drewN nq) (n - i) (by simp only [Nat.min_def];split <;> omega) X2 HX2l.o (fun _=>⟨rfl,⟨b,i*5,none⟩,rfl,fun j u hj=>by rw [Addr.add_lit,(HB4.o.drewN nq).cell];exact HX2c.o j u hj⟩) (by rw [HL4.o,HX2l.o];have:=HG1.o;omega) HX21.o ?_;intro w5 h5;go_wp2;go_ret;have hl2:=two' (C.take (i*5)++R) (i*5) news X2 (by rw [HL.o,HX2l.o,HCL.o];have:=HG1.o;omega);rw [HL.o,HX2l.o,show i*5+5=(i+1)*5 by omega,show (i+1)*5+(n - i)*5=(n+1)*5 by omega,List.append_assoc,List.take_left' (by rw [List.length_take,Nat.min_eq_left HF0.o])] at hl2;refine ⟨_,rfl,fJ h5.o.1 HBW.o (by have:=HG1.o;omega) HG2.o ?_ hl2, ?_⟩
    ·rw [length_splice,HL4.o];rw [HX2l.o,HL4.o];have:=HG1.o;omega
    ·exact dw (h3.o.2.2.2.2.1.trans ((But.trans (But.drewN h4.o.2.1 0) (by have:=h5.o.2.1;exact this.mono (by simp [hs4]))).below om_ (Nat.le_refl _)))
end schema
theorem t68{P:Prop}(h:P:=by
 rw [eU _ _ _ _ (Nat.le_refl _) (by rw [HL3.o];have:=HNC.o;omega)];have:=eX C (i*5) X2 (by rw [HCS.o];have:=HNC.o;omega);rw [HX2l.o,<-Nat.add_mul,g3] at this;exact this):P:=h
namespace schema
open Go.RowKit rows
def Fv (base:Nat) (ob:Option Nat) (n:Nat) (ys:List Value) (w:World) (e:Ending) (w':World):Prop:=∃v',e=.returned v'/\w'.ownsRow base 52 5 v' n ys/\w.grownBy w' ob/\v'.ownBlock=ob
set_option maxRecDepth 20000 in
theorem rE (base N i:Nat) (v:Value) (xs:List Value) (w:World) (hown:w.ownsRow base 52 5 v (N+1) xs) (hi:i<=N) (hx1:∀u∈xs,u.oneCell'=true) (hn:N<=1000):
  Calls prog 199 #[v,.int .i64 i,.int .i64 ((i:Int)+1)] w (Fv base v.ownBlock N (xs.take (i*5)++xs.drop ((i+1)*5)) w):=by
 obtain ⟨i0,hi0,hz0,hz1,hz2⟩:=dL;have hxl:=hown.1;rcases hown.2 with ⟨_,h0⟩ | ⟨b,cap,cur,rfl,hbb,hB,hnc,hcm,hcs,htake⟩
 ·omega
 ·obtain ⟨C,rfl⟩:∃C:List Value,cur=C.toArray:=⟨cur.toList,by simp⟩;simp only [List.size_toArray] at hcs;have htk:C.take ((N+1)*5)=xs:=by simpa using htake
  have hX1:C.take (i*5)=xs.take (i*5):=by rw [<-htk,List.take_take,Nat.min_eq_left (Nat.mul_le_mul_right _ om_)]
  have hX2l:(xs.drop ((i+1)*5)).length=(N - i)*5:=by rw [List.length_drop,hxl,<-Nat.sub_mul];congr 1;omega
  have hX2c:∀j u,(xs.drop ((i+1)*5))[j]?=some u->C[(i+1)*5+j]?=some u:=fun j u hj=>by
   rw [List.getElem?_drop,<-htk,List.getElem?_take] at hj;split at hj
   ·exact hj
   ·cases hj
  have hX21:∀u∈xs.drop ((i+1)*5),u.oneCell'=true:=fun u hu=>hx1 u (List.mem_of_mem_drop hu)
  obtain ⟨X2,hX2⟩:∃X2,xs.drop ((i+1)*5)=X2:=⟨_,rfl⟩;rw [hX2] at hX2l hX2c hX21 ⊢;rw [<-hX1];have hOB:(Value.slice (some ⟨b,0,none⟩) (N+1) cap).ownBlock=some b:=rfl;rw [hOB];clear hOB;have c1:(i:Int)<=N:=by omega
  have c2:¬((i:Int)=(i:Int)+1):=by omega
  have c3:¬(cap=N):=by omega
  have c4:¬(cap=i):=by omega
  have hcm':cap<=9223372036854775807:=by unfold maxLen at hcm;omega
  have b2:(N:Int)<=1000:=by omega
  have t1:((i:Int)+1).toNat=i+1:=by omega
  have t2:((N:Int)+1).toNat=N+1:=by omega
  have p1:(0:Int)<=(i:Int)+1:=by omega
  have hBB:Block w b 52 C:=hB;have hz1c:∀u∈(Value.cells (.agg #[.int .i64 0,.int .i64 0,.int .i64 0,.int .i64 0,.int .i64 0])).toList,u.oneCell'=true:=by simp [Value.cells];try decide
  have h0z:0<5:=by omega
  have g3:i+(N - i)=N:=by omega
  have HB:=hid hBB;have HCS:=hid hcs;have HX2l:=hid hX2l;have HX2c:=hid hX2c;have HX21:=hid hX21;have HCM:=hid hcm;have HBB:=hid hbb;have HNC:Hid ((N+1)*5<=cap*5):=Nat.mul_le_mul_right _ hnc;clear hown hxl hx1 htake htk hX1 hX2 hX2l hX2c hX21 hB hBB hcs hcm hbb;by_cases c5:cap=i+1
  ·obtain rfl:i=N:=by omega
   subst c5;go_enter func199,ntmps199;go_wp2;refine tail.region 6 kr_ kr_ ?_;simp only [List.take_succ_cons,List.take_zero,List.drop_succ_cons,List.drop_zero];repeat (go_big_quiet_step (fail))
   refine wpQuiet_nil ?_;rintro _ ⟨nq,rfl⟩;refine dF rfl _ _ 47 rfl 52 i0 5 underlying47 hi0 hz1 b _ _ rfl C (HB.o.drewN nq) _ 0 _ rfl X2 (by have:=HX2l.o;simpa using this) (fun h=>absurd h om_) HX21.o om_ (by rw [HX2l.o,HCS.o];have:=HNC.o;omega) ?_;intro w3 h3;have HL3:Hid ((splice C (i*5) X2).length=(i+1)*5):=hid (by rw [length_splice _ _ _ (by rw [HX2l.o,HCS.o];have:=HNC.o;omega),HCS.o]);go_wp2_with (refine cu rfl _ 47 rfl 52 i0 _ 5 underlying47 hi0 hz0 (by simp [Value.cells]) hz1c h0z _ 1 _ rfl b (i*5) (splice C (i*5) X2) 52 h3.o.1 (fun _=>by simp) (by rw [HL3.o];have:=HNC.o;omega) ?_);intro Z w4 h4;go_wp2;go_ret;have hl2:(splice (splice C (i*5) X2) (i*5) Z).take (i*5)=C.take (i*5)++X2:=by
    exact t68
   refine ⟨_,rfl,fJ h4.o.2.1 HBB.o om_ HCM.o (by rw [length_splice _ _ _ (by rw [HL3.o,h4.o.1];have:=HNC.o;omega),HL3.o]) hl2, ?_,rfl⟩;exact bD (v:=.slice (some ⟨b,0,none⟩) i (i+1)) (But.trans (But.drewN h3.o.2.1 0) (h4.o.2.2.1.mono (by have:=h3.o.2.2;simp at this;omega))) rfl
  ·go_enter func199,ntmps199;go_wp2;refine tail.region 6 kr_ kr_ ?_;simp only [List.take_succ_cons,List.take_zero,List.drop_succ_cons,List.drop_zero];repeat (go_big_quiet_step (fail))
   refine wpQuiet_nil ?_;rintro _ ⟨nq,rfl⟩;refine dF rfl _ _ 47 rfl 52 i0 5 underlying47 hi0 hz1 b _ _ rfl C (HB.o.drewN nq) _ (N - i) _ (by rfl) X2 HX2l.o (fun h=>⟨⟨b,(i+1)*5,none⟩,rfl,fun j u hj=>by rw [Addr.add_lit,(HB.o.drewN nq).cell];exact HX2c.o j u hj⟩) HX21.o om_ (by rw [HX2l.o,HCS.o];have:=HNC.o;omega) ?_;intro w3 h3;rw [g3];have HL3:Hid ((splice C (i*5) X2).length=cap*5):=hid (by rw [length_splice _ _ _ (by rw [HX2l.o,HCS.o];have:=HNC.o;omega),HCS.o]);go_wp2_with (refine cu rfl _ 47 rfl 52 i0 _ 5 underlying47 hi0 hz0 (by simp [Value.cells]) hz1c h0z _ 1 _ rfl b (N*5) (splice C (i*5) X2) 52 h3.o.1 (fun _=>by simp) (by rw [HL3.o];have:=HNC.o;omega) ?_);intro Z w4 h4;go_wp2;go_ret;have hl2:(splice (splice C (i*5) X2) (N*5) Z).take (N*5)=C.take (i*5)++X2:=by
    exact t68
   refine ⟨_,rfl,fJ h4.o.2.1 HBB.o om_ HCM.o (by rw [length_splice _ _ _ (by rw [HL3.o,h4.o.1];have:=HNC.o;omega),HL3.o]) hl2, ?_,rfl⟩;exact bD (v:=.slice (some ⟨b,0,none⟩) N cap) (But.trans (But.drewN h3.o.2.1 0) (h4.o.2.2.1.mono (by have:=h3.o.2.2;simp at this;omega))) rfl
end schema
end Go.Proofs.YtogkgbnpodojjaaGreat
