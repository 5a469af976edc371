/- Contracts and lemmas that claims of this seat share: ReplaceF. Each says its own conditions. -/
import Derived.Test.YtogkgbnpodojjaaGreatCmWord
import Derived.Test.YtogkgbnpodojjaaGreatCmH
set_option linter.unusedVariables false
namespace Go.Proofs.YtogkgbnpodojjaaGreat
open Go.Proofs.Tryz
theorem t77{P:Prop}(h:P:=by
 have e1:=h5.o.1;have e2:=h5.o.2.1;obtain rfl:Z=[]:=List.eq_nil_of_length_eq_zero (by simpa using e1);simpa [splice] using e2):P:=h
theorem t72{P:Prop}(h:P:=by
 clear ho hg;go_wp2;go_ret;have e2:X2=[]:=List.eq_nil_of_length_eq_zero (by rw [HX2l.o];omega);subst e2;refine ⟨_,rfl,by simpa using HO.o,HGR.o⟩):P:=h
theorem t71{P:Prop}(h:P:=by
 rw [show (i+1)*5=i*5+5 by omega,<-List.drop_drop,e,List.drop_append_of_le_length (by rw [HL.o];omega),List.drop_of_length_le (by rw [HL.o];omega),HL.o];simp):P:=h
namespace schema
open Go.RowKit rows
set_option maxHeartbeats 1600000 in
set_option maxRecDepth 20000 in
theorem wo (base N i:Nat) (v:Value) (xs:List Value) (w:World) (hown:w.ownsRow base 52 5 v (N+1) xs) (hbase:base<=w.heap.size) (hi:i=N)
  (hx1:∀u∈xs,u.oneCell'=true) (hn:N<=1000):
  Calls prog 200 #[v,.int .i64 i,.int .i64 ((i:Int)+1),.slice none 0 0] w (mM base v.ownBlock (N+0) (xs.take (i*5)++([]++xs.drop ((i+1)*5))) w):=by
 obtain ⟨i0,hi0,hz0,hz1,hz2⟩:=dL;have hxl:=hown.1;rcases hown.2 with ⟨_,h0⟩ | ⟨b,cap,cur,rfl,hbb,hB,hnc,hcm,hcs,htake⟩
 ·omega
 ·obtain ⟨C,rfl⟩:∃C:List Value,cur=C.toArray:=⟨cur.toList,by simp⟩;simp only [List.size_toArray] at hcs;have htk:C.take ((N+1)*5)=xs:=by simpa using htake
  have hX1:C.take (i*5)=xs.take (i*5):=by rw [<-htk,List.take_take,Nat.min_eq_left (Nat.mul_le_mul_right _ om_)]
  have hX2l:(xs.drop ((i+1)*5)).length=(N - i)*5:=by rw [List.length_drop,hxl,<-Nat.sub_mul];congr 1;omega
  have hX2c:∀j u,(xs.drop ((i+1)*5))[j]?=some u->C[(i+1)*5+j]?=some u:=fun j u hj=>by
   rw [List.getElem?_drop,<-htk,List.getElem?_take] at hj;split at hj
   ·exact hj
   ·cases hj
  have hX21:∀u∈xs.drop ((i+1)*5),u.oneCell'=true:=fun u hu=>hx1 u (List.mem_of_mem_drop hu)
  obtain ⟨X2,hX2⟩:∃X2,xs.drop ((i+1)*5)=X2:=⟨_,rfl⟩;rw [hX2] at hX2l hX2c hX21 ⊢;rw [<-hX1];have hOB:(Value.slice (some ⟨b,0,none⟩) (N+1) cap).ownBlock=some b:=rfl;rw [hOB];clear hOB;have c1:(i:Int)<=N:=by omega
  have c2:¬((i:Int)=(i:Int)+1):=by omega
  have c3:¬(cap=N):=by omega
  have c4:¬(cap=i):=by omega
  have hcm':cap<=9223372036854775807:=by unfold maxLen at hcm;omega
  have b2:(N:Int)<=1000:=by omega
  have t1:((i:Int)+1).toNat=i+1:=by omega
  have t2:((N:Int)+1).toNat=N+1:=by omega
  have p1:(0:Int)<=(i:Int)+1:=by omega
  have hBB:Block w b 52 C:=hB;have hz1c:∀u∈(Value.cells (.agg #[.int .i64 0,.int .i64 0,.int .i64 0,.int .i64 0,.int .i64 0])).toList,u.oneCell'=true:=by simp [Value.cells];try decide
  have h0z:0<5:=by omega
  have HB:=hid hBB;have HCS:=hid hcs;have HX2l:=hid hX2l;have HX2c:=hid hX2c;have HX21:=hid hX21;have HCM:=hid hcm;have HBB:=hid hbb;have HBW:=hid hbase;have HNC:Hid ((N+1)*5<=cap*5):=Nat.mul_le_mul_right _ hnc;clear hown hxl hx1 htake htk hX1 hX2 hX2l hX2c hX21 hB hBB hcs hcm hbb hbase;subst hi;go_enter func200,ntmps200;go_wp2_with (at_builtin;refine dF rfl _ _ 47 rfl 52 i0 5 underlying47 hi0 hz1 b _ _ rfl C HB.o _ 0 _ rfl [] rfl (fun h=>absurd h om_) si_ om_ (by rw [HCS.o];have:=HNC.o;simp;omega) ?_);intro w3 h3;have hB3:Block w3 b 52 C:=by simpa [splice] using h3.o.1
  have HB3:=hid hB3;clear hB3;go_wp2_with (refine cu rfl _ 47 rfl 52 i0 _ 5 underlying47 hi0 hz0 (by simp [Value.cells]) hz1c h0z _ 1 _ rfl b (i*5) C 52 HB3.o (fun _=>by simp) (by rw [HCS.o];have:=HNC.o;omega) ?_);intro Z w4 h4;go_wp2;go_ret;have e2:X2=[]:=List.eq_nil_of_length_eq_zero (by rw [HX2l.o];omega);subst e2;refine ⟨_,rfl,fJ h4.o.2.1 HBB.o om_ HCM.o (by rw [length_splice _ _ _ (by rw [HCS.o,h4.o.1];have:=HNC.o;omega),HCS.o]) (by have:=eU C (i*5) Z (i*5) (Nat.le_refl _) (by rw [HCS.o];have:=HNC.o;omega);simpa using this), ?_⟩;exact bD (v:=.slice (some ⟨b,0,none⟩) i cap) (But.trans h3.o.2.1 (h4.o.2.2.1.mono (by have:=h3.o.2.2;omega))) rfl
set_option maxHeartbeats 1600000 in
set_option maxRecDepth 20000 in
theorem wE (base N i g vc:Nat) (gC:List Value) (gt:TypeId) (v:Value) (xs news:List Value) (w:World) (hown:w.ownsRow base 52 5 v (N+1) xs) (hbase:base<=w.heap.size) (hi:i=N)
  (hl:news.length=1*5) (hG:Block w g gt gC) (hgo:1*5<=gC.length) (hgv:v.ownBlock≠some g) (hnews:∀(j:Nat) (u:Value),news[j]?=some u->gC[j]?=some u) (h1:∀u∈news,u.oneCell'=true) (hx1:∀u∈xs,u.oneCell'=true) (hn:N<=1000):
  Calls prog 200 #[v,.int .i64 i,.int .i64 ((i:Int)+1),.slice (some ⟨g,0,none⟩) 1 vc] w (mM base v.ownBlock (N+1) (xs.take (i*5)++(news++xs.drop ((i+1)*5))) w):=by
 obtain ⟨i0,hi0,hz0,hz1,hz2⟩:=dL;have hxl:=hown.1;rcases hown.2 with ⟨_,h0⟩ | ⟨b,cap,cur,rfl,hbb,hB,hnc,hcm,hcs,htake⟩
 ·omega
 ·obtain ⟨C,rfl⟩:∃C:List Value,cur=C.toArray:=⟨cur.toList,by simp⟩;simp only [List.size_toArray] at hcs;have htk:C.take ((N+1)*5)=xs:=by simpa using htake
  have hbg:g≠b:=by intro h;subst h;exact hgv rfl
  have hX1:C.take (i*5)=xs.take (i*5):=by rw [<-htk,List.take_take,Nat.min_eq_left (Nat.mul_le_mul_right _ om_)]
  have hX2l:(xs.drop ((i+1)*5)).length=(N - i)*5:=by rw [List.length_drop,hxl,<-Nat.sub_mul];congr 1;omega
  have hX2c:∀j u,(xs.drop ((i+1)*5))[j]?=some u->C[(i+1)*5+j]?=some u:=fun j u hj=>by
   rw [List.getElem?_drop,<-htk,List.getElem?_take] at hj;split at hj
   ·exact hj
   ·cases hj
  have hX21:∀u∈xs.drop ((i+1)*5),u.oneCell'=true:=fun u hu=>hx1 u (List.mem_of_mem_drop hu)
  obtain ⟨X2,hX2⟩:∃X2,xs.drop ((i+1)*5)=X2:=⟨_,rfl⟩;rw [hX2] at hX2l hX2c hX21 ⊢;rw [<-hX1];have hOB:(Value.slice (some ⟨b,0,none⟩) (N+1) cap).ownBlock=some b:=rfl;rw [hOB];clear hOB;have c1:(i:Int)<=N:=by omega
  have c2:¬((i:Int)=(i:Int)+1):=by omega
  have c3:¬(cap=N):=by omega
  have c4:¬(cap=i):=by omega
  have hcm':cap<=9223372036854775807:=by unfold maxLen at hcm;omega
  have b2:(N:Int)<=1000:=by omega
  have t1:((i:Int)+1).toNat=i+1:=by omega
  have t2:((N:Int)+1).toNat=N+1:=by omega
  have p1:(0:Int)<=(i:Int)+1:=by omega
  have hBB:Block w b 52 C:=hB;have hz1c:∀u∈(Value.cells (.agg #[.int .i64 0,.int .i64 0,.int .i64 0,.int .i64 0,.int .i64 0])).toList,u.oneCell'=true:=by simp [Value.cells];try decide
  have h0z:0<5:=by omega
  have HB:=hid hBB;have HCS:=hid hcs;have HX2l:=hid hX2l;have HX2c:=hid hX2c;have HX21:=hid hX21;have HCM:=hid hcm;have HBB:=hid hbb;have HBW:=hid hbase;have HNC:Hid ((N+1)*5<=cap*5):=Nat.mul_le_mul_right _ hnc;have HG:=hid hG;have HL:=hid hl;have HNW:=hid hnews;have HGO:=hid hgo;have H1:=hid h1;have HLG:=hid hG.lt;clear hown hxl hx1 htake htk hX1 hX2 hX2l hX2c hX21 hB hBB hcs hcm hbb hbase hG hl hnews hgo h1 hgv;subst hi;go_enter func200,ntmps200;go_wp2_with (at_builtin;refine aO rfl _ _ 47 rfl base 52 i0 _ 5 40 underlying47 hi0 hz0 hz1 hz2 (by simp [Value.cells]) om_ _ i (C.take (i*5)) rfl (fJ HB.o HBB.o om_ HCM.o HCS.o rfl) (some ⟨g,0,none⟩) 1 vc news rfl HL.o (.inr ⟨_,rfl,fun j u hj=>by rw [Addr.add_lit,Nat.zero_add,HG.o.cell];exact HNW.o j u hj⟩) H1.o (by unfold maxLen;omega) om_ HBW.o ?_);intro v' w3 ho hg;obtain ⟨q,qc,rfl,hqc⟩:=aA ho;have HO:=hid ho;have HGR:=hid hg;have d1:decide ((i:Int)+1<(i:Int)+1)=false:=by simp
  have d2:¬((i:Int)+1<(i:Int)+1):=by omega
  exact t72
set_option maxHeartbeats 1600000 in
set_option maxRecDepth 20000 in
theorem wG (base N i g vc:Nat) (gC:List Value) (gt:TypeId) (v:Value) (xs news:List Value) (w:World) (hown:w.ownsRow base 52 5 v (N+1) xs) (hbase:base<=w.heap.size) (hi:i=N)
  (hl:news.length=2*5) (hG:Block w g gt gC) (hgo:2*5<=gC.length) (hgv:v.ownBlock≠some g) (hnews:∀(j:Nat) (u:Value),news[j]?=some u->gC[j]?=some u) (h1:∀u∈news,u.oneCell'=true) (hx1:∀u∈xs,u.oneCell'=true) (hn:N<=1000):
  Calls prog 200 #[v,.int .i64 i,.int .i64 ((i:Int)+1),.slice (some ⟨g,0,none⟩) 2 vc] w (mM base v.ownBlock (N+2) (xs.take (i*5)++(news++xs.drop ((i+1)*5))) w):=by
 obtain ⟨i0,hi0,hz0,hz1,hz2⟩:=dL;have hxl:=hown.1;rcases hown.2 with ⟨_,h0⟩ | ⟨b,cap,cur,rfl,hbb,hB,hnc,hcm,hcs,htake⟩
 ·omega
 ·obtain ⟨C,rfl⟩:∃C:List Value,cur=C.toArray:=⟨cur.toList,by simp⟩;simp only [List.size_toArray] at hcs;have htk:C.take ((N+1)*5)=xs:=by simpa using htake
  have hbg:g≠b:=by intro h;subst h;exact hgv rfl
  have hX1:C.take (i*5)=xs.take (i*5):=by rw [<-htk,List.take_take,Nat.min_eq_left (Nat.mul_le_mul_right _ om_)]
  have hX2l:(xs.drop ((i+1)*5)).length=(N - i)*5:=by rw [List.length_drop,hxl,<-Nat.sub_mul];congr 1;omega
  have hX2c:∀j u,(xs.drop ((i+1)*5))[j]?=some u->C[(i+1)*5+j]?=some u:=fun j u hj=>by
   rw [List.getElem?_drop,<-htk,List.getElem?_take] at hj;split at hj
   ·exact hj
   ·cases hj
  have hX21:∀u∈xs.drop ((i+1)*5),u.oneCell'=true:=fun u hu=>hx1 u (List.mem_of_mem_drop hu)
  obtain ⟨X2,hX2⟩:∃X2,xs.drop ((i+1)*5)=X2:=⟨_,rfl⟩;rw [hX2] at hX2l hX2c hX21 ⊢;rw [<-hX1];have hOB:(Value.slice (some ⟨b,0,none⟩) (N+1) cap).ownBlock=some b:=rfl;rw [hOB];clear hOB;have c1:(i:Int)<=N:=by omega
  have c2:¬((i:Int)=(i:Int)+1):=by omega
  have c3:¬(cap=N):=by omega
  have c4:¬(cap=i):=by omega
  have hcm':cap<=9223372036854775807:=by unfold maxLen at hcm;omega
  have b2:(N:Int)<=1000:=by omega
  have t1:((i:Int)+1).toNat=i+1:=by omega
  have t2:((N:Int)+1).toNat=N+1:=by omega
  have p1:(0:Int)<=(i:Int)+1:=by omega
  have hBB:Block w b 52 C:=hB;have hz1c:∀u∈(Value.cells (.agg #[.int .i64 0,.int .i64 0,.int .i64 0,.int .i64 0,.int .i64 0])).toList,u.oneCell'=true:=by simp [Value.cells];try decide
  have h0z:0<5:=by omega
  have HB:=hid hBB;have HCS:=hid hcs;have HX2l:=hid hX2l;have HX2c:=hid hX2c;have HX21:=hid hX21;have HCM:=hid hcm;have HBB:=hid hbb;have HBW:=hid hbase;have HNC:Hid ((N+1)*5<=cap*5):=Nat.mul_le_mul_right _ hnc;have HG:=hid hG;have HL:=hid hl;have HNW:=hid hnews;have HGO:=hid hgo;have H1:=hid h1;have HLG:=hid hG.lt;clear hown hxl hx1 htake htk hX1 hX2 hX2l hX2c hX21 hB hBB hcs hcm hbb hbase hG hl hnews hgo h1 hgv;subst hi;go_enter func200,ntmps200;go_wp2_with (at_builtin;refine aO rfl _ _ 47 rfl base 52 i0 _ 5 40 underlying47 hi0 hz0 hz1 hz2 (by simp [Value.cells]) om_ _ i (C.take (i*5)) rfl (fJ HB.o HBB.o om_ HCM.o HCS.o rfl) (some ⟨g,0,none⟩) 2 vc news rfl HL.o (.inr ⟨_,rfl,fun j u hj=>by rw [Addr.add_lit,Nat.zero_add,HG.o.cell];exact HNW.o j u hj⟩) H1.o (by unfold maxLen;omega) om_ HBW.o ?_);intro v' w3 ho hg;obtain ⟨q,qc,rfl,hqc⟩:=aA ho;have HO:=hid ho;have HGR:=hid hg;have d1:decide ((i:Int)+2<(i:Int)+1)=false:=by simp
  have d2:¬((i:Int)+2<(i:Int)+1):=by omega
  exact t72
set_option maxHeartbeats 1600000 in
set_option maxRecDepth 20000 in
theorem wu (base N i:Nat) (v:Value) (xs:List Value) (w:World) (hown:w.ownsRow base 52 5 v (N+1) xs) (hbase:base<=w.heap.size) (hi:i<N)
  (hx1:∀u∈xs,u.oneCell'=true) (hn:N<=1000):
  Calls prog 200 #[v,.int .i64 i,.int .i64 ((i:Int)+1),.slice none 0 0] w (mM base v.ownBlock (N+0) (xs.take (i*5)++([]++xs.drop ((i+1)*5))) w):=by
 obtain ⟨i0,hi0,hz0,hz1,hz2⟩:=dL;have hxl:=hown.1;rcases hown.2 with ⟨_,h0⟩ | ⟨b,cap,cur,rfl,hbb,hB,hnc,hcm,hcs,htake⟩
 ·omega
 ·obtain ⟨C,rfl⟩:∃C:List Value,cur=C.toArray:=⟨cur.toList,by simp⟩;simp only [List.size_toArray] at hcs;have htk:C.take ((N+1)*5)=xs:=by simpa using htake
  have hX1:C.take (i*5)=xs.take (i*5):=by rw [<-htk,List.take_take,Nat.min_eq_left (Nat.mul_le_mul_right _ om_)]
  have hX2l:(xs.drop ((i+1)*5)).length=(N - i)*5:=by rw [List.length_drop,hxl,<-Nat.sub_mul];congr 1;omega
  have hX2c:∀j u,(xs.drop ((i+1)*5))[j]?=some u->C[(i+1)*5+j]?=some u:=fun j u hj=>by
   rw [List.getElem?_drop,<-htk,List.getElem?_take] at hj;split at hj
   ·exact hj
   ·cases hj
  have hX21:∀u∈xs.drop ((i+1)*5),u.oneCell'=true:=fun u hu=>hx1 u (List.mem_of_mem_drop hu)
  obtain ⟨X2,hX2⟩:∃X2,xs.drop ((i+1)*5)=X2:=⟨_,rfl⟩;rw [hX2] at hX2l hX2c hX21 ⊢;rw [<-hX1];have hOB:(Value.slice (some ⟨b,0,none⟩) (N+1) cap).ownBlock=some b:=rfl;rw [hOB];clear hOB;have c1:(i:Int)<=N:=by omega
  have c2:¬((i:Int)=(i:Int)+1):=by omega
  have c3:¬(cap=N):=by omega
  have c4:¬(cap=i):=by omega
  have hcm':cap<=9223372036854775807:=by unfold maxLen at hcm;omega
  have b2:(N:Int)<=1000:=by omega
  have t1:((i:Int)+1).toNat=i+1:=by omega
  have t2:((N:Int)+1).toNat=N+1:=by omega
  have p1:(0:Int)<=(i:Int)+1:=by omega
  have hBB:Block w b 52 C:=hB;have hz1c:∀u∈(Value.cells (.agg #[.int .i64 0,.int .i64 0,.int .i64 0,.int .i64 0,.int .i64 0])).toList,u.oneCell'=true:=by simp [Value.cells];try decide
  have h0z:0<5:=by omega
  have HB:=hid hBB;have HCS:=hid hcs;have HX2l:=hid hX2l;have HX2c:=hid hX2c;have HX21:=hid hX21;have HCM:=hid hcm;have HBB:=hid hbb;have HBW:=hid hbase;have HNC:Hid ((N+1)*5<=cap*5):=Nat.mul_le_mul_right _ hnc;clear hown hxl hx1 htake htk hX1 hX2 hX2l hX2c hX21 hB hBB hcs hcm hbb hbase;have c5:¬(cap=i+1):=by omega
  have c6:¬((i:Int)+1=(N:Int)+1):=by omega
  go_enter func200,ntmps200;go_wp2;refine tail.region 12 kr_ kr_ ?_;simp only [List.take_succ_cons,List.take_zero,List.drop_succ_cons,List.drop_zero];repeat (go_big_quiet_step (fail))
  refine wpQuiet_nil ?_;rintro _ ⟨nq,rfl⟩;rw [show (i:Int)+((N - i:Nat):Int)=(N:Int) by omega];go_wp2_with (refine aQ rfl _ _ 47 47 rfl 52 i0 5 underlying47 hi0 hz1 _ _ _ _ _ _ rfl rfl b (i*5) C 52 (HB.o.drewN nq) 0 (by simp only [Nat.min_def];split <;> omega) [] rfl (fun h=>absurd h om_) (by rw [HCS.o];have:=HNC.o;simp;omega) si_ ?_);intro w3 h3;have hB3:Block w3 b 52 C:=by simpa [splice] using h3.o.1
  have HB3:=hid hB3;have hs3:=h3.o.2.2;clear hB3;go_wp2;refine tail.region 9 kr_ kr_ ?_;simp only [List.take_succ_cons,List.take_zero,List.drop_succ_cons,List.drop_zero];repeat (go_big_quiet_step (fail))
  refine wpQuiet_nil ?_;rintro _ ⟨nr,rfl⟩;refine aQ rfl _ _ 47 47 rfl 52 i0 5 underlying47 hi0 hz1 _ _ _ _ _ _ rfl rfl b (i*5) C 52 (HB3.o.drewN nr) (N - i) (by simp only [Nat.min_def];split <;> omega) X2 HX2l.o (fun _=>⟨rfl,⟨b,(i+1)*5,none⟩,rfl,fun j u hj=>by rw [Addr.add_lit,(HB3.o.drewN nr).cell];exact HX2c.o j u hj⟩) (by rw [HX2l.o,HCS.o];have:=HNC.o;omega) HX21.o ?_;intro w4 h4;have hs4:=h4.o.2.2;have HL4:Hid ((splice C (i*5) X2).length=cap*5):=hid (by rw [length_splice _ _ _ (by rw [HX2l.o,HCS.o];have:=HNC.o;omega),HCS.o]);go_wp2_with (refine cu rfl _ 47 rfl 52 i0 _ 5 underlying47 hi0 hz0 (by simp [Value.cells]) hz1c h0z _ 1 _ rfl b (N*5) (splice C (i*5) X2) 52 h4.o.1 (fun _=>by simp) (by rw [HL4.o];have:=HNC.o;omega) ?_);intro Z w5 h5;go_wp2;go_ret;have hl2:(splice (splice C (i*5) X2) (N*5) Z).take (N*5)=C.take (i*5)++X2:=by
   rw [eU _ _ _ _ (Nat.le_refl _) (by rw [HL4.o];have:=HNC.o;omega)];have:=eX C (i*5) X2 (by rw [HCS.o];have:=HNC.o;omega);rw [HX2l.o,<-Nat.add_mul,show i+(N - i)=N by omega] at this;exact this
  refine ⟨_,rfl,fJ h5.o.2.1 HBB.o om_ HCM.o (by rw [length_splice _ _ _ (by rw [HL4.o,h5.o.1];have:=HNC.o;omega),HL4.o]) (by simpa using hl2), ?_⟩;exact bD (v:=.slice (some ⟨b,0,none⟩) N cap) (But.trans (But.drewN h3.o.2.1 0) (But.trans (But.drewN (h4.o.2.1.mono (by simp at hs3 ⊢;omega)) 0) (h5.o.2.2.1.mono (by simp at hs3 hs4 ⊢ <;> omega)))) rfl
set_option maxHeartbeats 1600000 in
set_option maxRecDepth 20000 in
theorem wF (base N i g vc:Nat) (gC:List Value) (gt:TypeId) (v:Value) (xs news:List Value) (w:World) (hown:w.ownsRow base 52 5 v (N+1) xs) (hbase:base<=w.heap.size) (hi:i<N)
  (hl:news.length=1*5) (hG:Block w g gt gC) (hgo:1*5<=gC.length) (hgv:v.ownBlock≠some g) (hnews:∀(j:Nat) (u:Value),news[j]?=some u->gC[j]?=some u) (h1:∀u∈news,u.oneCell'=true) (hx1:∀u∈xs,u.oneCell'=true) (hn:N<=1000):
  Calls prog 200 #[v,.int .i64 i,.int .i64 ((i:Int)+1),.slice (some ⟨g,0,none⟩) 1 vc] w (mM base v.ownBlock (N+1) (xs.take (i*5)++(news++xs.drop ((i+1)*5))) w):=by
 obtain ⟨i0,hi0,hz0,hz1,hz2⟩:=dL;have hxl:=hown.1;rcases hown.2 with ⟨_,h0⟩ | ⟨b,cap,cur,rfl,hbb,hB,hnc,hcm,hcs,htake⟩
 ·omega
 ·obtain ⟨C,rfl⟩:∃C:List Value,cur=C.toArray:=⟨cur.toList,by simp⟩;simp only [List.size_toArray] at hcs;have htk:C.take ((N+1)*5)=xs:=by simpa using htake
  have hbg:g≠b:=by intro h;subst h;exact hgv rfl
  have hX1:C.take (i*5)=xs.take (i*5):=by rw [<-htk,List.take_take,Nat.min_eq_left (Nat.mul_le_mul_right _ om_)]
  have hX2l:(xs.drop ((i+1)*5)).length=(N - i)*5:=by rw [List.length_drop,hxl,<-Nat.sub_mul];congr 1;omega
  have hX2c:∀j u,(xs.drop ((i+1)*5))[j]?=some u->C[(i+1)*5+j]?=some u:=fun j u hj=>by
   rw [List.getElem?_drop,<-htk,List.getElem?_take] at hj;split at hj
   ·exact hj
   ·cases hj
  have hX21:∀u∈xs.drop ((i+1)*5),u.oneCell'=true:=fun u hu=>hx1 u (List.mem_of_mem_drop hu)
  obtain ⟨X2,hX2⟩:∃X2,xs.drop ((i+1)*5)=X2:=⟨_,rfl⟩;rw [hX2] at hX2l hX2c hX21 ⊢;rw [<-hX1];have hOB:(Value.slice (some ⟨b,0,none⟩) (N+1) cap).ownBlock=some b:=rfl;rw [hOB];clear hOB;have c1:(i:Int)<=N:=by omega
  have c2:¬((i:Int)=(i:Int)+1):=by omega
  have c3:¬(cap=N):=by omega
  have c4:¬(cap=i):=by omega
  have hcm':cap<=9223372036854775807:=by unfold maxLen at hcm;omega
  have b2:(N:Int)<=1000:=by omega
  have t1:((i:Int)+1).toNat=i+1:=by omega
  have t2:((N:Int)+1).toNat=N+1:=by omega
  have p1:(0:Int)<=(i:Int)+1:=by omega
  have hBB:Block w b 52 C:=hB;have hz1c:∀u∈(Value.cells (.agg #[.int .i64 0,.int .i64 0,.int .i64 0,.int .i64 0,.int .i64 0])).toList,u.oneCell'=true:=by simp [Value.cells];try decide
  have h0z:0<5:=by omega
  have HB:=hid hBB;have HCS:=hid hcs;have HX2l:=hid hX2l;have HX2c:=hid hX2c;have HX21:=hid hX21;have HCM:=hid hcm;have HBB:=hid hbb;have HBW:=hid hbase;have HNC:Hid ((N+1)*5<=cap*5):=Nat.mul_le_mul_right _ hnc;have HG:=hid hG;have HL:=hid hl;have HNW:=hid hnews;have HGO:=hid hgo;have H1:=hid h1;have HLG:=hid hG.lt;clear hown hxl hx1 htake htk hX1 hX2 hX2l hX2c hX21 hB hBB hcs hcm hbb hbase hG hl hnews hgo h1 hgv;have c5:¬(cap=i+1):=by omega
  have c6:¬((i:Int)+1=(N:Int)+1):=by omega
  by_cases c7:N+1=cap
  ·subst c7;go_enter func200,ntmps200;go_wp2;refine tail.region 12 kr_ kr_ ?_;simp only [List.take_succ_cons,List.take_zero,List.drop_succ_cons,List.drop_zero];repeat (go_big_quiet_step (fail))
   refine wpQuiet_nil ?_;rintro _ ⟨nq,rfl⟩;rw [show (i:Int)+1+((N - i:Nat):Int)=(N:Int)+1 by omega];go_wp2_with (refine aQ rfl _ _ 47 47 rfl 52 i0 5 underlying47 hi0 hz1 _ _ _ _ _ _ rfl rfl b (i*5) C 52 (HB.o.drewN nq) 1 (by simp only [Nat.min_def];split <;> omega) news HL.o (fun _=>⟨rfl,⟨g,0,none⟩,rfl,fun j u hj=>by rw [Addr.add_lit,Nat.zero_add,(HG.o.drewN nq).cell];exact HNW.o j u hj⟩) (by rw [HL.o,HCS.o];have:=HNC.o;omega) H1.o ?_);intro w3 h3;have hs3:=h3.o.2.2;have HL3:Hid ((splice C (i*5) news).length=(N+1)*5):=hid (by rw [length_splice _ _ _ (by rw [HL.o,HCS.o];have:=HNC.o;omega),HCS.o]);have HX3:Hid (∀(j:Nat) (u:Value),X2[j]?=some u->(splice C (i*5) news)[(i+1)*5+j]?=some u):=hid (fun j u hj=>by
    have e:=nI C (i*5) news (by rw [HCS.o];have:=HNC.o;omega);have e2:(splice C (i*5) news).drop ((i+1)*5)=C.drop ((i+1)*5):=by
     exact t71
    have:=HX2c.o j u hj;rw [<-List.getElem?_drop] at this ⊢;rw [e2];exact this)
   go_wp2;refine tail.region 9 kr_ kr_ ?_;simp only [List.take_succ_cons,List.take_zero,List.drop_succ_cons,List.drop_zero];repeat (go_big_quiet_step (fail))
   refine wpQuiet_nil ?_;rintro _ ⟨nr,rfl⟩;refine aQ rfl _ _ 47 47 rfl 52 i0 5 underlying47 hi0 hz1 _ _ _ _ _ _ rfl rfl b ((i+1)*5) (splice C (i*5) news) 52 (h3.o.1.drewN nr) (N - i) (by simp only [Nat.min_def];split <;> omega) X2 HX2l.o (fun _=>⟨rfl,⟨b,(i+1)*5,none⟩,rfl,fun j u hj=>by rw [Addr.add_lit,(h3.o.1.drewN nr).cell];exact HX3.o j u hj⟩) (by rw [HX2l.o,HL3.o];have:=HNC.o;omega) HX21.o ?_;intro w4 h4;have hs4:=h4.o.2.2;have HL4:Hid ((splice (splice C (i*5) news) ((i+1)*5) X2).length=(N+1)*5):=hid (by rw [length_splice _ _ _ (by rw [HX2l.o,HL3.o];have:=HNC.o;omega),HL3.o]);go_wp2_with (refine cu rfl _ 47 rfl 52 i0 _ 5 underlying47 hi0 hz0 (by simp [Value.cells]) hz1c h0z _ 0 _ rfl b 0 (splice (splice C (i*5) news) ((i+1)*5) X2) 52 h4.o.1 (fun h=>absurd h om_) om_ ?_);intro Z w5 h5;have hB5:Block w5 b 52 (splice (splice C (i*5) news) ((i+1)*5) X2):=by
    exact t77
   have HB5:=hid hB5;clear hB5;go_wp2;go_ret;have hl2:=two' C (i*5) news X2 (by rw [HL.o,HX2l.o,HCS.o];have:=HNC.o;omega);rw [HL.o,HX2l.o,show i*5+1*5=(i+1)*5 by omega,show (i+1)*5+(N - i)*5=(N+1)*5 by omega,List.append_assoc] at hl2;refine ⟨_,rfl,fJ HB5.o HBB.o om_ HCM.o HL4.o hl2, ?_⟩;exact bD (v:=.slice (some ⟨b,0,none⟩) N (N+1)) (But.trans (But.drewN h3.o.2.1 0) (But.trans (But.drewN (h4.o.2.1.mono (by simp at hs3 ⊢ <;> omega)) 0) (h5.o.2.2.1.mono (by simp at hs3 hs4 ⊢ <;> omega)))) rfl
  ·have c8:¬(cap=N+1):=by omega
   go_enter func200,ntmps200;go_wp2;refine tail.region 12 kr_ kr_ ?_;simp only [List.take_succ_cons,List.take_zero,List.drop_succ_cons,List.drop_zero];repeat (go_big_quiet_step (fail))
   refine wpQuiet_nil ?_;rintro _ ⟨nq,rfl⟩;rw [show (i:Int)+1+((N - i:Nat):Int)=(N:Int)+1 by omega];go_wp2_with (refine aQ rfl _ _ 47 47 rfl 52 i0 5 underlying47 hi0 hz1 _ _ _ _ _ _ rfl rfl b (i*5) C 52 (HB.o.drewN nq) 1 (by simp only [Nat.min_def];split <;> omega) news HL.o (fun _=>⟨rfl,⟨g,0,none⟩,rfl,fun j u hj=>by rw [Addr.add_lit,Nat.zero_add,(HG.o.drewN nq).cell];exact HNW.o j u hj⟩) (by rw [HL.o,HCS.o];have:=HNC.o;omega) H1.o ?_);intro w3 h3;have hs3:=h3.o.2.2;have HL3:Hid ((splice C (i*5) news).length=cap*5):=hid (by rw [length_splice _ _ _ (by rw [HL.o,HCS.o];have:=HNC.o;omega),HCS.o]);have HX3:Hid (∀(j:Nat) (u:Value),X2[j]?=some u->(splice C (i*5) news)[(i+1)*5+j]?=some u):=hid (fun j u hj=>by
    have e:=nI C (i*5) news (by rw [HCS.o];have:=HNC.o;omega);have e2:(splice C (i*5) news).drop ((i+1)*5)=C.drop ((i+1)*5):=by
     exact t71
    have:=HX2c.o j u hj;rw [<-List.getElem?_drop] at this ⊢;rw [e2];exact this)
   go_wp2;refine tail.region 9 kr_ kr_ ?_;simp only [List.take_succ_cons,List.take_zero,List.drop_succ_cons,List.drop_zero];repeat (go_big_quiet_step (fail))
   refine wpQuiet_nil ?_;rintro _ ⟨nr,rfl⟩;refine aQ rfl _ _ 47 47 rfl 52 i0 5 underlying47 hi0 hz1 _ _ _ _ _ _ rfl rfl b ((i+1)*5) (splice C (i*5) news) 52 (h3.o.1.drewN nr) (N - i) (by simp only [Nat.min_def];split <;> omega) X2 HX2l.o (fun _=>⟨rfl,⟨b,(i+1)*5,none⟩,rfl,fun j u hj=>by rw [Addr.add_lit,(h3.o.1.drewN nr).cell];exact HX3.o j u hj⟩) (by rw [HX2l.o,HL3.o];have:=HNC.o;omega) HX21.o ?_;intro w4 h4;have hs4:=h4.o.2.2;have HL4:Hid ((splice (splice C (i*5) news) ((i+1)*5) X2).length=cap*5):=hid (by rw [length_splice _ _ _ (by rw [HX2l.o,HL3.o];have:=HNC.o;omega),HL3.o]);go_wp2_with (refine cu rfl _ 47 rfl 52 i0 _ 5 underlying47 hi0 hz0 (by simp [Value.cells]) hz1c h0z _ 0 _ rfl b 0 (splice (splice C (i*5) news) ((i+1)*5) X2) 52 h4.o.1 (fun h=>absurd h om_) om_ ?_);intro Z w5 h5;have hB5:Block w5 b 52 (splice (splice C (i*5) news) ((i+1)*5) X2):=by
    exact t77
   have HB5:=hid hB5;clear hB5;go_wp2;go_ret;have hl2:=two' C (i*5) news X2 (by rw [HL.o,HX2l.o,HCS.o];have:=HNC.o;omega);rw [HL.o,HX2l.o,show i*5+1*5=(i+1)*5 by omega,show (i+1)*5+(N - i)*5=(N+1)*5 by omega,List.append_assoc] at hl2;refine ⟨_,rfl,fJ HB5.o HBB.o om_ HCM.o HL4.o hl2, ?_⟩;exact bD (v:=.slice (some ⟨b,0,none⟩) N cap) (But.trans (But.drewN h3.o.2.1 0) (But.trans (But.drewN (h4.o.2.1.mono (by simp at hs3 ⊢ <;> omega)) 0) (h5.o.2.2.1.mono (by simp at hs3 hs4 ⊢ <;> omega)))) rfl
set_option maxHeartbeats 1600000 in
set_option maxRecDepth 20000 in
theorem wH (base N i g vc:Nat) (gC:List Value) (gt:TypeId) (v:Value) (xs news:List Value) (w:World) (hown:w.ownsRow base 52 5 v (N+1) xs) (hbase:base<=w.heap.size) (hi:i<N)
  (hl:news.length=2*5) (hG:Block w g gt gC) (hgo:2*5<=gC.length) (hgv:v.ownBlock≠some g) (hnews:∀(j:Nat) (u:Value),news[j]?=some u->gC[j]?=some u) (h1:∀u∈news,u.oneCell'=true) (hx1:∀u∈xs,u.oneCell'=true) (hn:N<=1000):
  Calls prog 200 #[v,.int .i64 i,.int .i64 ((i:Int)+1),.slice (some ⟨g,0,none⟩) 2 vc] w (mM base v.ownBlock (N+2) (xs.take (i*5)++(news++xs.drop ((i+1)*5))) w):=by
 obtain ⟨i0,hi0,hz0,hz1,hz2⟩:=dL;have hxl:=hown.1;rcases hown.2 with ⟨_,h0⟩ | ⟨b,cap,cur,rfl,hbb,hB,hnc,hcm,hcs,htake⟩
 ·omega
 ·obtain ⟨C,rfl⟩:∃C:List Value,cur=C.toArray:=⟨cur.toList,by simp⟩;simp only [List.size_toArray] at hcs;have htk:C.take ((N+1)*5)=xs:=by simpa using htake
  have hbg:g≠b:=by intro h;subst h;exact hgv rfl
  have hX1:C.take (i*5)=xs.take (i*5):=by rw [<-htk,List.take_take,Nat.min_eq_left (Nat.mul_le_mul_right _ om_)]
  have hX2l:(xs.drop ((i+1)*5)).length=(N - i)*5:=by rw [List.length_drop,hxl,<-Nat.sub_mul];congr 1;omega
  have hX2c:∀j u,(xs.drop ((i+1)*5))[j]?=some u->C[(i+1)*5+j]?=some u:=fun j u hj=>by
   rw [List.getElem?_drop,<-htk,List.getElem?_take] at hj;split at hj
   ·exact hj
   ·cases hj
  have hX21:∀u∈xs.drop ((i+1)*5),u.oneCell'=true:=fun u hu=>hx1 u (List.mem_of_mem_drop hu)
  obtain ⟨X2,hX2⟩:∃X2,xs.drop ((i+1)*5)=X2:=⟨_,rfl⟩;rw [hX2] at hX2l hX2c hX21 ⊢;rw [<-hX1];have hOB:(Value.slice (some ⟨b,0,none⟩) (N+1) cap).ownBlock=some b:=rfl;rw [hOB];clear hOB;have c1:(i:Int)<=N:=by omega
  have c2:¬((i:Int)=(i:Int)+1):=by omega
  have c3:¬(cap=N):=by omega
  have c4:¬(cap=i):=by omega
  have hcm':cap<=9223372036854775807:=by unfold maxLen at hcm;omega
  have b2:(N:Int)<=1000:=by omega
  have t1:((i:Int)+1).toNat=i+1:=by omega
  have t2:((N:Int)+1).toNat=N+1:=by omega
  have p1:(0:Int)<=(i:Int)+1:=by omega
  have hBB:Block w b 52 C:=hB;have hz1c:∀u∈(Value.cells (.agg #[.int .i64 0,.int .i64 0,.int .i64 0,.int .i64 0,.int .i64 0])).toList,u.oneCell'=true:=by simp [Value.cells];try decide
  have h0z:0<5:=by omega
  have HB:=hid hBB;have HCS:=hid hcs;have HX2l:=hid hX2l;have HX2c:=hid hX2c;have HX21:=hid hX21;have HCM:=hid hcm;have HBB:=hid hbb;have HBW:=hid hbase;have HNC:Hid ((N+1)*5<=cap*5):=Nat.mul_le_mul_right _ hnc;have HG:=hid hG;have HL:=hid hl;have HNW:=hid hnews;have HGO:=hid hgo;have H1:=hid h1;have HLG:=hid hG.lt;clear hown hxl hx1 htake htk hX1 hX2 hX2l hX2c hX21 hB hBB hcs hcm hbb hbase hG hl hnews hgo h1 hgv;have c5:¬(cap=i+1):=by omega
  have c6:¬((i:Int)+1=(N:Int)+1):=by omega
  by_cases hroom:N+2<=cap
  ·have hov:∀nq lb cb,(callFunc 221 #[.slice (some ⟨b,(i+2)*5,none⟩) lb cb,.slice (some ⟨g,0,none⟩) 2 vc]).run prog (w.drewN nq)=.ok (.value (.bool false)) (w.drewN nq):=fun nq lb cb=>by
    rw [run_callFunc_extern func221 kr_ kr_ kr_ (e:=Extern.SlicesOverlaps.overlaps #[47,47] #[4]) kr_,
     ji (w.drewN nq) 47 4 52 underlying47 i0 hi0 ⟨b,(i+2)*5,none⟩ ⟨g,0,none⟩ lb cb 2 vc (Ne.symm hbg) 52 gt C gC (HB.o.drewN nq) (HG.o.drewN nq) (by have:=HGO.o;intro h;subst h;simp at this)]
    rfl
   have c8:¬(cap=i+2):=by omega
   have c9:¬((cap:Int)<(N:Int)+2):=by omega
   have t3:((i:Int)+2).toNat=i+2:=by omega
   have t4:((N:Int)+2).toNat=N+2:=by omega
   have p2:(0:Int)<=(i:Int)+2:=by omega
   have c10:¬((i:Int)+2<=(i:Int)+1):=by omega
   have w2:IntKind.i64.wrap ((i:Int)+2)=(i:Int)+2:=by rw [IntKind.wrap_i64];omega
   go_enter func200,ntmps200
   go_wp2
   refine tail.region 12 kr_ kr_ ?_
   simp only [List.take_succ_cons,List.take_zero,List.drop_succ_cons,List.drop_zero]
   repeat (go_big_quiet_step (fail))
   refine wpQuiet_nil ?_
   rintro _ ⟨nq,rfl⟩
   rw [show (i:Int)+2+((N - i:Nat):Int)=(N:Int)+2 by omega]
   go_wp2_with (simp only [hov])
   refine tail.region 9 kr_ kr_ ?_
   simp only [List.take_succ_cons,List.take_zero,List.drop_succ_cons,List.drop_zero]
   repeat (go_big_quiet_step (fail))
   refine wpQuiet_nil ?_
   rintro _ ⟨nr,rfl⟩
   refine aQ rfl _ _ 47 47 rfl 52 i0 5 underlying47 hi0 hz1 _ _ _ _ _ _ rfl rfl b ((i+2)*5) C 52 ((HB.o.drewN nq).drewN nr) (N - i) (by simp only [Nat.min_def];split <;> omega) X2 HX2l.o (fun _=>⟨rfl,⟨b,(i+1)*5,none⟩,rfl,fun j u hj=>by rw [Addr.add_lit,((HB.o.drewN nq).drewN nr).cell];exact HX2c.o j u hj⟩) (by rw [HX2l.o,HCS.o];omega) HX21.o ?_
   intro w3 h3
   have hs3:=h3.o.2.2
   have HG3:Hid (Block w3 g gt gC):=hid (((HG.o.drewN nq).drewN nr).but h3.o.2.1 HLG.o hbg)
   have HL3:Hid ((splice C ((i+2)*5) X2).length=cap*5):=hid (by rw [length_splice _ _ _ (by rw [HX2l.o,HCS.o];omega),HCS.o])
   go_wp2_with (refine aQ rfl _ _ 47 47 rfl 52 i0 5 underlying47 hi0 hz1 _ _ _ _ _ _ rfl rfl b (i*5) (splice C ((i+2)*5) X2) 52 h3.o.1 2 (by simp only [Nat.min_def];split <;> omega) news HL.o (fun _=>⟨rfl,⟨g,0,none⟩,rfl,fun j u hj=>by rw [Addr.add_lit,Nat.zero_add,HG3.o.cell];exact HNW.o j u hj⟩) (by rw [HL.o,HL3.o];omega) H1.o ?_)
   intro w4 h4
   go_wp2
   go_ret
   have hl2:=two C (i*5) news X2 (by rw [HL.o,HX2l.o,HCS.o];omega)
   rw [HL.o,HX2l.o,show i*5+2*5=(i+2)*5 by omega,show (i+2)*5+(N - i)*5=(N+2)*5 by omega,List.append_assoc] at hl2
   refine ⟨_,rfl,fJ h4.o.1 HBB.o hroom HCM.o (by rw [length_splice _ _ _ (by rw [HL.o,HL3.o];omega),HL3.o]) hl2, ?_⟩
   exact bD (v:=.slice (some ⟨b,0,none⟩) N cap) (But.trans (But.drewN h3.o.2.1 0) (h4.o.2.1.mono (by simp at hs3 ⊢ <;> omega))) rfl
  ·obtain rfl:N+1=cap:=by omega
   have c9:((N:Int)+1<(N:Int)+2):=by omega
   have t3:((i:Int)+2).toNat=i+2:=by omega
   have t4:((N:Int)+2).toNat=N+2:=by omega
   have p2:(0:Int)<=(i:Int)+2:=by omega
   have w2:IntKind.i64.wrap ((i:Int)+2)=(i:Int)+2:=by rw [IntKind.wrap_i64];omega
   have k1:IntKind.i64.wrap ((N:Int)+2 - (i:Int))=(N:Int)+2 - (i:Int):=by rw [IntKind.wrap_i64];omega
   have HF0:Hid (i*5<=C.length):=hid (by rw [HCS.o];omega);have g3:i+(N+2 - i)=N+2:=by omega
   go_enter func200,ntmps200;go_wp2;refine tail.region 12 kr_ kr_ ?_;simp only [List.take_succ_cons,List.take_zero,List.drop_succ_cons,List.drop_zero];repeat (go_big_quiet_step (fail))
   refine wpQuiet_nil ?_;rintro _ ⟨nq,rfl⟩;rw [show (i:Int)+2+((N - i:Nat):Int)=(N:Int)+2 by omega];go_wp2_with (at_builtin;refine fB rfl _ _ 47 3 rfl 52 i0 _ 5 40 underlying47 underlying3 hi0 hz0 hz1 hz2 (by simp [Value.cells]) h0z b i (N+1) rfl (N+2 - i) _ rfl om_ om_ C (HB.o.drewN nq) HF0.o om_ om_ om_ (by unfold maxLen;omega) ?_);intro G R w3 h3;have hs3:w.heap.size<w3.heap.size:=h3.o.2.2.2.2.2;have g1:¬(G=i):=by have:=h3.o.2.2.1;omega
   have g2:¬(G=i+2):=by have:=h3.o.2.2.1;omega
   have HG1:=hid h3.o.2.2.1;have HG2:=hid h3.o.2.2.2.1;have HRl:=hid h3.o.2.1;have HLT:=hid HB.o.lt;have HB3:Hid (Block w3 b 52 C):=hid ((HB.o.drewN nq).later h3.o.2.2.2.2.1);have HG3:Hid (Block w3 g gt gC):=hid ((HG.o.drewN nq).later h3.o.2.2.2.2.1);have HCL:Hid ((C.take (i*5)++R).length=G*5):=by
    show _=_
    rw [List.length_append,List.length_take,Nat.min_eq_left HF0.o,HRl.o,<-Nat.add_mul];congr 1;have:=HG1.o;omega
   go_wp2_with (refine aQ rfl _ _ 47 47 rfl 52 i0 5 underlying47 hi0 hz1 _ _ _ _ _ _ rfl rfl w.heap.size (i*5) (C.take (i*5)++R) 52 h3.o.1 2 (by simp only [Nat.min_def];split <;> omega) news HL.o (fun _=>⟨rfl,⟨g,0,none⟩,rfl,fun j u hj=>by rw [Addr.add_lit,Nat.zero_add,HG3.o.cell];exact HNW.o j u hj⟩) (by rw [HCL.o,HL.o];have:=HG1.o;omega) H1.o ?_);intro w4 h4;have HB4:Hid (Block w4 b 52 C):=hid (HB3.o.but h4.o.2.1 HB3.o.lt (by have:=HLT.o;omega));have hs4:=h4.o.2.2;have HL4:Hid ((splice (C.take (i*5)++R) (i*5) news).length=G*5):=hid (by rw [length_splice _ _ _ (by rw [HCL.o,HL.o];have:=HG1.o;omega),HCL.o]);go_wp2;refine tail.region 9 kr_ kr_ ?_;simp only [List.take_succ_cons,List.take_zero,List.drop_succ_cons,List.drop_zero];repeat (go_big_quiet_step (fail))
   refine wpQuiet_nil ?_;rintro _ ⟨nr,rfl⟩;refine aQ rfl _ _ 47 47 rfl 52 i0 5 underlying47 hi0 hz1 _ _ _ _ _ _ rfl rfl w.heap.size ((i+2)*5) (splice (C.take (i*5)++R) (i*5) news) 52 (h4.o.1.drewN nr) (N - i) (by simp only [Nat.min_def];split <;> omega) X2 HX2l.o (fun _=>⟨rfl,⟨b,(i+1)*5,none⟩,rfl,fun j u hj=>by rw [Addr.add_lit,(HB4.o.drewN nr).cell];exact HX2c.o j u hj⟩) (by rw [HL4.o,HX2l.o];have:=HG1.o;omega) HX21.o ?_;intro w5 h5;go_wp2;go_ret;have hl2:=two' (C.take (i*5)++R) (i*5) news X2 (by rw [HL.o,HX2l.o,HCL.o];have:=HG1.o;omega);rw [HL.o,HX2l.o,show i*5+2*5=(i+2)*5 by omega,show (i+2)*5+(N - i)*5=(N+2)*5 by omega,List.append_assoc,List.take_left' (by rw [List.length_take,Nat.min_eq_left HF0.o])] at hl2;refine ⟨_,rfl,fJ h5.o.1 HBW.o (by have:=HG1.o;omega) HG2.o ?_ hl2, ?_⟩
   ·rw [length_splice,HL4.o];rw [HX2l.o,HL4.o];have:=HG1.o;omega
   ·exact dw (Below.trans (below_drewN (Below.refl _ _) nq) (Below.trans h3.o.2.2.2.2.1 ((But.trans (But.drewN h4.o.2.1 0) (by have:=h5.o.2.1;exact this.mono (by simp [hs4]))).below (by show w.heap.size<=_;omega) (Nat.le_refl _))))
end schema
end Go.Proofs.YtogkgbnpodojjaaGreat
