/- Contracts and lemmas that claims of this seat share: SchemaBackMath, StepBackMath, SchemaTakeM, SchemaStore, SchemaParse, SchemaSameW, SchemaRefSame, StepRefTyped. Each says its own conditions. -/
import Derived.Test.YtogfefdlffmioaaGreatCmWord
import Derived.Deep.RegionHeld3
import Derived.Handy
import Derived.Laws.StructEq
import Derived.Conc.WalkWords
import Derived.Test.YtogfefdlffmioaaGreatCmAH
import Derived.Test.YtogfefdlffmioaaGreatCmAI
import Derived.Test.YtogfefdlffmioaaGreatCmZ
import Derived.Test.YtogfefdlffmioaaGreatCmQ
import Derived.Test.YtogfefdlffmioaaGreatCmL
import Derived.Test.YtogfefdlffmioaaGreatCmAE
import Derived.Test.YtogfefdlffmioaaGreatCmO
set_option linter.unusedVariables false
namespace Go.Proofs.YtogfefdlffmioaaGreat
open Go.Proofs.Tryz
namespace schema
open Go.RowKit pen
def Small(s:Sight):Prop:=∀c∈s.1,c<256
end schema
namespace step
open Go.RowKit pen
open schema (take_succ_at Small)
open field (bytesOf bytesOf_length bytesOf_lt bytes_strOf strOf_size)
def FieldOk(f:field.Fd):Prop:=(0<=f.id/\f.id<=255)/\(0<=f.kind/\f.kind<=4)/\InOk f.lo/\InOk f.hi/\(0<=f.most/\f.most<=1000)
theorem right_ok{f:field.Fd}(h:f.Right):FieldOk f:=by
 have:=schema.right_span h;unfold FieldOk InOk;omega
def Sp.Ok(s:Sp)(c:UInt8):Prop:=
 if c=102 then 0<=s.fm/\s.fm<=200 else if c=100 then 0<=s.fd/\s.fd<=255 else if c=112 then 0<=s.pl/\s.pl<=8 else if c=116 then 0<=s.tt/\s.tt<=255 else if c=97 then 0<=s.a/\s.a<=1048576
 else if c=98 then InOk s.a/\InOk s.b else if c=70 then FieldOk s.f else if c=86 then InOk s.v.n/\s.v.s.size<=32 else if c=84 then s.t.length<=64/\∀n∈s.t,0<=n/\n<=1000
 else s.l.length<=8/\∀f∈s.l,FieldOk f
theorem has_ok{f:field.Fd}{v:field.Va}(h:f.Has v):InOk v.n/\v.s.size<=32:=by
 obtain⟨h1,h2,h3⟩:=h;unfold field.Fd.Right at h1;unfold field.Fd.great at h2;unfold field.Fd.long at h3;unfold InOk;obtain⟨_,h1 | h1 | h1 | h1⟩:=h1;all_goals
  rw[h1.1] at h2 h3
  simp only[Int.reduceEq,if_false,if_true] at h2 h3
  omega
theorem fine_ok{s:Sp}{m:Nat}(hm:m<12)(h:s.Fine m):∀c∈lets m,s.Ok c:=by
 match m,hm with
 | 0,_=>intro c hc;obtain rfl:=List.mem_singleton.1 hc;exact h
 | 1,_=>intro c hc;obtain rfl:=List.mem_singleton.1 hc;exact h
 | 2,_=>intro c hc;obtain rfl:=List.mem_singleton.1 hc;exact h
 | 3,_=>intro c hc;obtain rfl:=List.mem_singleton.1 hc;exact h.1
 | 4,_=>
  intro c hc;obtain rfl:=List.mem_singleton.1 hc;replace h:2<=s.a/\s.a<=1048576:=h;show 0<=s.a/\s.a<=1048576
  omega
 | 5,_=>
  intro c hc;obtain rfl:=List.mem_singleton.1 hc;replace h:((-1048576<=s.a/\s.a<=1048576)/\s.a≠0)/\(-1099511627776<=s.b/\s.b<=1099511627776):=h;show InOk s.a/\InOk s.b
  unfold InOk;omega
 | 6,_=>
  replace h:(1<=s.a/\s.a<=1000)/\Table s.t s.a:=h;intro c hc;have hc':c=97\/c=84:=by simpa[lets] using hc
  rcases hc' with rfl | rfl
  ·show 0<=s.a/\s.a<=1048576
   omega
  ·refine⟨h.2.1.2,fun n hn=> ?_⟩;have:=h.2.2.1 n hn;omega
 | 7,_=>
  replace h:Table s.t 1000:=h;intro c hc;obtain rfl:=List.mem_singleton.1 hc;refine⟨h.1.2,fun n hn=> ?_⟩;have:=h.2.1 n hn;omega
 | 8,_=>intro c hc;obtain rfl:=List.mem_singleton.1 hc;exact right_ok h.1
 | 9,_=>
  replace h:s.f.Has s.v:=h;intro c hc;have hc':c=70\/c=86:=by simpa[lets] using hc
  rcases hc' with rfl | rfl
  ·exact right_ok h.1
  ·exact has_ok h
 | 10,_=>
  replace h:(-1099511627776<=s.v.n/\s.v.n<=1099511627776)/\s.v.s.size<=32:=h;intro c hc;obtain rfl:=List.mem_singleton.1 hc;show InOk s.v.n/\s.v.s.size<=32
  unfold InOk;omega
 | 11,_=>
  replace h:schema.Fine (s.fm,s.l):=h;intro c hc;obtain rfl:=List.mem_singleton.1 hc;exact⟨h.2.1.2,fun f hf=>right_ok (h.2.2.1.1 f hf)⟩
theorem Sp.Right.ok{s:Sp}(h:s.Right):∀c∈uses s.op,Letter c/\s.Ok c:=by
 intro c hc;refine⟨uses_letter _ c hc, ?_⟩;rw[uses_mem] at hc;obtain⟨l,hl,hcl⟩:=List.mem_flatten.1 hc;obtain⟨m,hm,rfl⟩:=List.mem_map.1 hl;exact fine_ok (mem_lt _ m hm) (h.1 m hm) c hcl
end step
namespace schema
open Go.RowKit pen
set_option maxRecDepth 20000 in
set_option maxHeartbeats 1600000 in
theorem parseForm_any(b:Nat)(s:Sight)(w:World)(h:EyeAt 123 b s w):Calls prog 52 #[.pointer (some ⟨b,0,none⟩)] w fun e w'=>
  ∃p:Fm,e=.returned p.val/\p.p=(takeFm s).1/\w'.ownsRow w.heap.size 79 5 (.slice p.f p.fL.length p.fCap) p.fL.length (fdV p.fL)/\EyeAt 123 b (takeFm s).2 w'/\But w.heap.size b w w':=by
 obtain⟨A,s1,hA⟩:∃A s1,eCount 200 s=(A,s1):=⟨_,_,rfl⟩;obtain⟨N,s2,hN⟩:∃N s2,eCount 8 s1=(N,s2):=⟨_,_,rfl⟩;have hN8:N<=8:=by have:=eCount_le 8 s1;rw[show((8:Nat):Int)=8 from rfl,hN] at this;exact this
 have hT:takeFm s=(((A:Int),(takeFs N s2).1),(takeFs N s2).2):=by
  unfold takeFm;rw[hA];simp only;rw[hN]
 rw[hT];have au:=h.lt;have bT:=field.newB w (.cells #[.int .i64 0,.slice none 0 0] 43);have c1:=eyeCount_any b s _ (h.later bT) 200 om_ om_;have c2:=fun w' hE=>eyeCount_any b s1 w' hE 8 om_ om_
 rw[hA] at c1;rw[hN] at c2;have HR0:=hid (Block.new w 43 [.int .i64 0,.slice none 0 0]);have HB0:=hid bT;have aH:w.heap.size≠b:=by omega
 clear hT hA hN h bT;simp only at c1 c2;unfold Saw at c1 c2;go_enter func52,ntmps52;go_wp2_with (first
  | (go_at_call 49;((with_reducible refine c1.mono ?_);rintro e w1 ⟨rfl,hE1,hu1⟩;have HR1:=hid (blk_but HR0.o hu1 aH)))
  | (go_at_call 49;((with_reducible refine(c2 _ (hE1.later (field.newB _ _))).mono ?_);rintro e w2 ⟨rfl,hE2,hu2⟩;have HS2:=hid ((FS.start hE1 A).call hE2 hu2))))
 have hsz1:w.heap.size<w1.heap.size:=HR1.o.lt;have ak:But w.heap.size b w w1:=(Below.but HB0.o).trans (hu1.mono HB0.o.size);have HB1:=hid ak;have HSZ:=hid hsz1;obtain⟨F,hF⟩:∃F,Hid (w1.heap.size=F):=⟨_,hid rfl⟩;rw[hF.o] at HS2 HSZ ⊢;clear hu1 hu2 hE1 hE2 c1 c2 ak hsz1;go_loopw [9] (fun m wr=>∃k:Nat,k<=N/\m=.int .i64 (k:Int)/\Hid (∃u,FS 123 A b F w1 (takeFs k s2).1 (takeFs k s2).2 k u wr)) (fun m _=>N - (intOf m).toNat);case atStart=>exact⟨0,Nat.zero_le _,rfl,hid ⟨_,HS2.o⟩⟩
 case round=>
  obtain⟨k,hk,rfl,HS⟩:=hrel;obtain⟨u,hS⟩:=HS.o;obtain⟨ua,uc,rfl,_⟩:=ownsRow_slice hS.row;by_cases hlt2:k<N
  ·have i1:(k:Int)<N:=by omega
   obtain⟨p,s3,hp⟩:∃p s3,takeF (takeFs k s2).2=(p,s3):=⟨_,_,rfl⟩;have HT1:Hid ((takeFs (k+1) s2).1=(takeFs k s2).1++[p]):=hid (by rw[takeFs,hp]);have HT2:Hid ((takeFs (k+1) s2).2=s3):=hid (by rw[takeFs,hp]);have cP:=fun w' hE=>parseField_any b (takeFs k s2).2 w' hE
   rw[hp] at cP;clear hp HS HS2;generalize (takeFs k s2).1=L at *;generalize (takeFs k s2).2=sk at *;have HS:=hid (hS.later (w':=wr.drew) (below_drewN (Below.refl _ _) 1));clear hS;go_wp2;refine plan.regionT ?_;have hS:=HS.o;refine plan.free 0 _ (.pointer (some ⟨F,1,none⟩)) rfl kr_ kr_ kr_ kr_ (fun w'=>kr_) ?_;refine plan.free 2 _ (.pointer (some ⟨b,0,none⟩)) rfl kr_ kr_ kr_ kr_ (fun w'=>kr_) ?_;refine plan.toL 3 (fun x y z=> #[true,x,true,y,z,false,false,false]) rfl ?_;refine plan.late 1 3 4 12 14 15 de_ de_ _ _ _ (fun x y z=> #[true,x,true,y,z,false,false,false]) rfl rfl rfl rfl rfl rfl rfl rfl rfl (by intro y z;cases y <;> cases z <;> rfl) (by intro x;cases x <;> rfl) (by intro x;cases x <;> rfl)
    kr_ kr_ kr_ kr_ kr_ (.slice ua k uc) 84 #[.pointer (some ⟨b,0,none⟩)]
    (fun v w'=>v=p.val/\FS 123 A b F w1 L s3 k (.slice ua k uc) w') (fun v w'=>.slice (some ⟨w'.heap.size,0,none⟩) 1 1) (fun v w'=>w'.alloc (.cells (zF p) 79))
    (exec_cell_slice' (ad:=⟨F,1,none⟩) rfl (hS.f.cell 1) isAgg41)
    (fun v w' hM=>exec_cell_slice' (ad:=⟨F,1,none⟩) rfl (hM.2.f.cell 1) isAgg41)
    (fun v w' hM=>exec_cell_slice' (ad:=⟨F,1,none⟩) rfl ((hM.2.f.alloc _).cell 1) isAgg41)
    kr_ kr_ ((cP _ hS.eye).mono ?_) (fun v w' hM=>by obtain⟨rfl,_⟩:=hM;kernel_rfl) (fun v w' hM=>by obtain⟨rfl,_⟩:=hM;kernel_rfl) ?_
   ·rintro e w3 ⟨rfl,hE3,hu3⟩;exact⟨_,rfl,rfl,hS.call hE3 hu3⟩
   ·rintro v w3 ⟨rfl,cu⟩;have bD:=cu.later (field.newB w3 (.cells (zF p) 79));refine plan.oneE 5 _ (fun q w5=>w5.ownsRow (F+1) 79 5 q (k+1) (fdV (L++[p]))/\(w3.alloc (.cells (zF p) 79)).grownBy w5 (Value.slice ua k uc).ownBlock) rfl rfl
     (exec_push_fd (g:=w3.heap.size) rfl bD.row (Block.new w3 79 (fdC p)) om_ bD.f.lt) ?_
    rintro q w5 ⟨ho5,hg5⟩;have hF5:=bD.held hg5;have bF:=bD.push hg5 ho5;obtain⟨qa,qc,rfl,_⟩:=ownsRow_slice ho5;refine plan.oneT (w1:=w5) 6 _ (.pointer (some ⟨F,1,none⟩)) rfl rfl ?_;refine plan.lastT (w1:=w5.setCell ⟨F,1,none⟩ (.slice qa (k+1) qc)) 7 _ rfl rfl rfl (exec_put_fd (ad:=⟨F,1,none⟩) rfl (hF5.cell 1) (hF5.frozen 1)) ?_;have HS6:=hid bF;clear bF hF5 ho5 hg5 bD cu hS;walk_nrm;go_wp2;exact⟨⟨k+1,by omega,by go_num,hid ⟨_,by rw[HT1.o,HT2.o];exact HS6.o⟩⟩,by simp[intOf];omega⟩
  ·obtain rfl:k=N:=by omega
   have hR:=HR1.o.but hS.but HSZ.o aH;have x0:=hR.cell 0;have x1:=hR.cell 1;have p0:=hR.frozen 0;have p1:=hR.frozen 1;have y0:=hS.f.cell 0;have y1:=hS.f.cell 1;have HS3:=hid hS;have HR3:=hid hR;clear HS hS HS2 hR;go_wp2;have hS:=HS3.o;have hB:=(HR3.o.setCell 0 (.int .i64 (A:Int))).setCell 1 (.slice ua k uc);have qw:=((But.refl wr.heap.size w.heap.size wr).setCell 0 (.int .i64 (A:Int))).setCell 1 (.slice ua k uc);have hE:=eye_past hS.eye au qw;have dn:=own_low (ownsRow_heap (w':=(wr.setCell ⟨w.heap.size,0,none⟩ (.int .i64 (A:Int))).setCell ⟨w.heap.size,1,none⟩ (.slice ua k uc)) hS.row (fun g hg=>by
    have h1:=World.ownsRow.lt hS.row g hg;have h2:=HSZ.o;exact qw.2.2.2.2 g h1.2 om_)) (show w.heap.size<=F+1 by have:=HSZ.o;omega)
   have gY:=but_store (but_store (HB1.o.trans (hS.but.mono (Nat.le_of_lt HSZ.o))) (Nat.le_refl _) 0 (.int .i64 (A:Int))) (Nat.le_refl _) 1 (.slice ua k uc);have hlen:=takeFs_len k s2;refine bodyPost_ret (results_cell (b:=w.heap.size) (o:=0) rfl rfl hB.whole underlying43 rfl (fm_info2 _ _)) rfl ⟨⟨A,ua,uc,(takeFs k s2).1⟩, ?_,rfl, ?_,hE,gY⟩
   ·show _=Ending.returned (.agg #[.int .i64 (A:Int),.slice ua (takeFs k s2).1.length uc])
    rw[hlen];rfl
   ·show World.ownsRow _ _ _ _ (.slice ua (takeFs k s2).1.length uc) (takeFs k s2).1.length _
    rw[hlen];exact dn
end schema
namespace schema
open Go.RowKit
open field (Gives newB gives_from)
theorem results_cell2{fn:Func}{p u:Tmp}{ty:TypeId}{tmps:Array Value}{P:Program}{w:World}{b o:Nat}{cs:List Value}{d:TypeDesc}(h:fn.results=#[.cell p ty,.tmp u])
  (hp:tmps.getD p undef=.pointer (some ⟨b,o,none⟩)) (hc:w.rangeAt b o cs) (hu:P.underlying ty=some d) (hd:d.isRow=true) (hi:(P.info? ty).map (·.size)=some cs.length):
  (results fn tmps).run P w=.ok (.tuple #[.agg cs.toArray,tmps.getD u undef]) w:=by
 exact t53
end schema
namespace schema
open Go.RowKit pen
set_option maxRecDepth 20000 in
set_option maxHeartbeats 1600000 in
theorem parse_any(a:Option Addr)(c:Nat)(xs:List Nat)(w:World)(hr:Reads .u8 w a xs.length xs)(hx:∀c∈xs,c<256)(hl:xs.length<=140737488355328):
  Calls prog 26 #[.slice a xs.length c] w (ParsedAs xs w):=by
 obtain⟨V,s1,hV⟩:∃V s1,eCount 65535 (xs,0)=(V,s1):=⟨_,_,rfl⟩;obtain⟨N,s2,hN⟩:∃N s2,eCount 8 s1=(N,s2):=⟨_,_,rfl⟩;have hN8:N<=8:=by have:=eCount_le 8 s1;rw[show((8:Nat):Int)=8 from rfl,hN] at this;exact this
 have hP:parsed xs=(if eEnd (takeFms N s2).2≠0 then(0,[],eEnd (takeFms N s2).2) else if Right V (takeFms N s2).1 then((V:Int),(takeFms N s2).1,0) else(0,[],2)):=by
  have h1:readV xs=(V,s1):=hV;have h2:readN xs=(N,s2):=by unfold readN;rw[h1];exact hN
  have h3:readF xs=takeFms N s2:=by unfold readF;rw[h2]
  unfold parsed;rw[h3,h1]
 have HP:=hid hP;clear hP;have bT:=field.newB w (.cells #[.int .i64 0,.slice none 0 0] 24);have c0:=of_any a c xs (w.alloc (.cells #[.int .i64 0,.slice none 0 0] 24)) (hr.below bT) hx hl;have HR0:=hid (Block.new w 24 [.int .i64 0,.slice none 0 0]);have HB0:=hid bT;have c1:=fun b w' hE=>eyeCount_any b (xs,0) w' hE 65535 om_ om_
 have c2:=fun b w' hE=>eyeCount_any b s1 w' hE 8 om_ om_
 rw[hV] at c1;rw[hN] at c2;clear hV hN hr hx hl bT;simp only at c1 c2;unfold Saw at c1 c2;go_enter func26,ntmps26;go_wp2_with (first
  | (go_at_call 48;((with_reducible refine c0.mono ?_);rintro e w1 ⟨b,rfl,iR,hE1,hu1⟩;have hR1:=HR0.o.later hu1;have aH:w.heap.size≠b:=(by simp at iR;omega)))
  | (go_at_call 49;((with_reducible refine(c1 b w1 hE1).mono ?_);rintro e w2 ⟨rfl,hE2,hu2⟩;have hR2:=blk_but hR1 hu2 aH))
  | (go_at_call 49;((with_reducible refine(c2 b _ (hE2.later (field.newB _ _))).mono ?_);rintro e w3 ⟨rfl,hE3,hu3⟩;have HS3:=hid ((SS.start hE2 V).call hE3 hu3))))
 have hsz2:w.heap.size<w2.heap.size:=hR2.lt;have hsz1:w.heap.size<=w1.heap.size:=Nat.le_of_lt hR1.lt;have dW:w.heap.size<=b:=by simp at iR;omega
 have aj:Below w.heap.size w w2:=(HB0.o.trans (hu1.mono HB0.o.size)).trans ((hu2.mono hsz1).below (Nat.le_refl _) dW);have HB2:=hid aj;have HR2:=hid hR2;have HSZ:=hid hsz2;obtain⟨S,hS⟩:∃S,Hid (w2.heap.size=S):=⟨_,hid rfl⟩;rw[hS.o] at HS3 HSZ ⊢;clear hu1 hu2 hu3 hE1 hE2 hE3 c0 c1 c2 aj hsz2 hsz1 hR1 hR2 iR;go_loopw [14] (fun m wr=>∃k:Nat,k<=N/\m=.int .i64 (k:Int)/\Hid (∃P u,forms P=(takeFms k s2).1/\SS 123 V b S w2 P (takeFms k s2).2 k u wr)) (fun m _=>N - (intOf m).toNat);case atStart=>exact⟨0,Nat.zero_le _,rfl,hid ⟨[],_,rfl,HS3.o⟩⟩
 case round=>
  obtain⟨k,hk,rfl,HS⟩:=hrel;obtain⟨P,u,hPk,hS⟩:=HS.o;obtain⟨ua,uc,rfl,_⟩:=ownsRow_slice hS.row;by_cases hlt2:k<N
  ·have i1:(k:Int)<N:=by omega
   obtain⟨p,s4,hp⟩:∃p s4,takeFm (takeFms k s2).2=(p,s4):=⟨_,_,rfl⟩;have HT1:Hid ((takeFms (k+1) s2).1=(takeFms k s2).1++[p]):=hid (by rw[takeFms,hp]);have HT2:Hid ((takeFms (k+1) s2).2=s4):=hid (by rw[takeFms,hp]);have cP:=fun w' hE=>parseForm_any b (takeFms k s2).2 w' hE
   rw[hp] at cP;clear hp HS HS3;have HPK:=hid hPk;clear hPk;generalize (takeFms k s2).1=L at *;generalize (takeFms k s2).2=sk at *;have HS:=hid (hS.later (w':=wr.drew) (below_drewN (Below.refl _ _) 1));clear hS;go_wp2;refine plan.regionT ?_;have hS:=HS.o;refine plan.free 0 _ (.pointer (some ⟨S,1,none⟩)) rfl kr_ kr_ kr_ kr_ (fun w'=>kr_) ?_;refine plan.free 2 _ (.pointer (some ⟨b,0,none⟩)) rfl kr_ kr_ kr_ kr_ (fun w'=>kr_) ?_;refine plan.toL 3 (fun x y z=> #[true,x,true,y,z,false,false,false]) rfl ?_;refine plan.late 1 3 4 17 19 20 de_ de_ _ _ _ (fun x y z=> #[true,x,true,y,z,false,false,false]) rfl rfl rfl rfl rfl rfl rfl rfl rfl (by intro y z;cases y <;> cases z <;> rfl) (by intro x;cases x <;> rfl) (by intro x;cases x <;> rfl)
    kr_ kr_ kr_ kr_ kr_ (.slice ua k uc) 52 #[.pointer (some ⟨b,0,none⟩)]
    (fun v w'=>∃q:Fm,v=q.val/\q.p=p/\OwnM (S+1) w' q/\SS 123 V b S w2 P s4 k (.slice ua k uc) w') (fun v w'=>.slice (some ⟨w'.heap.size,0,none⟩) 1 1) (fun v w'=>w'.alloc (.cells v.cells 43))
    (exec_cell_slice' (ad:=⟨S,1,none⟩) rfl (hS.f.cell 1) isAgg22)
    (fun v w' hM=>by obtain⟨q,_,_,_,h4⟩:=hM;exact exec_cell_slice' (ad:=⟨S,1,none⟩) rfl (h4.f.cell 1) isAgg22)
    (fun v w' hM=>by obtain⟨q,_,_,_,h4⟩:=hM;exact exec_cell_slice' (ad:=⟨S,1,none⟩) rfl ((h4.f.alloc _).cell 1) isAgg22)
    kr_ kr_ ((cP _ hS.eye).mono ?_) (fun v w' hM=>by obtain⟨q,rfl,_⟩:=hM;kernel_rfl) (fun v w' hM=>by obtain⟨q,rfl,_⟩:=hM;kernel_rfl) ?_
   ·rintro e w3 ⟨q,rfl,hq,ho,hE3,hu3⟩;exact⟨_,rfl,q,rfl,hq,own_low ho (by have:=hS.f.lt;omega),hS.call hE3 hu3⟩
   ·rintro v w3 ⟨q,rfl,hq,hO3,cu⟩;have hN3:=field.newB w3 (.cells (zS q.id q.f q.fL.length q.fCap) 43);have bD:=cu.later hN3;have hO4:OwnM (S+1) (w3.alloc (.cells (zS q.id q.f q.fL.length q.fCap) 43)) q:=ownsRow_later hO3 hN3;refine plan.oneE 5 _ (fun z w5=>w5.ownsRow (S+1) 43 2 z (k+1) (fmV (P++[q]))/\(w3.alloc (.cells (zS q.id q.f q.fL.length q.fCap) 43)).grownBy w5 (Value.slice ua k uc).ownBlock) rfl rfl
     (exec_push_fm (g:=w3.heap.size) rfl kr_ kr_ bD.row (Block.new w3 43 (fmC q)) om_ bD.f.lt) ?_
    rintro z w5 ⟨ho5,hg5⟩;have hF5:=bD.held hg5;have bF:=bD.push hO4 hg5 ho5;obtain⟨qa,qc,rfl,_⟩:=ownsRow_slice ho5;refine plan.oneT (w1:=w5) 6 _ (.pointer (some ⟨S,1,none⟩)) rfl rfl ?_;refine plan.lastT (w1:=w5.setCell ⟨S,1,none⟩ (.slice qa (k+1) qc)) 7 _ rfl rfl rfl (exec_put_fm (ad:=⟨S,1,none⟩) rfl (hF5.cell 1) (hF5.frozen 1)) ?_;have HS6:=hid bF;have HQ:=hid hq;clear bF hF5 ho5 hg5 bD cu hS hO3 hO4 hN3 hq;walk_nrm;go_wp2;exact⟨⟨k+1,by omega,by go_num,hid ⟨P++[q],_,by rw[HT1.o,<-HPK.o,<-HQ.o];simp[forms],by rw[HT2.o];exact HS6.o⟩⟩,by simp[intOf];omega⟩
  ·obtain rfl:k=N:=by omega
   have hR:=HR2.o.but hS.but HSZ.o (show w.heap.size≠b by omega);have jr:Below w.heap.size w wr:=HB2.o.trans (hS.but.below (Nat.le_of_lt HSZ.o) dW);have dN:=hS.list.2;have HRW:=hid hR;have HBW:=hid jr;have HSS:=hid hS;have HKL:=hid dN;have HPK:=hid hPk;have HRS:Hid (w.heap.size≠S):=hid (Nat.ne_of_lt HSZ.o);have cE:Calls prog 51 #[.pointer (some ⟨b,0,none⟩)] wr (field.Gives (.int .i64 (eEnd (takeFms k s2).2:Int)) wr):=(end_any b _ wr hS.eye).mono (by rintro e w' ⟨rfl,m,rfl⟩;exact⟨rfl,below_drewN (Below.refl _ _) m⟩);clear HS hS hR jr hPk HS3 HR2 HB2 dN;by_cases hE:eEnd (takeFms k s2).2=0
   ·rw[hE] at cE;have HP2:=HP.o;rw[if_neg (by rw[hE];simp)] at HP2;have HP2:=hid HP2;have cR:=fun w' (hb:Below wr.heap.size wr w')=>right_any V ua uc P w' ((HSS.o.later hb).list.1) (by have:=HKL.o;unfold maxLen;omega)
    rw[HPK.o] at cR;rw[<-HKL.o] at cR;have hN0:(((0:Nat):Int) == 0)=true:=rfl;clear HP hE;by_cases bg:Right V (takeFms k s2).1
    ·have HP3:Hid (parsed xs=((V:Int),(takeFms k s2).1,0)):=hid (by rw[HP2.o,if_pos bg]);simp only[decide_eq_true bg] at cR;clear HP2 bg;go_wp2_with (first
      | (go_at_call 51;((with_reducible refine cE.mono ?_);rintro e w5 ⟨rfl,aI⟩;have hR5:=HRW.o.later aI;have bP:=HSS.o.later aI;have x0:=hR5.cell 0;have x1:=hR5.cell 1;have p0:=hR5.frozen 0;have p1:=hR5.frozen 1;have y0:=bP.f.cell 0;have y1:=bP.f.cell 1))
      | (go_at_call 36;((with_reducible refine(cR _ aI).mono ?_);rintro e w6 ⟨rfl,aZ⟩;have hR6:=hR5.later aZ;have bF:=bP.later aZ;have x0:=hR6.cell 0;have x1:=hR6.cell 1;have p0:=hR6.frozen 0;have p1:=hR6.frozen 1;have y0:=bF.f.cell 0;have y1:=bF.f.cell 1)))
     have hB:=(hR6.setCell 0 (.int .i64 (V:Int))).setCell 1 (.slice ua k uc);exact bodyPost_ret (results_cell2 (b:=w.heap.size) (o:=0) rfl rfl hB.whole underlying24 rfl (sc_info2 _ _)) rfl (parse_some HP3.o HPK.o bF HSZ.o ((HBW.o.trans (aI.mono HBW.o.size)).trans (aZ.mono (Nat.le_trans HBW.o.size aI.size))))
    ·have HP3:Hid (parsed xs=(0,[],2)):=hid (by rw[HP2.o,if_neg bg]);simp only[decide_eq_false bg] at cR;clear HP2 bg;go_wp2_with (first
      | (go_at_call 51;((with_reducible refine cE.mono ?_);rintro e w5 ⟨rfl,aI⟩;have hR5:=HRW.o.later aI;have bP:=HSS.o.later aI;have x0:=hR5.cell 0;have x1:=hR5.cell 1;have p0:=hR5.frozen 0;have p1:=hR5.frozen 1;have y0:=bP.f.cell 0;have y1:=bP.f.cell 1))
      | (go_at_call 36;((with_reducible refine(cR _ aI).mono ?_);rintro e w6 ⟨rfl,aZ⟩;have hR6:=hR5.later aZ;have bF:=bP.later aZ;have x0:=hR6.cell 0;have x1:=hR6.cell 1;have p0:=hR6.frozen 0;have p1:=hR6.frozen 1;have y0:=bF.f.cell 0;have y1:=bF.f.cell 1)))
     have hB:=(hR6.setCell 0 (.int .i64 0)).setCell 1 (.slice none 0 0);exact bodyPost_ret (results_cell2 (b:=w.heap.size) (o:=0) rfl rfl hB.whole underlying24 rfl (sc_info2 _ _)) rfl (parse_none HP3.o ((HBW.o.trans (aI.mono HBW.o.size)).trans (aZ.mono (Nat.le_trans HBW.o.size aI.size))))
   ·have HP2:Hid (parsed xs=(0,[],eEnd (takeFms k s2).2)):=hid (by rw[HP.o,if_pos hE]);have aH:((eEnd (takeFms k s2).2:Int) == 0)=false:=by rw[beq_eq_false_iff_ne];omega
    have dH:((eEnd (takeFms k s2).2:Int) != 0)=true:=by simp[hE]
    generalize eEnd (takeFms k s2).2=E at *;clear HP hE;go_wp2_with (first
     | (go_at_call 51;((with_reducible refine cE.mono ?_);rintro e w5 ⟨rfl,aI⟩;have hR5:=HRW.o.later aI;have bP:=HSS.o.later aI;have x0:=hR5.cell 0;have x1:=hR5.cell 1;have p0:=hR5.frozen 0;have p1:=hR5.frozen 1;have y0:=bP.f.cell 0;have y1:=bP.f.cell 1))
     | (go_at_call 36;((with_reducible refine(cR _ aI).mono ?_);rintro e w6 ⟨rfl,aZ⟩;have hR6:=hR5.later aZ;have bF:=bP.later aZ;have x0:=hR6.cell 0;have x1:=hR6.cell 1;have p0:=hR6.frozen 0;have p1:=hR6.frozen 1;have y0:=bF.f.cell 0;have y1:=bF.f.cell 1)))
    have hB:=(hR5.setCell 0 (.int .i64 0)).setCell 1 (.slice none 0 0);exact bodyPost_ret (results_cell2 (b:=w.heap.size) (o:=0) rfl rfl hB.whole underlying24 rfl (sc_info2 _ _)) rfl (parse_none HP2.o (HBW.o.trans (aI.mono HBW.o.size)))
end schema
theorem t115{P:Prop}(h:P:=by
 exact⟨h1,h2,by simpa using h4,by simpa using h5,h3⟩):P:=h
namespace schema
open Go.RowKit
open field (Gives newB gives_from)
def WM2(i:Int)(a:Option Addr)(L:List field.Fd)(c:Nat)(j:Int)(b:Option Addr)(M:List field.Fd)(d:Nat)(w:World):World:=(w.alloc (.cells (zS i a L.length c) 43)).alloc (.cells (zS j b M.length d) 43)
theorem WM2.all(i:Int)(a:Option Addr)(L:List field.Fd)(c:Nat)(j:Int)(b:Option Addr)(M:List field.Fd)(d:Nat)(w w':World)(hb:Below (WM2 i a L c j b M d w).heap.size (WM2 i a L c j b M d w) w'):
  w'.cell? ⟨w.heap.size,0,none⟩=some (.int .i64 i)/\w'.cell? ⟨w.heap.size,1,none⟩=some (.slice a L.length c)/\w'.cell? ⟨w.heap.size+1,0,none⟩=some (.int .i64 j)/\w'.cell? ⟨w.heap.size+1,1,none⟩=some (.slice b M.length d)/\Below w.heap.size w w':=by
 obtain⟨h1,h2,h3⟩:=boxM i a L c w w' (below_out hb);obtain⟨h4,h5,_⟩:=boxM j b M d (w.alloc (.cells (zS i a L.length c) 43)) w' hb
 exact t115
def WS2(i:Int)(a:Option Addr)(L:List Fm)(c:Nat)(j:Int)(b:Option Addr)(M:List Fm)(d:Nat)(w:World):World:=(w.alloc (.cells (zS i a L.length c) 24)).alloc (.cells (zS j b M.length d) 24)
theorem WS2.all(i:Int)(a:Option Addr)(L:List Fm)(c:Nat)(j:Int)(b:Option Addr)(M:List Fm)(d:Nat)(w w':World)(hb:Below (WS2 i a L c j b M d w).heap.size (WS2 i a L c j b M d w) w'):
  w'.cell? ⟨w.heap.size,0,none⟩=some (.int .i64 i)/\w'.cell? ⟨w.heap.size,1,none⟩=some (.slice a L.length c)/\w'.cell? ⟨w.heap.size+1,0,none⟩=some (.int .i64 j)/\w'.cell? ⟨w.heap.size+1,1,none⟩=some (.slice b M.length d)/\Below w.heap.size w w':=by
 obtain⟨h1,h2,h3⟩:=boxS i a L c w w' (below_out hb);obtain⟨h4,h5,_⟩:=boxS j b M d (w.alloc (.cells (zS i a L.length c) 24)) w' hb
 exact t115
end schema
theorem t110{P:Prop}(h:P:=by
 go_enter func59,ntmps59;go_wp2;go_ret;exact⟨rfl,HW.o⟩):P:=h
theorem t109{P:Prop}(h:P:=by
 go_enter func34,ntmps34;go_wp2;go_ret;exact⟨rfl,HW.o⟩):P:=h
namespace schema
open Go.RowKit
open field (Gives newB gives_from)
theorem refSameForm_any(i:Int)(a:Option Addr)(c:Nat)(L:List field.Fd)(j:Int)(b:Option Addr)(d:Nat)(M:List field.Fd)(w:World)(h:field.Fds w a L)(h':field.Fds w b M)(hL:L.length<=maxLen)(hM:M.length<=maxLen):
  Calls prog 59 #[zS i a L.length c,zS j b M.length d] w (Gives (.bool (decide ((i,L)=(j,M)))) w):=by
 have hml:(L.length:Int)<=9223372036854775807:=by unfold maxLen at hL;omega
 have hmm:(M.length:Int)<=9223372036854775807:=by unfold maxLen at hM;omega
 have HX:=hid (WM2.all i a L c j b M d w);have hw:=(WM2.all i a L c j b M d w _ (Below.refl _ _)).2.2.2.2;have HF:=hid (h.below hw);have HG:=hid (h'.below hw);have HW:=hid hw;obtain⟨r,hr⟩:∃r:Bool,Hid (decide ((i,L)=(j,M))=r):=⟨_,rfl⟩;rw[hr.o];unfold Gives;clear h h' hL hM hw;unfold WM2 at HX HF HG HW;by_cases hij:i=j
 ·subst hij;by_cases hlen:L.length=M.length
  ·have HLEN:=hid hlen;rw[<-hlen] at HX HF HG HW ⊢;clear hlen hmm;go_enter func59,ntmps59;go_wp2;generalize ((w.alloc (.cells (zS i a L.length c) 43))).alloc (.cells (zS i b L.length d) 43)=W0 at *;go_loopw [5] (fun n wr=>∃k:Nat,k<=L.length/\n=.int .i64 (k:Int)/\Hid (L.take k=M.take k)/\Hid (Below W0.heap.size W0 wr)) (fun n _=>L.length - (intOf n).toNat);case atStart=>exact⟨0,Nat.zero_le _,rfl,hid rfl,hid (Below.refl _ _)⟩
   case round=>
    obtain⟨k,hk,rfl,HEQ,HB⟩:=hrel;obtain⟨z0,z1,z2,z3,aN⟩:=HX.o _ HB.o;by_cases au:k<L.length
    ·obtain⟨g,off,p,rfl,bQ,hp,c0,c1,c2,c3,c4⟩:=field_at HF.o HB.o au;obtain⟨g',off',q,rfl,fC,hq,d0,d1,d2,d3,d4⟩:=field_at HG.o HB.o (k:=k) (by rw[<-HLEN.o];exact au);have i1:(k:Int)<L.length:=by omega
     have HS:=hid (eq_take_succ hp hq);have aH:=fun W=>neq_fd p q W
     have HNE:=hid (fun(aS:¬p=q)=>show ¬L=M from fun e=>by rw[e] at hp;exact aS (Option.some.inj (hp.symm.trans hq)));clear hp hq;by_cases aS:p=q
     ·exact t145
     ·rw[decide_eq_false aS] at aH;obtain rfl:false=r:=by rw[<-hr.o];exact(decide_eq_false (fun e=>HNE.o aS (Prod.mk.inj e).2)).symm
      clear aS;go_wp2;go_quiet (fail);go_wp2;go_ret;exact⟨rfl,below_drewN aN _⟩
    ·obtain rfl:k=L.length:=by omega
     obtain rfl:true=r:=by
      rw[<-hr.o];have:=HEQ.o;rw[List.take_of_length_le (Nat.le_refl _),List.take_of_length_le (by rw[HLEN.o];exact Nat.le_refl _)] at this;exact(decide_eq_true (by rw[this])).symm
     go_wp2;go_ret;exact⟨rfl,aN⟩
  ·obtain rfl:false=r:=by rw[<-hr.o];exact(decide_eq_false (fun e=>hlen (by rw[(Prod.mk.inj e).2]))).symm
   have hd:((L.length:Int) == (M.length:Int))=false:=by rw[beq_eq_false_iff_ne];omega
   clear hlen
   exact t110
 ·obtain rfl:false=r:=by rw[<-hr.o];exact(decide_eq_false (fun e=>hij (Prod.mk.inj e).1)).symm
  have hd:(i == j)=false:=by rw[beq_eq_false_iff_ne];exact hij
  clear hij
  exact t110
theorem refSame_any(i:Int)(a:Option Addr)(c:Nat)(L:List Fm)(j:Int)(b:Option Addr)(d:Nat)(M:List Fm)(w:World)(h:FmL w a L)(h':FmL w b M)(hL:L.length<=maxLen)(hM:M.length<=maxLen):
  Calls prog 34 #[zS i a L.length c,zS j b M.length d] w (Gives (.bool (decide (i=j/\forms L=forms M))) w):=by
 have hml:(L.length:Int)<=9223372036854775807:=by unfold maxLen at hL;omega
 have hmm:(M.length:Int)<=9223372036854775807:=by unfold maxLen at hM;omega
 have HX:=hid (WS2.all i a L c j b M d w);have hw:=(WS2.all i a L c j b M d w _ (Below.refl _ _)).2.2.2.2;have HF:=hid (h.below hw);have HG:=hid (h'.below hw);have HW:=hid hw;obtain⟨r,hr⟩:∃r:Bool,Hid (decide (i=j/\forms L=forms M)=r):=⟨_,rfl⟩;rw[hr.o];unfold Gives;clear h h' hL hM hw;unfold WS2 at HX HF HG HW;by_cases hij:i=j
 ·subst hij;by_cases hlen:L.length=M.length
  ·have HLEN:=hid hlen;rw[<-hlen] at HX HF HG HW ⊢;clear hlen hmm;go_enter func34,ntmps34;go_wp2;generalize ((w.alloc (.cells (zS i a L.length c) 24))).alloc (.cells (zS i b L.length d) 24)=W0 at *;go_loopw [5] (fun n wr=>∃k:Nat,k<=L.length/\n=.int .i64 (k:Int)/\Hid ((forms L).take k=(forms M).take k)/\Hid (Below W0.heap.size W0 wr)) (fun n _=>L.length - (intOf n).toNat);case atStart=>exact⟨0,Nat.zero_le _,rfl,hid rfl,hid (Below.refl _ _)⟩
   case round=>
    obtain⟨k,hk,rfl,HEQ,HB⟩:=hrel;by_cases au:k<L.length
    ·obtain⟨g,off,p,rfl,bQ,hp,c0,c1,pG,lV⟩:=form_at HF.o (below_drew HB.o) au;obtain⟨g',off',q,rfl,fC,hq,d0,d1,pI,lW⟩:=form_at HG.o (below_drew HB.o) (k:=k) (by rw[<-HLEN.o];exact au);obtain⟨z0,z1,z2,z3,aN⟩:=HX.o _ (below_drew HB.o);obtain⟨y0,y1,y2,y3,_⟩:=HX.o _ HB.o;have i1:(k:Int)<L.length:=by omega
     have HS:=hid (eq_take_succ (forms_at hp) (forms_at hq));have HNE:=hid (fun(aS:¬p.p=q.p)=>show ¬forms L=forms M from fun e=>by have h1:=forms_at hp;rw[e] at h1;exact aS (Option.some.inj (h1.symm.trans (forms_at hq))));obtain⟨i',x,xc,P⟩:=p;obtain⟨j',y,yc,R⟩:=q;simp only[Fm.p] at HS HNE c0 c1 d0 d1 pG pI lV lW;have cS:=refSameForm_any i' x xc P j' y yc R wr.drew pG pI lV lW;have HD:=hid (fun w' (hb:Below wr.drew.heap.size wr.drew w')=>(⟨(hb.cell (p:=⟨g,off+k*2,none⟩) bQ).trans c0,(hb.cell (p:=⟨g,off+k*2+1,none⟩) bQ).trans c1,(hb.cell (p:=⟨g',off'+k*2,none⟩) fC).trans d0,(hb.cell (p:=⟨g',off'+k*2+1,none⟩) fC).trans d1⟩:w'.cell? ⟨g,off+k*2,none⟩=some (.int .i64 i')/\w'.cell? ⟨g,off+k*2+1,none⟩=some (.slice x P.length xc)/\w'.cell? ⟨g',off'+k*2,none⟩=some (.int .i64 j')/\w'.cell? ⟨g',off'+k*2+1,none⟩=some (.slice y R.length yc)));clear hp hq pG pI lV lW;by_cases aS:(i',P)=(j',R)
     ·rw[decide_eq_true aS] at cS;have HPQ:=hid aS;clear aS;go_wp2;go_region_held3 (fun w'=>w'.cell? ⟨w.heap.size,1,none⟩=some (.slice (some ⟨g,off,none⟩) L.length c)/\w'.cell? ⟨w.heap.size+1,1,none⟩=some (.slice (some ⟨g',off',none⟩) L.length d)/\w'.cell? ⟨g,off+k*2,none⟩=some (.int .i64 i')/\w'.cell? ⟨g,off+k*2+1,none⟩=some (.slice x P.length xc)/\w'.cell? ⟨g',off'+k*2,none⟩=some (.int .i64 j')/\w'.cell? ⟨g',off'+k*2+1,none⟩=some (.slice y R.length yc)) (first | assumption | go_keep) (first
       | (go_at_call 59;(with_reducible refine cS.mono ?_);rintro e w3 ⟨rfl,aK⟩;obtain⟨e0,e1,e2,e3⟩:=HD.o w3 aK;have dW:=(below_drew HB.o).trans (aK.mono (below_drew HB.o).size);obtain⟨y0,y1,y2,y3,nJ⟩:=HX.o w3 dW))
      go_wp2;exact⟨⟨k+1,by omega,by go_num,hid (HS.o.2 ⟨HEQ.o,HPQ.o⟩),hid dW⟩,by simp[intOf];omega⟩
     ·rw[decide_eq_false aS] at cS;obtain rfl:false=r:=by rw[<-hr.o];exact(decide_eq_false (fun e=>HNE.o aS e.2)).symm
      clear aS;go_wp2;go_region_held3 (fun w'=>w'.cell? ⟨w.heap.size,1,none⟩=some (.slice (some ⟨g,off,none⟩) L.length c)/\w'.cell? ⟨w.heap.size+1,1,none⟩=some (.slice (some ⟨g',off',none⟩) L.length d)/\w'.cell? ⟨g,off+k*2,none⟩=some (.int .i64 i')/\w'.cell? ⟨g,off+k*2+1,none⟩=some (.slice x P.length xc)/\w'.cell? ⟨g',off'+k*2,none⟩=some (.int .i64 j')/\w'.cell? ⟨g',off'+k*2+1,none⟩=some (.slice y R.length yc)) (first | assumption | go_keep) (first
       | (go_at_call 59;(with_reducible refine cS.mono ?_);rintro e w3 ⟨rfl,aK⟩;obtain⟨e0,e1,e2,e3⟩:=HD.o w3 aK;have dW:=(below_drew HB.o).trans (aK.mono (below_drew HB.o).size);obtain⟨y0,y1,y2,y3,nJ⟩:=HX.o w3 dW))
      go_wp2;go_ret;exact⟨rfl,nJ⟩
    ·obtain rfl:k=L.length:=by omega
     obtain⟨z0,z1,z2,z3,aN⟩:=HX.o _ HB.o;obtain rfl:true=r:=by
      rw[<-hr.o];have:=HEQ.o;rw[List.take_of_length_le (by rw[forms_length];exact Nat.le_refl _),List.take_of_length_le (by rw[forms_length,HLEN.o];exact Nat.le_refl _)] at this;exact(decide_eq_true (by first | exact⟨rfl,this⟩ | exact⟨trivial,this⟩)).symm
     go_wp2;go_ret;exact⟨rfl,aN⟩
  ·obtain rfl:false=r:=by rw[<-hr.o];exact(decide_eq_false (fun e=>hlen (by rw[<-forms_length,e.2,forms_length]))).symm
   have hd:((L.length:Int) == (M.length:Int))=false:=by rw[beq_eq_false_iff_ne];omega
   clear hlen
   exact t109
 ·obtain rfl:false=r:=by rw[<-hr.o];exact(decide_eq_false (fun e=>hij e.1)).symm
  have hd:(i == j)=false:=by rw[beq_eq_false_iff_ne];exact hij
  clear hij
  exact t109
end schema
namespace step
open Go.RowKit pen
open schema (aA aA.of aA.later ai ay ah aC exec_cell_int own_low below_drew)
theorem count_any(n:Int)(h0:0<=n)(hn:n<=9223372036854775807)(w:World):Calls prog 46 #[.int .i64 n] w (Copies (vb n.toNat) w):=by
 have c:=aC n h0 hn w;have hu:IntKind.u64.wrap n=n:=by
  exact t106
 unfold Copies at c ⊢;generalize vb n.toNat=X at *;go_enter func46,ntmps46;go_wp2_with (go_at_call 21;((with_reducible refine c.mono ?_);rintro e w1 ⟨v,rfl,ho,hb⟩;have HO:=hid ho;have HB:=hid hb;clear ho hb));go_ret;exact⟨_,rfl,HO.o,HB.o⟩
set_option maxHeartbeats 1600000 in
theorem fG(p:field.Fd)(hr:FieldOk p)(w:World):Calls prog 79 #[zF p] w (Copies (fieldA p) w):=by
 obtain⟨⟨i0,i1⟩,⟨k0,k1⟩,⟨a0,a1⟩,⟨b0,b1⟩,m0,m1⟩:=hr;have iw:=field.five p w;have jO:=field.belowF p w;have l1:=vb_ten p.id.toNat om_;have l2:=vb_ten p.kind.toNat om_;have l3:=vb_ten (zig p.lo) (zig_lt _ om_ om_);have l4:=vb_ten (zig p.hi) (zig_lt _ om_ om_);have l5:=vb_ten p.most.toNat om_;have iI:fieldA p=vb p.id.toNat++vb p.kind.toNat++vb (zig p.lo)++vb (zig p.hi)++vb p.most.toNat:=rfl;rw[iI];clear iI;obtain⟨i,k,lw,hi,m⟩:=p;simp only at *;have iH:w.heap.size<=(w.alloc (.cells #[.int .i64 i,.int .i64 k,.int .i64 lw,.int .i64 hi,.int .i64 m] 79)).heap.size:=by simp
 obtain⟨W0,dw⟩:∃x,(w.alloc (.cells #[.int .i64 i,.int .i64 k,.int .i64 lw,.int .i64 hi,.int .i64 m] 79))=x:=⟨_,rfl⟩;have HW0:=hid dw;rw[dw] at iw jO iH;clear dw;obtain⟨B,hB⟩:∃B,W0.heap.size=B:=⟨_,rfl⟩;rw[hB] at iw jO iH;have HZ:=hid iw;have HWB:=hid jO;have HBL:=hid iH;have mM:Hid (B<=W0.drew.heap.size):=hid (Nat.le_of_eq hB.symm);clear iw jO iH hB;unfold Copies;go_enter func79,ntmps79;go_wp2;rw[HW0.o];refine plan.regionS (S:=fun w'=>Below B W0 w') ?_;have hS:Below B W0 W0.drew:=below_drew (Below.refl _ _);have aP:B<=W0.drew.heap.size:=mM.o;refine plan.firstS 0 _ (.pointer (some ⟨w.heap.size,0,none⟩)) rfl (fun w' aJ=>kr_) hS ?_;refine plan.firstS 1 _ (.int .i64 i) rfl (fun w' aJ=>exec_cell_int (ad:=⟨w.heap.size,0,none⟩) rfl kr_ (HZ.o _ aJ).1 isAgg3) hS ?_;refine plan.firstS 3 _ (.pointer (some ⟨w.heap.size,1,none⟩)) rfl (fun w' aJ=>kr_) hS ?_;refine plan.firstS 4 _ (.int .i64 k) rfl (fun w' aJ=>exec_cell_int (ad:=⟨w.heap.size,1,none⟩) rfl kr_ (HZ.o _ aJ).2.1 isAgg3) hS ?_;refine plan.callS 2 _ 46 #[.int .i64 i] rfl ((count_any i om_ om_ W0.drew).mono ?_);rintro e W1 ⟨u1,rfl,ho1,ak⟩;have hR1:=aA.of hS aP ho1 ak;have aP:=hR1.2.2;have hS:=hR1.2.1;obtain⟨a1,c1,rfl,hq1⟩:=ai hR1.1;refine⟨_,rfl,hS, ?_⟩;refine plan.callS 5 _ 46 #[.int .i64 k] rfl ((count_any k om_ om_ W1).mono ?_);rintro e W2 ⟨u2,rfl,ho2,aj⟩;have hR2:=aA.of hS aP ho2 aj;have aP:=hR2.2.2;have hS:=hR2.2.1;have hR1:=hR1.later aj;obtain⟨a2,c2,rfl,hq2⟩:=ai hR2.1;refine⟨_,rfl,hS, ?_⟩;refine ay (c:=c2) 6 hR1 hq2 rfl rfl rfl (by (try simp only[List.length_append]);omega) (fun z3 W3 hZ3 hK3=>⟨hZ3.2.1, ?_⟩);have hS:=hZ3.2.1;have aP:=hZ3.2.2;refine plan.oneS 7 _ (z3) rfl rfl hS ?_;refine plan.doneS ?_;walk_nrm;go_wp2;have jm:=hZ3.later (w':=W3.drew) (below_drew (Below.refl _ _));have hS:=jm.2.1;have aP:=jm.2.2;refine plan.regionS (S:=fun w'=>Below B W0 w') ?_;refine plan.firstS 0 _ (z3) rfl (fun w' aJ=>kr_) hS ?_;refine plan.firstS 1 _ (.pointer (some ⟨w.heap.size,2,none⟩)) rfl (fun w' aJ=>kr_) hS ?_;refine plan.firstS 2 _ (.int .i64 lw) rfl (fun w' aJ=>exec_cell_int (ad:=⟨w.heap.size,2,none⟩) rfl kr_ (HZ.o _ aJ).2.2.1 isAgg3) hS ?_;refine plan.firstS 5 _ (.pointer (some ⟨w.heap.size,3,none⟩)) rfl (fun w' aJ=>kr_) hS ?_;refine plan.firstS 6 _ (.int .i64 hi) rfl (fun w' aJ=>exec_cell_int (ad:=⟨w.heap.size,3,none⟩) rfl kr_ (HZ.o _ aJ).2.2.2.1 isAgg3) hS ?_;refine plan.callS 3 _ 78 #[.int .i64 lw] rfl ((aY lw om_ om_ W3.drew).mono ?_);rintro e W1 ⟨u1,rfl,ho1,ak⟩;have hR1:=aA.of hS aP ho1 ak;have aP:=hR1.2.2;have hS:=hR1.2.1;have jm:=jm.later ak;obtain⟨a1,c1,rfl,hq1⟩:=ai hR1.1;refine⟨_,rfl,hS, ?_⟩;refine ay (c:=c1) 4 jm hq1 rfl rfl rfl (by (try simp only[List.length_append]);omega) (fun z2 W2 hZ2 hK2=>⟨hZ2.2.1, ?_⟩);have hS:=hZ2.2.1;have aP:=hZ2.2.2;refine plan.callS 7 _ 78 #[.int .i64 hi] rfl ((aY hi om_ om_ W2).mono ?_);rintro e W3 ⟨u3,rfl,ho3,aK⟩;have hR3:=aA.of hS aP ho3 aK;have aP:=hR3.2.2;have hS:=hR3.2.1;have hZ2:=hZ2.later aK;obtain⟨a3,c3,rfl,hq3⟩:=ai hR3.1;refine⟨_,rfl,hS, ?_⟩;refine ay (c:=c3) 8 hZ2 hq3 rfl rfl rfl (by (try simp only[List.length_append]);omega) (fun z4 W4 dR hK4=>⟨dR.2.1, ?_⟩);have hS:=dR.2.1;have aP:=dR.2.2;refine plan.oneS 9 _ (z4) rfl rfl hS ?_;refine plan.doneS ?_;walk_nrm;have z4:=(HZ.o _ dR.2.1).2.2.2.2;have cm:=fun w'=>count_any m om_ om_ w'
 go_wp2_with (first
  | (go_at_call 46;((with_reducible refine(cm _).mono ?_);rintro e w5 ⟨u5,rfl,ho5,aI⟩;have hR5:=aA.of dR.2.1 dR.2.2 ho5 aI;have dM:=dR.later aI;obtain⟨a5,c5,rfl,hq5⟩:=ai hR5.1))
  | (at_builtin;refine ah rfl (.tmp 20) (.tmp 23) rfl rfl rfl dM hq5 (by simp only[List.length_append];omega) ?_;intro z6 w6 dI _))
 go_ret;have ho:=own_low dI.1 HBL.o;exact⟨z6,rfl,by simpa only[List.append_assoc] using ho,HWB.o _ dI.2.1⟩
end step
end Go.Proofs.YtogfefdlffmioaaGreat
