/- Contracts and lemmas that claims of this seat share: Upon, SchemaFS, SchemaTakeM, SchemaSS. Each says its own conditions. -/
import Derived.Test.YtogfefdlffmioaaCmWord
import Derived.Test.YtogfefdlffmioaaCmA
import Derived.Test.YtogfefdlffmioaaCmY
set_option linter.unusedVariables false
namespace Go.Proofs.Ytogfefdlffmioaa
open Go.Proofs.Try
section
open Go Go.RowKit
def Upon(B:Nat)(w:World)(R:World->Prop):Prop:=∀w',w.heap.size<=w'.heap.size->(∀k,B<=k->k<w.heap.size->w'.heap[k]?=w.heap[k]?)->R w'
theorem Upon.now{B:Nat}{w:World}{R:World->Prop}(h:Upon B w R):R w:=h w (Nat.le_refl _) fun _ _ _=>rfl
theorem Upon.after{B:Nat}{w w':World}{R:World->Prop}(h:Upon B w R)(hb:Below w.heap.size w w'):Upon B w' R:=
 fun v h1 h2=>h v (Nat.le_trans hb.size h1) fun k h3 h4=>(h2 k h3 (Nat.lt_of_lt_of_le h4 hb.size)).trans (hb.block k h4)
theorem Upon.past{B S o:Nat}{v:Value}{w:World}{R:World->Prop}(h:Upon B w R)(hS:S<B):Upon B (w.setCell ⟨S,o,none⟩ v) R:=
 fun w' h1 h2=>h w' (by simpa using h1) fun k h3 h4=>(h2 k h3 (by simpa using h4)).trans (Below.heap_setCell w ⟨S,o,none⟩ v k (by show k≠S;omega))
theorem Upon.low{B B':Nat}{w:World}{R:World->Prop}(h:Upon B w R)(hB:B'<=B):Upon B' w R:=fun w' h1 h2=>h w' h1 fun k h3 h4=>h2 k (Nat.le_trans hB h3) h4
theorem Upon.mono{B:Nat}{w:World}{R T:World->Prop}(h:Upon B w R)(hR:∀v,R v->T v):Upon B w T:=fun w' h1 h2=>hR _ (h w' h1 h2)
end
theorem t82{P:Prop}(h:P:=by
 exact di (jw h.but (dM h.row om_) hg (Nat.le_of_lt h.f.lt)) (Nat.le_refl _) 1 z):P:=h
namespace ak
open Go.RowKit pen
structure FS (T:TypeId) (A:Int) (b F:Nat) (w0:World) (L:List field.Fd) (s:Sight) (n:Nat) (u:Value) (wr:World):Prop where
 f:Block wr F 40 [.int .i64 A,u]
 row:wr.ownsRow (F+1) 47 5 u n (fdV L)
 eye:bG T b s wr
 but:But F b w0 wr
 low:b<F
variable {T:TypeId} {A:Int} {b F n:Nat} {w0:World} {L:List field.Fd} {s:Sight} {u:Value}
theorem FS.later{w w':World}(h:FS T A b F w0 L s n u w)(hb:Below w.heap.size w w'):FS T A b F w0 L s n u w':=
 ⟨h.f.later hb,dL h.row hb,h.eye.later hb,h.but.trans ((Below.but hb).mono (Nat.le_of_lt h.f.lt)),h.low⟩
theorem FS.call{w w':World}{s':Sight}(h:FS T A b F w0 L s n u w)(hE:bG T b s' w')(hu:But w.heap.size b w w'):FS T A b F w0 L s' n u w':=
 ⟨bK h.f hu (Nat.ne_of_gt h.low),bM h.row (fun g hg=>by have:=World.ownsRow.lt h.row g hg;have:=h.low;exact hu.2.2.2.2 g om_ om_),hE,h.but.trans (hu.mono (Nat.le_of_lt h.f.lt)),h.low⟩
theorem FS.held{w w':World}(h:FS T A b F w0 L s n u w)(hg:w.grownBy w' u.ownBlock):Block w' F 40 [.int .i64 A,u]:=
 (hg.block F h.f.lt (by intro he;have:=World.ownsRow.lt h.row F he.symm;omega)).trans h.f
theorem FS.push{w w':World}{p:field.Fd}{z:Value}(h:FS T A b F w0 L s n u w)(hg:w.grownBy w' u.ownBlock)(ho:w'.ownsRow (F+1) 47 5 z (n+1) (fdV (L++[p]))):
  FS T A b F w0 (L++[p]) s (n+1) z (w'.setCell ⟨F,1,none⟩ z):=by
 have hF:=h.held hg;refine⟨hF.setCell 1 z,bM ho (fun g hg=> ?_), ?_, ?_,h.low⟩
 ·have:=World.ownsRow.lt ho g hg;exact Below.heap_setCell w' ⟨F,1,none⟩ z g (by show g≠F;omega)
 ·exact gY (jA h.eye h.row hg (by have:=h.low;omega)) h.low ((But.refl _ F w').setCell 1 z)
 ·exact t82
theorem FS.start{w1:World}(hE:bG T b s w1)(A:Int):FS T A b w1.heap.size w1 [] s 0 (.slice none 0 0) (w1.alloc (.cells (zS A none 0 0) 40)):=
 ⟨Block.new w1 40 (zS A none 0 0),World.ownsRow_nil _ _ _ _,hE.later (field.aI _ _),Below.but (field.aI _ _),hE.lt⟩
end ak
namespace ak
open Go.RowKit pen
set_option maxRecDepth 20000 in
set_option maxHeartbeats 1600000 in
theorem wo(b:Nat)(s:Sight)(w:World)(h:bG 112 b s w):Calls prog 55 #[.pointer (some ⟨b,0,none⟩)] w fun e w'=>
  ∃p:Fm,e=.returned p.val/\p.p=(iT s).1/\w'.ownsRow w.heap.size 47 5 (.slice p.f p.fL.length p.jB) p.fL.length (fdV p.fL)/\bG 112 b (iT s).2 w'/\But w.heap.size b w w':=by
 obtain⟨A,s1,hA⟩:∃A s1,au 200 s=(A,s1):=⟨_,_,rfl⟩;obtain⟨N,s2,hN⟩:∃N s2,au 8 s1=(N,s2):=⟨_,_,rfl⟩;have Ue:N<=8:=by have:=eP 8 s1;rw[show((8:Nat):Int)=8 from rfl,hN] at this;exact this
 have hT:iT s=(((A:Int),(dh N s2).1),(dh N s2).2):=by
  unfold iT;rw[hA];simp only;rw[hN]
 rw[hT];have bI:=h.lt;have qR:=field.aI w (.cells #[.int .i64 0,.slice none 0 0] 40);have c1:=aS b s _ (h.later qR) 200 om_ om_;have c2:=fun w' hE=>aS b s1 w' hE 8 om_ om_
 rw[hA] at c1;rw[hN] at c2;have HR0:=hid (Block.new w 40 [.int .i64 0,.slice none 0 0]);have HB0:=hid qR;have dR:w.heap.size≠b:=by omega
 clear hT hA hN h qR;simp only at c1 c2;unfold Saw at c1 c2;go_enter func55,ntmps55;go_wp2_with (first
  | (go_at_call 52;((with_reducible refine c1.mono ?_);rintro e w1 ⟨rfl,hE1,hu1⟩;have HR1:=hid (bK HR0.o hu1 dR)))
  | (go_at_call 52;((with_reducible refine(c2 _ (hE1.later (field.aI _ _))).mono ?_);rintro e w2 ⟨rfl,hE2,hu2⟩;have HS2:=hid ((FS.start hE1 A).call hE2 hu2))))
 have hsz1:w.heap.size<w1.heap.size:=HR1.o.lt;have bQ:But w.heap.size b w w1:=(Below.but HB0.o).trans (hu1.mono HB0.o.size);have HB1:=hid bQ;have oD:=hid hsz1;obtain⟨F,hF⟩:∃F,Hid (w1.heap.size=F):=⟨_,hid rfl⟩;rw[hF.o] at HS2 oD ⊢;clear hu1 hu2 hE1 hE2 c1 c2 bQ hsz1;go_loopw [9] (fun m wr=>∃k:Nat,k<=N/\m=.int .i64 (k:Int)/\Hid (∃u,FS 112 A b F w1 (dh k s2).1 (dh k s2).2 k u wr)) (fun m _=>N - (intOf m).toNat);case atStart=>exact⟨0,Nat.zero_le _,rfl,hid ⟨_,HS2.o⟩⟩
 case round=>
  obtain⟨k,hk,rfl,HS⟩:=hrel;obtain⟨u,hS⟩:=HS.o;obtain⟨ua,uc,rfl,_⟩:=aP hS.row;by_cases hlt2:k<N
  ·have i1:(k:Int)<N:=by omega
   obtain⟨p,s3,hp⟩:∃p s3,jR (dh k s2).2=(p,s3):=⟨_,_,rfl⟩;have HT1:Hid ((dh (k+1) s2).1=(dh k s2).1++[p]):=hid (by rw[dh,hp]);have HT2:Hid ((dh (k+1) s2).2=s3):=hid (by rw[dh,hp]);have cP:=fun w' hE=>iE b (dh k s2).2 w' hE
   rw[hp] at cP;clear hp HS HS2;generalize (dh k s2).1=L at *;generalize (dh k s2).2=sk at *;have HS:=hid (hS.later (w':=wr.drew) (below_drewN (Below.refl _ _) 1));clear hS;go_wp2;refine plan.qM ?_;have hS:=HS.o;refine plan.free 0 _ (.pointer (some ⟨F,1,none⟩)) rfl kr_ kr_ kr_ kr_ (fun w'=>kr_) ?_;refine plan.free 2 _ (.pointer (some ⟨b,0,none⟩)) rfl kr_ kr_ kr_ kr_ (fun w'=>kr_) ?_;refine plan.toL 3 (fun x y z=> #[true,x,true,y,z,false,false,false]) rfl ?_;refine plan.late 1 3 4 12 14 15 de_ de_ _ _ _ (fun x y z=> #[true,x,true,y,z,false,false,false]) rfl rfl rfl rfl rfl rfl rfl rfl rfl (by intro y z;cases y <;> cases z <;> rfl) (by intro x;cases x <;> rfl) (by intro x;cases x <;> rfl)
    kr_ kr_ kr_ kr_ kr_ (.slice ua k uc) 79 #[.pointer (some ⟨b,0,none⟩)]
    (fun v w'=>v=p.val/\FS 112 A b F w1 L s3 k (.slice ua k uc) w') (fun v w'=>.slice (some ⟨w'.heap.size,0,none⟩) 1 1) (fun v w'=>w'.alloc (.cells (zF p) 47))
    (aU (ad:=⟨F,1,none⟩) rfl (hS.f.cell 1) isAgg38)
    (fun v w' hM=>aU (ad:=⟨F,1,none⟩) rfl (hM.2.f.cell 1) isAgg38)
    (fun v w' hM=>aU (ad:=⟨F,1,none⟩) rfl ((hM.2.f.alloc _).cell 1) isAgg38)
    kr_ kr_ ((cP _ hS.eye).mono ?_) (fun v w' hM=>by obtain⟨rfl,_⟩:=hM;kernel_rfl) (fun v w' hM=>by obtain⟨rfl,_⟩:=hM;kernel_rfl) ?_
   ·rintro e w3 ⟨rfl,rQ,hu3⟩;exact⟨_,rfl,rfl,hS.call rQ hu3⟩
   ·rintro v w3 ⟨rfl,ny⟩;have kK:=ny.later (field.aI w3 (.cells (zF p) 47));refine plan.Fh 5 _ (fun q w5=>w5.ownsRow (F+1) 47 5 q (k+1) (fdV (L++[p]))/\(w3.alloc (.cells (zF p) 47)).grownBy w5 (Value.slice ua k uc).ownBlock) rfl rfl
     (mg (g:=w3.heap.size) rfl kK.row (Block.new w3 47 (fdC p)) om_ kK.f.lt) ?_
    rintro q w5 ⟨uy,hg5⟩;have pR:=kK.held hg5;have nU:=kK.push hg5 uy;obtain⟨qa,qc,rfl,_⟩:=aP uy;refine plan.uK (w1:=w5) 6 _ (.pointer (some ⟨F,1,none⟩)) rfl rfl ?_;refine plan.lastT (w1:=w5.setCell ⟨F,1,none⟩ (.slice qa (k+1) qc)) 7 _ rfl rfl rfl (nR (ad:=⟨F,1,none⟩) rfl (pR.cell 1) (pR.frozen 1)) ?_;have yw:=hid nU;clear nU pR uy hg5 kK ny hS;walk_nrm;go_wp2;exact⟨⟨k+1,by omega,by go_num,hid ⟨_,by rw[HT1.o,HT2.o];exact yw.o⟩⟩,by simp[intOf];omega⟩
  ·obtain rfl:k=N:=by omega
   have hR:=HR1.o.but hS.but oD.o dR;have x0:=hR.cell 0;have x1:=hR.cell 1;have p0:=hR.frozen 0;have p1:=hR.frozen 1;have y0:=hS.f.cell 0;have y1:=hS.f.cell 1;have FZ:=hid hS;have HR3:=hid hR;clear HS hS HS2 hR;go_wp2;have hS:=FZ.o;have hB:=(HR3.o.setCell 0 (.int .i64 (A:Int))).setCell 1 (.slice ua k uc);have SI:=((But.refl wr.heap.size w.heap.size wr).setCell 0 (.int .i64 (A:Int))).setCell 1 (.slice ua k uc);have hE:=gY hS.eye bI SI;have qE:=dM (bM (w':=(wr.setCell ⟨w.heap.size,0,none⟩ (.int .i64 (A:Int))).setCell ⟨w.heap.size,1,none⟩ (.slice ua k uc)) hS.row (fun g hg=>by
    have h1:=World.ownsRow.lt hS.row g hg;have h2:=oD.o;exact SI.2.2.2.2 g h1.2 om_)) (show w.heap.size<=F+1 by have:=oD.o;omega)
   have Am:=di (di (HB1.o.trans (hS.but.mono (Nat.le_of_lt oD.o))) (Nat.le_refl _) 0 (.int .i64 (A:Int))) (Nat.le_refl _) 1 (.slice ua k uc);have hlen:=vC k s2;refine bodyPost_ret (fU (b:=w.heap.size) (o:=0) rfl rfl hB.whole underlying40 rfl (ED _ _)) rfl ⟨⟨A,ua,uc,(dh k s2).1⟩, ?_,rfl, ?_,hE,Am⟩
   ·show _=Ending.returned (.agg #[.int .i64 (A:Int),.slice ua (dh k s2).1.length uc])
    rw[hlen];rfl
   ·show World.ownsRow _ _ _ _ (.slice ua (dh k s2).1.length uc) (dh k s2).1.length _
    rw[hlen];exact qE
end ak
namespace ak
open Go.RowKit pen
structure SS (T:TypeId) (V:Int) (b S:Nat) (w0:World) (P:List Fm) (s:Sight) (n:Nat) (u:Value) (wr:World):Prop where
 f:Block wr S 24 [.int .i64 V,u]
 row:wr.ownsRow (S+1) 40 2 u n (fmV P)
 each:∀p∈P,zY (S+1) wr p
 eye:bG T b s wr
 but:But S b w0 wr
 low:b<S
variable {T:TypeId} {V:Int} {b S n:Nat} {w0:World} {P:List Fm} {s:Sight} {u:Value}
theorem SS.later{w w':World}(h:SS T V b S w0 P s n u w)(hb:Below w.heap.size w w'):SS T V b S w0 P s n u w':=
 ⟨h.f.later hb,dL h.row hb,fun p hp=>dL (h.each p hp) hb,h.eye.later hb,h.but.trans ((Below.but hb).mono (Nat.le_of_lt h.f.lt)),h.low⟩
theorem kX{w w':World}{B e sz n:Nat}{u:Value}{xs:List Value}(h:w.ownsRow B e sz u n xs)(hu:But w.heap.size b w w')(hb:b<B):w'.ownsRow B e sz u n xs:=
 bM h (fun g hg=>by have:=World.ownsRow.lt h g hg;exact hu.2.2.2.2 g om_ om_)
theorem SS.call{w w':World}{s':Sight}(h:SS T V b S w0 P s n u w)(hE:bG T b s' w')(hu:But w.heap.size b w w'):SS T V b S w0 P s' n u w':=
 ⟨bK h.f hu (Nat.ne_of_gt h.low),kX h.row hu (by have:=h.low;omega),fun p hp=>kX (h.each p hp) hu (by have:=h.low;omega),hE,h.but.trans (hu.mono (Nat.le_of_lt h.f.lt)),h.low⟩
theorem SS.held{w w':World}(h:SS T V b S w0 P s n u w)(hg:w.grownBy w' u.ownBlock):Block w' S 24 [.int .i64 V,u]:=
 (hg.block S h.f.lt (by intro he;have:=World.ownsRow.lt h.row S he.symm;omega)).trans h.f
theorem fK{w:World}{B e sz n S o:Nat}{u v:Value}{xs:List Value}(h:w.ownsRow B e sz u n xs)(hS:S<B):(w.setCell ⟨S,o,none⟩ v).ownsRow B e sz u n xs:=
 bM h (fun g hg=>by have:=World.ownsRow.lt h g hg;exact Below.heap_setCell w ⟨S,o,none⟩ v g (by show g≠S;omega))
theorem SS.push{w w':World}{p:Fm}{z:Value}(h:SS T V b S w0 P s n u w)(hp:zY (S+1) w p)(hg:w.grownBy w' u.ownBlock)(ho:w'.ownsRow (S+1) 40 2 z (n+1) (fmV (P++[p]))):
  SS T V b S w0 (P++[p]) s (n+1) z (w'.setCell ⟨S,1,none⟩ z):=by
 have hF:=h.held hg;have hst:=eU 47 h.row hg LU;refine⟨hF.setCell 1 z,fK ho om_,fun q hq=> ?_, ?_, ?_,h.low⟩
 ·refine fK (hst.row ?_) om_;rcases List.mem_append.1 hq with h1 | h1
  ·exact h.each q h1
  ·rw[List.mem_singleton.1 h1];exact hp
 ·exact gY (jA h.eye h.row hg (by have:=h.low;omega)) h.low ((But.refl _ S w').setCell 1 z)
 ·exact t82
theorem SS.start{w1:World}(hE:bG T b s w1)(V:Int):SS T V b w1.heap.size w1 [] s 0 (.slice none 0 0) (w1.alloc (.cells (zS V none 0 0) 24)):=
 ⟨Block.new w1 24 (zS V none 0 0),World.ownsRow_nil _ _ _ _,by simp,hE.later (field.aI _ _),Below.but (field.aI _ _),hE.lt⟩
theorem SS.list{w:World}{a:Option Addr}{c:Nat}(h:SS T V b S w0 P s n (.slice a n c) w):FmL w a P/\n=P.length:=
 ⟨⟨(xX h.row).1,fun p hp=>(h.each p hp).ok⟩,(xX h.row).2.1⟩
theorem uT(x y:Value):(prog.info? 24).map (·.size)=some [x,y].length:=by kernel_rfl
def fG(xs:List Nat)(w:World)(e:Ending)(w':World):Prop:=
 ∃(a:Option Addr) (c:Nat) (F:List Fm),e=.returned (.tuple #[.agg #[.int .i64 (parsed xs).1,.slice a F.length c],.int .i64 ((parsed xs).2.2:Int)])/\forms F=(parsed xs).2.1/\Upon w.heap.size w' (fun v=>FmL v a F)/\Below w.heap.size w w'
theorem kM{xs:List Nat}{w w5:World}{E:Nat}(h:parsed xs=(0,[],E))(hb:Below w.heap.size w w5):
  fG xs w (.returned (.tuple #[.agg #[.int .i64 0,.slice none 0 0],.int .i64 (E:Int)])) ((w5.setCell ⟨w.heap.size,0,none⟩ (.int .i64 0)).setCell ⟨w.heap.size,1,none⟩ (.slice none 0 0)):=by
 unfold fG;rw[h];exact⟨none,0,[],rfl,rfl,fun _ _ _=>⟨.inl rfl,by simp⟩,below_setCells (below_setCells hb (Nat.le_refl _) 0 [.int .i64 0]) (Nat.le_refl _) 1 [.slice none 0 0]⟩
theorem Bd{xs:List Nat}{w w6:World}{ua:Option Addr}{uc:Nat}{L:List Form}(h:parsed xs=(V,L,0))(hL:forms P=L)(hS:SS T V b S w0 P s n (.slice ua n uc) w6)(hR:w.heap.size<S)(hb:Below w.heap.size w w6):
  fG xs w (.returned (.tuple #[zS V ua n uc,.int .i64 0])) ((w6.setCell ⟨w.heap.size,0,none⟩ (.int .i64 V)).setCell ⟨w.heap.size,1,none⟩ (.slice ua n uc)):=by
 unfold fG;rw[h];have qE:=fK (S:=w.heap.size) (o:=1) (v:=.slice ua n uc) (fK (S:=w.heap.size) (o:=0) (v:=.int .i64 V) hS.row om_) om_;have hn:=hS.list.2;refine⟨ua,uc,P,by rw[hn];rfl,hL,fun z h1 h2=>⟨(xX (bM qE fun g hg=>by have:=World.ownsRow.lt qE g hg;exact h2 g om_ this.2)).1,fun p hp=>zY.ok (B:=S+1) ?_⟩,below_setCells (below_setCells hb (Nat.le_refl _) 0 [.int .i64 V]) (Nat.le_refl _) 1 [.slice ua n uc]⟩;have he:=fK (S:=w.heap.size) (o:=1) (v:=.slice ua n uc) (fK (S:=w.heap.size) (o:=0) (v:=.int .i64 V) (hS.each p hp) om_) om_;exact bM he fun g hg=>by have:=World.ownsRow.lt he g hg;exact h2 g om_ this.2
end ak
end Go.Proofs.Ytogfefdlffmioaa
