/- Contracts and lemmas that claims of this seat share: Boxes, StepTakeS, StepLS, SchemaFixP, StepRange, StepRefSameL. Each says its own conditions. -/
import Derived.Test.YtogfefdlffmioaaCmWord
import Derived.Test.YtogfefdlffmioaaCmAK
import Derived.Test.YtogfefdlffmioaaCmAT
import Derived.Test.YtogfefdlffmioaaCmM
import Derived.Test.YtogfefdlffmioaaCmAF
import Derived.Test.YtogfefdlffmioaaCmAG
import Derived.Test.YtogfefdlffmioaaCmF
import Derived.Test.YtogfefdlffmioaaCmAO
set_option linter.unusedVariables false
namespace Go.Proofs.Ytogfefdlffmioaa
open Go.Proofs.Try
section
open Go Go.RowKit
def boxes:World->List (TypeId×List Value)->World
 | w,[]=>w
 | w,(t,cs) :: r=>boxes (w.alloc (.cells cs.toArray t)) r
def Boxed(w:World):Nat->List (TypeId×List Value)->Prop
 | _,[]=>True
 | b,(t,cs) :: r=>Block w b t cs/\Boxed w (b+1) r
theorem Boxed.later{w w':World}(hb:Below w.heap.size w w'):∀ {b:Nat} {l:List (TypeId×List Value)},Boxed w b l->Boxed w' b l
 | _,[],_=>trivial
 | _,(_,_) :: _,⟨h,k⟩=>⟨h.later hb,Boxed.later hb k⟩
theorem jW:∀(l:List (TypeId×List Value)) (w:World),Below w.heap.size w (boxes w l)/\(boxes w l).heap.size=w.heap.size+l.length/\Boxed (boxes w l) w.heap.size l
 | [],w=>⟨Below.refl _ _,rfl,trivial⟩
 | (t,cs) :: r,w=>by
  obtain⟨h1,h2,h3⟩:=jW r (w.alloc (.cells cs.toArray t));have hn:Below w.heap.size w (w.alloc (.cells cs.toArray t)):=(Below.refl _ _).alloc (Nat.le_refl _) _;have hs:(w.alloc (.cells cs.toArray t)).heap.size=w.heap.size+1:=by simp
  unfold boxes;refine⟨hn.trans (h1.mono hn.size),by rw[h2,hs,List.length_cons];omega,(Block.new w t cs).later h1, ?_⟩;rw[<-hs];exact h3
theorem fH(w:World)(l:List (TypeId×List Value)):∃W,Hid (boxes w l=W)/\Below w.heap.size w W/\Hid (W.heap.size=w.heap.size+l.length)/\Hid (∀w',Below W.heap.size W w'->Boxed w' w.heap.size l/\Below w.heap.size w w'):=
 ⟨_,hid rfl,(jW l w).1,hid (jW l w).2.1,hid fun w' hb=>⟨(jW l w).2.2.later hb,(jW l w).1.trans (hb.mono (jW l w).1.size)⟩⟩
end
theorem t26{P:Prop}(h:P:=by
 exact⟨Nat.le_add_right _ _,Nat.le_add_right _ _⟩):P:=h
namespace step
open Go.RowKit pen
open field (aI)
open ak (eP bK di gY dM oL ig fdV aH)
theorem BB{c:UInt8}(hc:Letter c)(s:Sp)(e:Sight):(dN c s e).1.t.length<=s.t.length+64/\(dN c s e).1.l.length<=s.l.length+64:=by
 rcases hc with rfl | rfl | rfl | rfl | rfl | rfl | rfl | rfl | rfl | rfl
 ·exact t26
 ·exact t26
 ·exact t26
 ·exact t26
 ·exact t26
 ·exact t26
 ·exact t26
 ·exact t26
 ·refine⟨?_,Nat.le_add_right _ _⟩;show(s.t++(aV (au 64 e).1 (au 64 e).2).1).length<=_
  rw[List.length_append,mY];have:=eP 64 e;have h2:(au 64 e).1<=64:=this;omega
 ·refine⟨Nat.le_add_right _ _, ?_⟩;show(s.l++(bT (au 8 e).1 (au 8 e).2).1).length<=_
  rw[List.length_append,pY];have:=eP 8 e;have h2:(au 8 e).1<=8:=this;omega
theorem zy:∀(cs:List UInt8) (s:Sp) (e:Sight),(∀c∈cs,Letter c)->(run cs (s,e)).1.t.length<=s.t.length+64*cs.length/\(run cs (s,e)).1.l.length<=s.l.length+64*cs.length
 | [],s,e,_=>⟨Nat.le_refl _,Nat.le_refl _⟩
 | c :: cs,s,e,h=>by
  have h1:=BB (h c si_) s e;have h2:=zy cs (dN c s e).1 (dN c s e).2 (fun d hd=>h d (by simp[hd]));have h3:run (c :: cs) (s,e)=run cs ((dN c s e).1,(dN c s e).2):=rfl;rw[h3];simp only[List.length_cons];omega
def runK(op:Int)(e:Sight)(k:Nat):Sp×Sight:=run (((mem op).take k).map lets).flatten (jD op,e)
theorem Du{op:Int}{e:Sight}{k m:Nat}(h:(mem op)[k]?=some m):runK op e (k+1)=run (lets m) ((runK op e k).1,(runK op e k).2):=by
 unfold runK;rw[aH h,List.map_append,List.flatten_append,Hf];simp
theorem FI(op:Int)(e:Sight):runK op e (mem op).length=run (uses op) (jD op,e):=by
 unfold runK;rw[List.take_of_length_le (Nat.le_refl _),<-vN]
theorem yX:∀m,m<12->∀c∈lets m,Letter c:=by decide
theorem Dt(op:Int)(e:Sight)(k:Nat):(runK op e k).1.t.length<=900/\(runK op e k).1.l.length<=900:=by
 have hL:∀c∈(((mem op).take k).map lets).flatten,Letter c:=by
  intro c hc;obtain⟨l,hl,hcl⟩:=List.mem_flatten.1 hc;obtain⟨m,hm,rfl⟩:=List.mem_map.1 hl;exact yX m (uI op m (List.mem_of_mem_take hm)) c hcl
 have h1:=zy _ (jD op) e hL;have h2:((((mem op).take k).map lets).flatten).length<=2*((mem op).take k).length:=by
  have h0:∀M:List Nat,(∀m∈M,m<12)->((M.map lets).flatten).length<=2*M.length:=by
   intro M;induction M with
   | nil=>intro _;simp
   | cons m M ih=>
    intro h;have h3:∀m,m<12->(lets m).length<=2:=by decide
    have h4:=h3 m (h m si_);have h5:=ih (fun q hq=>h q (by simp[hq]));simp only[List.map_cons,List.flatten_cons,List.length_append,List.length_cons];omega
  exact h0 _ (fun m hm=>uI op m (List.mem_of_mem_take hm))
 have h3:((mem op).take k).length<=5:=by have:=qH op;simp;omega
 have h4:(jD op).t.length=0:=rfl;have h5:(jD op).l.length=0:=rfl;unfold runK;omega
theorem sN.Nv{w w':World}{a:Option Addr}{op:Int}(h:sN w a op)(hs:StayM w w'):sN w' a op:=by
 rcases h with h | ⟨q,rfl,hB⟩
 ·exact .inl h
 ·exact .inr ⟨q,rfl,hs.block hB⟩
theorem jJ{S:Nat}(Q:World->Prop)(hq:∀w o v,Q w->Q (w.setCell ⟨S,o,none⟩ v)):∀(vs:List Value) (o:Nat) (w:World),Q w->Q (w.setCells S o vs)
 | [],_,_,h=>h
 | v :: vs,o,w,h=>jJ Q hq vs (o+1) _ (hq w o v h)
theorem jh.past{B S:Nat}{w:World}{p:St}(h:jh B w p)(hS:S<B)(o:Nat)(vs:List Value):jh B (w.setCells S o vs) p:=
 jJ (fun w=>jh B w p) (fun w o v h=>⟨fK h.1 hS,fK h.2 hS⟩) vs o w h
theorem xH{Ty:TypeId}{b S:Nat}{e:Sight}{w:World}(h:bG Ty b e w)(hS:b<S)(o:Nat)(vs:List Value):bG Ty b e (w.setCells S o vs):=
 jJ (fun w=>bG Ty b e w) (fun w o v h=>gY h hS ((But.refl _ S w).setCell o v)) vs o w h
theorem xw{B b S:Nat}{a w:World}(h:But B b a w)(hS:B<=S)(o:Nat)(vs:List Value):But B b a (w.setCells S o vs):=
 jJ (fun w=>But B b a w) (fun w o v h=>di h hS o v) vs o w h
theorem Dx(v0 v1 v2 v3 v4 v5 v6 v7 v8 v9 v10 v11 v12 v13 v14 v15:Value):(prog.info? 52).map (·.size)=some [v0,v1,v2,v3,v4,v5,v6,v7,v8,v9,v10,v11,v12,v13,v14,v15].length:=by kernel_rfl
def A7(b:Nat)(e:Sight)(Ty:TypeId)(w:World)(en:Ending)(w':World):Prop:=
 ∃p:St,en=.returned p.val/\p.s=(jS e).1/\jh w.heap.size w' p/\bG Ty b (jS e).2 w'/\But w.heap.size b w w'
theorem DJ{Ty:TypeId}{b T:Nat}{w w1 wr:World}{s:Sp}{e:Sight}{ta la:Option Addr}{tc lc:Nat}(h:TS Ty b T w1 s e ta tc la lc wr)(hR:Block wr w.heap.size 52 Z16)(bQ:But w.heap.size b w w1)(bI:b<w.heap.size)(Uf:w.heap.size<T):
  Block (wr.setCells w.heap.size 0 (zP s ta tc la lc)) w.heap.size 52 (zP s ta tc la lc)/\jh w.heap.size (wr.setCells w.heap.size 0 (zP s ta tc la lc)) ⟨s,ta,tc,la,lc⟩/\bG Ty b e (wr.setCells w.heap.size 0 (zP s ta tc la lc))/\But w.heap.size b w (wr.setCells w.heap.size 0 (zP s ta tc la lc)):=
 ⟨hR.setCells,((show jh (T+1) wr ⟨s,ta,tc,la,lc⟩ from ⟨h.rt,h.rl⟩).past om_ 0 _).low om_,xH h.eye bI 0 _,xw (bQ.trans (h.but.mono (Nat.le_of_lt Uf))) (Nat.le_refl _) 0 _⟩
set_option maxRecDepth 20000 in
set_option maxHeartbeats 3200000 in
theorem wu(b:Nat)(e:Sight)(w:World)(h:bG 112 b e w):Calls prog 56 #[.pointer (some ⟨b,0,none⟩)] w (A7 b e 112 w):=by
 obtain⟨A,e1,hA⟩:∃A q,au 30 e=(A,q):=⟨_,_,rfl⟩;have hT:jS e=runK (A:Int) e1 (mem (A:Int)).length:=by rw[FI];unfold jS;rw[hA]
 have bI:=h.lt;have qR:=aI w (.cells zZ 52);have c1:=aS b e _ (h.later qR) 30 om_ om_;rw[hA] at c1;have HR0:=hid (Block.new w 52 Z16);have HB0:=hid qR;have dR:w.heap.size≠b:=by omega
 have cM:=fun w'=>og (A:Int) w'
 have qV:=hid hT;unfold A7;clear hT hA h qR;unfold Saw at c1;unfold qj at cM;go_enter func56,ntmps56;go_wp2_with (first
  | (go_at_call 52;((with_reducible refine c1.mono ?_);clear c1;rintro en w1 ⟨rfl,hE1,hu1⟩;have HR1:=hid (bK HR0.o hu1 dR);have TW:=hid (TS.start hE1 (A:Int));have sK:=hid hu1;clear hE1 hu1))
  | (go_at_call 61;((with_reducible refine(cM _).mono ?_);rintro en w2 ⟨aM,Sz,rfl,hM,aQ⟩;have LH:=hid (TW.o.later aQ);have HM:=hid hM;clear hM aQ)))
 clear cM;have HB1:=hid ((Below.but HB0.o).trans (sK.o.mono HB0.o.size));have oD:=hid (show w.heap.size<w1.heap.size from HR1.o.lt);obtain⟨T,hTe⟩:∃T,Hid (w1.heap.size=T):=⟨_,hid rfl⟩;rw[hTe.o] at LH oD ⊢;obtain⟨N,hN⟩:∃N:Nat,Hid ((mem (A:Int)).length=N):=⟨_,hid rfl⟩;have SG:N<=5:=by rw[<-hN.o];exact qH _
 rw[hN.o] at qV ⊢;go_loopw [13] (fun m wr=>∃k:Nat,k<=N/\m=.int .i64 (k:Int)/\Hid (∃ta tc la lc,TS 112 b T w1 (runK (A:Int) e1 k).1 (runK (A:Int) e1 k).2 ta tc la lc wr)/\Hid (sN wr aM (A:Int))) (fun m _=>N - (intOf m).toNat);case atStart=>exact⟨0,Nat.zero_le _,rfl,hid ⟨_,_,_,_,LH.o⟩,HM⟩
 case round=>
  obtain⟨k,hk,rfl,HS,RU⟩:=hrel;obtain⟨ta,tc,la,lc,hS⟩:=HS.o;by_cases hltk:k<N
  ·obtain⟨b2,off2,m,rfl,MO,hm,D9,e0⟩:=rq RU.o.ins (Below.refl _ _) (k:=k) (by rw[hN.o];exact hltk);have i1:(k:Int)<N:=by omega
   have iM:=hid (Du (e:=e1) hm);have Qn:=Dt (A:Int) e1 k;have cP:=sQ m D9 _ Qn.1 Qn.2 hS;unfold eH at cP;clear hm Qn hS HS;go_wp2_with (go_at_call 80;((with_reducible refine cP.mono ?_);clear cP;rintro en w3 ⟨rfl,KY,hK3⟩;have HT3:=hid KY;have TG:=hid hK3;clear KY hK3));exact⟨⟨k+1,by omega,by go_num,hid (by rw[iM.o];exact HT3.o),hid (RU.o.Nv TG.o)⟩,by simp[intOf];omega⟩
  ·obtain rfl:k=N:=by omega
   have HR2:=hid (HR1.o.but hS.but oD.o dR);obtain⟨s,hs⟩:∃s,Hid ((runK (A:Int) e1 k).1=s):=⟨_,hid rfl⟩;rw[hs.o] at hS;have HS2:=hid hS;have hR2:=HR2.o;have hf:=hS.f;have x0:=hR2.cell 0;have p0:=hR2.frozen 0;have y0:=hf.cell 0;have x1:=hR2.cell 1;have p1:=hR2.frozen 1;have y1:=hf.cell 1;have x2:=hR2.cell 2;have p2:=hR2.frozen 2;have y2:=hf.cell 2;have x3:=hR2.cell 3;have p3:=hR2.frozen 3;have y3:=hf.cell 3;have x4:=hR2.cell 4;have p4:=hR2.frozen 4;have y4:=hf.cell 4;have x5:=hR2.cell 5;have p5:=hR2.frozen 5;have y5:=hf.cell 5;have x6:=hR2.cell 6;have p6:=hR2.frozen 6;have y6:=hf.cell 6;have x7:=hR2.cell 7;have p7:=hR2.frozen 7;have y7:=hf.cell 7;have x8:=hR2.cell 8;have p8:=hR2.frozen 8;have y8:=hf.cell 8;have x9:=hR2.cell 9;have p9:=hR2.frozen 9;have y9:=hf.cell 9;have x10:=hR2.cell 10;have p10:=hR2.frozen 10;have Ir:=hf.cell 10;have x11:=hR2.cell 11;have p11:=hR2.frozen 11;have NR:=hf.cell 11;have x12:=hR2.cell 12;have p12:=hR2.frozen 12;have NS:=hf.cell 12;have Ny:=hR2.cell 13;have p13:=hR2.frozen 13;have y13:=hf.cell 13;have x14:=hR2.cell 14;have Xg:=hR2.frozen 14;have Hy:=hf.cell 14;have x15:=hR2.cell 15;have Xh:=hR2.frozen 15;have Oi:=hf.cell 15;clear hS HS hR2 hf;go_wp2;obtain⟨k1,k2,k3,k4⟩:=DJ HS2.o HR2.o HB1.o bI oD.o;exact bodyPost_ret (fU (b:=w.heap.size) (o:=0) rfl rfl k1.whole underlying52 rfl (Dx _ _ _ _ _ _ _ _ _ _ _ _ _ _ _ _)) rfl ⟨⟨s,ta,tc,la,lc⟩,rfl,by rw[qV.o];exact hs.o.symm,k2,by rw[qV.o];exact k3,k4⟩
end step
namespace step
open Go.RowKit pen
open field (aI)
open ak (ji eU dM ig jy jA jw)
structure LS (Ty:TypeId) (b B:Nat) (w0:World) (P:List St) (e:Sight) (ua:Option Addr) (uc:Nat) (wr:World):Prop where
 row:wr.ownsRow B 52 16 (.slice ua P.length uc) P.length (stV P)
 each:∀p∈P,jh B wr p
 eye:bG Ty b e wr
 but:But B b w0 wr
 low:b<B
 size:B<=wr.heap.size
variable {Ty:TypeId} {b B:Nat} {w0:World} {P:List St} {e:Sight} {ua:Option Addr} {uc:Nat}
theorem jh.but{w w':World}{p:St}(h:jh B w p)(hu:But w.heap.size b w w')(hb:b<B):jh B w' p:=⟨kX h.1 hu hb,kX h.2 hu hb⟩
theorem LS.later{w w':World}(h:LS Ty b B w0 P e ua uc w)(hb:Below w.heap.size w w'):LS Ty b B w0 P e ua uc w':=
 ⟨dL h.row hb,fun p hp=>(h.each p hp).later hb,h.eye.later hb,h.but.trans ((Below.but hb).mono h.size),h.low,Nat.le_trans h.size hb.size⟩
theorem LS.call{w w':World}{e':Sight}(h:LS Ty b B w0 P e ua uc w)(hE:bG Ty b e' w')(hu:But w.heap.size b w w'):LS Ty b B w0 P e' ua uc w':=
 ⟨kX h.row hu h.low,fun p hp=>(h.each p hp).but hu h.low,hE,h.but.trans (hu.mono h.size),h.low,Nat.le_trans h.size hu.2.2.2.1⟩
theorem LS.push{w w':World}{p:St}{q:Option Addr}{qc:Nat}(h:LS Ty b B w0 P e ua uc w)(hp:jh B w p)(hg:w.grownBy w' (Value.slice ua P.length uc).ownBlock)(ho:w'.ownsRow B 52 16 (.slice q (P.length+1) qc) (P.length+1) (stV (P++[p]))):
  LS Ty b B w0 (P++[p]) e q qc w':=by
 have hs1:=eU 3 h.row hg KE;have hs2:=eU 47 h.row hg Nu;have JW:(P++[p]).length=P.length+1:=by simp
 refine⟨by rw[JW];exact ho,fun r hr=> ?_,jA h.eye h.row hg h.low,jw h.but h.row hg h.size,h.low,Nat.le_trans h.size hg.size⟩;rcases List.mem_append.1 hr with h1 | h1
 ·exact⟨hs1.row (h.each r h1).1,hs2.row (h.each r h1).2⟩
 ·rw[List.mem_singleton.1 h1];exact⟨hs1.row hp.1,hs2.row hp.2⟩
theorem LS.start{w:World}(hE:bG Ty b e w):LS Ty b w.heap.size w [] e none 0 w:=
 ⟨World.ownsRow_nil _ _ _ _,by simp,hE,But.refl _ _ _,hE.lt,Nat.le_refl _⟩
theorem LS.list{w:World}(h:LS Ty b B w0 P e ua uc w):StL w ua P:=⟨Ci h.row,fun p hp=>(h.each p hp).lists⟩
theorem LS.upon{w:World}{B':Nat}(h:LS Ty b B w0 P e ua uc w)(hB:B'<=B):Upon B' w (fun v=>StL v ua P):=fun v h1 h2=>by
 have hw:∀ {e sz n:Nat} {u:Value} {xs:List Value},w.ownsRow B e sz u n xs->v.ownsRow B e sz u n xs:=fun ho=>bM ho fun g hg=>by have:=World.ownsRow.lt ho g hg;exact h2 g om_ this.2
 exact⟨Ci (hw h.row),fun p hp=>jh.lists ⟨hw (h.each p hp).1,hw (h.each p hp).2⟩⟩
def fG(xs:List Nat)(w:World)(en:Ending)(w':World):Prop:=
 ∃(a:Option Addr) (c:Nat) (P:List St),en=.returned (.tuple #[.slice a P.length c,.int .i64 ((parsed xs).2:Int)])/\bV P=(parsed xs).1/\Upon w.heap.size w' (fun v=>StL v a P)/\P.length<=40/\Below w.heap.size w w'
theorem kM{xs:List Nat}{w w5:World}{E:Nat}(h:parsed xs=([],E))(hb:Below w.heap.size w w5):fG xs w (.returned (.tuple #[.slice none 0 0,.int .i64 (E:Int)])) w5:=by
 unfold fG;rw[h];exact⟨none,0,[],rfl,rfl,fun v _ _=>StL.nil v,by simp,hb⟩
end step
namespace ak
open Go.RowKit pen
theorem oM{a:Option Addr}{c:Nat}{xs:List Nat}{w:World}(hr:Reads .u8 w a xs.length xs)(hx:∀c∈xs,c<256)(hl:xs.length<=140737488355328){V:Int}{P:List Form}{E:Nat}(Z:Int)(hz:Z=(E:Int))(hP:parsed xs=(V,P,E)):
  Calls prog 29 #[.slice a xs.length c] w fun e w'=>∃(a:Option Addr) (c:Nat) (F:List Fm),e=.returned (.tuple #[zS V a F.length c,.int .i64 Z])/\forms F=P/\Upon w.heap.size w' (fun v=>FmL v a F)/\Below w.heap.size w w':=by
 have h:=parse_any a c xs w hr hx hl;unfold fG at h;rw[hP] at h;rw[hz];exact h
theorem pW(xs:List Nat):(parsed xs).2.1.length<=8:=by
 have hN:(jr xs).1<=8:=eP 8 (lM xs).2;have hl:(jl xs).1.length=(jr xs).1:=sF _ _;unfold parsed;split
 ·simp
 ·split
  ·simp only;omega
  ·simp
theorem pX(v:Int)(F:List Form):∀c∈dU v F,c<256:=by
 have hf:∀f,∀c∈iQ f,c<256:=by
  intro f c hc;unfold iQ at hc;simp only[List.mem_append] at hc;rcases hc with (h | h) | h
  ·exact iw _ c h
  ·exact iw _ c h
  ·split at h
   ·rcases List.mem_append.1 h with h | h <;> exact iw _ c h
   ·split at h
    ·exact iw _ c h
    ·simp at h
 have hm:∀p,∀c∈ng p,c<256:=by
  intro p c hc;unfold ng fieldsB at hc;simp only[List.mem_append,List.mem_flatten,List.mem_map] at hc;rcases hc with (h | h) | ⟨l,⟨f,_,rfl⟩,h⟩
  ·exact iw _ c h
  ·exact iw _ c h
  ·exact hf f c h
 intro c hc;unfold dU dX at hc;simp only[List.mem_append,List.mem_flatten,List.mem_map] at hc;rcases hc with (h | h) | ⟨l,⟨f,_,rfl⟩,h⟩
 ·exact iw _ c h
 ·exact iw _ c h
 ·exact hm f c h
end ak
namespace step
open Go.RowKit
theorem jd{o:Oper}{a:Act}{w:World}{x y:Operand}{b off len cap i:Nat}(ho:o.op=.indexAddr 25 x y)(hi:i<len)(hx:a.eval x=.slice (some ⟨b,off,none⟩) len cap:=by kernel_rfl)(hy:a.eval y=.int .i64 (i:Int):=by kernel_rfl):
  (execOp a.eval o).run prog w=.ok (.value (.pointer (some ⟨b,off+i*16,none⟩))) w:=by
 exact t75
theorem step_range{w w':World}{a:Option Addr}{L:List St}(h:StL w a L)(hb:Below w.heap.size w w'){k:Nat}(hk:k<L.length):
  ∃b off p,a=some ⟨b,off,none⟩/\b<w'.heap.size/\L[k]?=some p/\Lists w' p.s p.ta p.la/\w'.rangeAt b (off+k*16) p.C:=by
 have h':=h.below hb;rcases h'.row with rfl | ⟨b,off,ha,bI,hc⟩
 ·simp at hk
 ·have hp:=List.getElem?_eq_getElem hk;exact⟨b,off,_,ha,bI,hp,h'.each _ (List.mem_of_getElem? hp),fun j v hj=>hc k _ hp j v hj⟩
end step
theorem t29{P:Prop}(h:P:=by
 obtain rfl:k=L.length:=by omega
 obtain rfl:true=r:=by
  rw[<-hr.o];have:=qU.o;rw[List.take_of_length_le (by rw[qQ.o];exact Nat.le_refl _),List.take_of_length_le (by rw[IB.o,HLEN.o];exact Nat.le_refl _)] at this;exact(decide_eq_true this).symm
 go_wp2;go_ret;exact⟨rfl,HB.o⟩):P:=h
namespace step
open Go.RowKit
open field (Gives aI ay)
open ak (aX bJ aj fE aH)
theorem xC{L M:List Sp}{k:Nat}{p q:Sp}(hp:L[k]?=some p)(hq:M[k]?=some q):L.take (k+1)=M.take (k+1)↔L.take k=M.take k/\p=q:=by
 rw[aH hp,aH hq];constructor
 ·exact t83
 ·rintro⟨h1,h2⟩;rw[h1,h2]
set_option maxRecDepth 20000 in
set_option maxHeartbeats 1600000 in
theorem nG(a:Option Addr)(c:Nat)(L:List St)(b:Option Addr)(d:Nat)(M:List St)(w:World)(h:StL w a L)(h':StL w b M)(hL:L.length<=maxLen)(hM:M.length<=maxLen):
  Calls prog 22 #[.slice a L.length c,.slice b M.length d] w (Gives (.bool (decide (bV L=bV M))) w):=by
 have hml:(L.length:Int)<=9223372036854775807:=by unfold maxLen at hL;omega
 have hmm:(M.length:Int)<=9223372036854775807:=by unfold maxLen at hM;omega
 have HF:=hid h;have HG:=hid h';have qQ:=hid (dI L);have IB:=hid (dI M);obtain⟨r,hr⟩:∃r:Bool,Hid (decide (bV L=bV M)=r):=⟨_,rfl⟩;rw[hr.o];unfold Gives;clear h h' hL hM;by_cases hlen:L.length=M.length
 ·have HLEN:=hid hlen;rw[<-hlen];clear hlen hmm;go_enter func22,ntmps22;go_wp2;go_loopw [5] (fun n wr=>∃k:Nat,k<=L.length/\n=.int .i64 (k:Int)/\Hid ((bV L).take k=(bV M).take k)/\Hid (Below w.heap.size w wr)) (fun n _=>L.length - (intOf n).toNat);case atStart=>exact⟨0,Nat.zero_le _,rfl,hid rfl,hid (Below.refl _ _)⟩
  case round=>
   obtain⟨k,hk,rfl,qU,HB⟩:=hrel;by_cases bI:k<L.length
   ·obtain⟨g,off,p,rfl,jV,hp,Aq,c0⟩:=step_range HF.o (bJ HB.o) bI;obtain⟨g',off',q,rfl,qX,hq,Ar,d0⟩:=step_range HG.o (bJ HB.o) (k:=k) (by rw[<-HLEN.o];exact bI);have i1:(k:Int)<L.length:=by omega
    have HS:=hid (xC (gU hp) (gU hq));have tN:=hid (fun(fQ:¬p.s=q.s)=>show ¬bV L=bV M from fun e=>by have h1:=gU hp;rw[e] at h1;exact fQ (Option.some.inj (h1.symm.trans (gU hq))));obtain⟨s,ta,tc,la,lc⟩:=p;obtain⟨u,ua,uc,va,vc⟩:=q;simp only at HS tN c0 d0 Aq Ar;have cS:=iG s ta tc la lc u ua uc va vc wr.drew Aq Ar;unfold Gives at cS;have RZ:Hid (wr.drew.rangeAt g (off+k*16) (zP s ta tc la lc)):=hid c0;have HP2:Hid (wr.drew.rangeAt g' (off'+k*16) (zP u ua uc va vc)):=hid d0;have yE:=hid jV;have HL2:=hid qX;clear hp hq Aq Ar c0 d0;by_cases fQ:s=u
    ·rw[decide_eq_true fQ] at cS;have HPQ:=hid fQ;clear fQ;go_wp2;refine plan.xY (S:=fun w'=>Below wr.drew.heap.size wr.drew w') ?_;have hS:=Below.refl wr.drew.heap.size wr.drew;refine plan.gm 0 _ (.slice (some ⟨g,off,none⟩) L.length c) rfl (fun w' qy=>kr_) hS ?_;refine plan.gm 1 _ (.int .i64 (k:Int)) rfl (fun w' qy=>kr_) hS ?_;refine plan.gm 2 _ (.pointer (some ⟨g,off+k*16,none⟩)) rfl (fun w' qy=>jd (cap:=c) rfl bI) hS ?_;refine plan.gm 3 _ (zP s ta tc la lc) rfl (fun w' qy=>aj (b:=g) (off:=off+k*16) rfl (fE RZ.o qy yE.o) underlying52 rfl dS.o) hS ?_;refine plan.gm 4 _ (.slice (some ⟨g',off',none⟩) L.length d) rfl (fun w' qy=>kr_) hS ?_;refine plan.gm 5 _ (.int .i64 (k:Int)) rfl (fun w' qy=>kr_) hS ?_;refine plan.gm 6 _ (.pointer (some ⟨g',off'+k*16,none⟩)) rfl (fun w' qy=>jd (cap:=d) rfl bI) hS ?_;refine plan.gm 7 _ (zP u ua uc va vc) rfl (fun w' qy=>aj (b:=g') (off:=off'+k*16) rfl (fE HP2.o qy HL2.o) underlying52 rfl dS.o) hS ?_;refine plan.En 8 _ 45 #[zP s ta tc la lc,zP u ua uc va vc] rfl (cS.mono ?_);rintro e w3 ⟨rfl,fD⟩;refine⟨_,rfl,fD, ?_⟩;refine plan.gm 9 _ (.bool false) rfl (fun w' qy=>kr_) fD ?_;refine plan.Es ?_;have HB3:=hid ((bJ HB.o).trans (fD.mono (bJ HB.o).size));clear fD hS cS;walk_nrm;go_wp2;exact⟨⟨k+1,by omega,by go_num,hid (HS.o.2 ⟨qU.o,HPQ.o⟩),HB3⟩,by simp[intOf];omega⟩
    ·rw[decide_eq_false fQ] at cS;obtain rfl:false=r:=by rw[<-hr.o];exact(decide_eq_false (tN.o fQ)).symm
     clear fQ;go_wp2;refine plan.xY (S:=fun w'=>Below wr.drew.heap.size wr.drew w') ?_;have hS:=Below.refl wr.drew.heap.size wr.drew;refine plan.gm 0 _ (.slice (some ⟨g,off,none⟩) L.length c) rfl (fun w' qy=>kr_) hS ?_;refine plan.gm 1 _ (.int .i64 (k:Int)) rfl (fun w' qy=>kr_) hS ?_;refine plan.gm 2 _ (.pointer (some ⟨g,off+k*16,none⟩)) rfl (fun w' qy=>jd (cap:=c) rfl bI) hS ?_;refine plan.gm 3 _ (zP s ta tc la lc) rfl (fun w' qy=>aj (b:=g) (off:=off+k*16) rfl (fE RZ.o qy yE.o) underlying52 rfl dS.o) hS ?_;refine plan.gm 4 _ (.slice (some ⟨g',off',none⟩) L.length d) rfl (fun w' qy=>kr_) hS ?_;refine plan.gm 5 _ (.int .i64 (k:Int)) rfl (fun w' qy=>kr_) hS ?_;refine plan.gm 6 _ (.pointer (some ⟨g',off'+k*16,none⟩)) rfl (fun w' qy=>jd (cap:=d) rfl bI) hS ?_;refine plan.gm 7 _ (zP u ua uc va vc) rfl (fun w' qy=>aj (b:=g') (off:=off'+k*16) rfl (fE HP2.o qy HL2.o) underlying52 rfl dS.o) hS ?_;refine plan.En 8 _ 45 #[zP s ta tc la lc,zP u ua uc va vc] rfl (cS.mono ?_);rintro e w3 ⟨rfl,fD⟩;refine⟨_,rfl,fD, ?_⟩;refine plan.gm 9 _ (.bool true) rfl (fun w' qy=>kr_) fD ?_;refine plan.Es ?_;have HB3:=hid ((bJ HB.o).trans (fD.mono (bJ HB.o).size));clear fD hS cS;walk_nrm;go_wp2;go_ret;exact⟨rfl,HB3.o⟩
   ·exact t29
 ·obtain rfl:false=r:=by rw[<-hr.o];exact(decide_eq_false (fun e=>hlen (by rw[<-qQ.o,e,IB.o]))).symm
  have hd:((L.length:Int) != (M.length:Int))=true:=by simp;omega
  have hd2:((L.length:Int) == (M.length:Int))=false:=by rw[beq_eq_false_iff_ne];omega
  clear hlen;go_enter func22,ntmps22
  exact t12
end step
end Go.Proofs.Ytogfefdlffmioaa
