/- TurnOn returns true for every schema, step and record, and each argument reads afterwards as it read before. No condition. -/
import Derived.Test.YtdnegbkhndekpaaGreatCmWord
import Derived.Test.YtdnegbkhndekpaaGreatCmA
import Derived.Test.YtdnegbkhndekpaaGreatCmAI
import Derived.Test.YtdnegbkhndekpaaGreatCmB
import Derived.Test.YtdnegbkhndekpaaGreatCmAU
import Derived.Test.YtdnegbkhndekpaaGreatCmAV
set_option linter.unusedVariables false
namespace Go.Proofs.YtdnegbkhndekpaaGreat
open Go.Proofs.Tryz
namespace turnOn
open Go Go.RowKit schema typing turn
open field (Gives aC Va)
open step (Sp Lists)
set_option maxRecDepth 20000 in
set_option maxHeartbeats 3200000 in
theorem BG (v:Int) (sa:Option Addr) (sc:Nat) (F:List Fm) (s:Sp) (ta:Option Addr) (tc:Nat) (la:Option Addr) (lc:Nat) (j:Int) (b:Option Addr) (d:Nat) (V:List Va) (w:World) (h:FmL w sa F) (hF:F.length<=maxLen) (hl:Lists w s ta la) (hv:field.Vas w b V) (hd:V.length<=d) (hV:V.length<=maxLen):Calls prog 3 #[.agg #[.int .i64 v,.slice sa F.length sc,.int .i64 s.op,.int .i64 s.fm,.int .i64 s.fd,.int .i64 s.pl,.int .i64 s.tt,.int .i64 s.a,.int .i64 s.b,.int .i64 s.f.id,.int .i64 s.f.kind,.int .i64 s.f.lo,.int .i64 s.f.hi,.int .i64 s.f.most,.int .i64 s.v.n,.string s.v.s,.slice ta s.t.length tc,.slice la s.l.length lc,.int .i64 j,.slice b V.length d]] w (Yes w):=by
 have hml:(V.length:Int)<=9223372036854775807:=by unfold maxLen at hV;omega
 obtain ⟨W0,hW0,bW0,hs0,hB0⟩:=aU w [(37,[.int .i64 v,.slice sa F.length sc,.int .i64 s.op,.int .i64 s.fm,.int .i64 s.fd,.int .i64 s.pl,.int .i64 s.tt,.int .i64 s.a,.int .i64 s.b,.int .i64 s.f.id,.int .i64 s.f.kind,.int .i64 s.f.lo,.int .i64 s.f.hi,.int .i64 s.f.most,.int .i64 s.v.n,.string s.v.s,.slice ta s.t.length tc,.slice la s.l.length lc,.int .i64 j,.slice b V.length d])];simp only [boxes] at hW0;have cG:=turn.gu v sa sc F s ta tc la lc j b d V W0 (h.below bW0) hF (hl.below bW0) hV;have HC:=hid (hB0.o W0 (Below.refl _ _)).1.1.whole;have HIC:Hid ((prog.info? 37).map (·.size)=some ([.int .i64 v,.slice sa F.length sc,.int .i64 s.op,.int .i64 s.fm,.int .i64 s.fd,.int .i64 s.pl,.int .i64 s.tt,.int .i64 s.a,.int .i64 s.b,.int .i64 s.f.id,.int .i64 s.f.kind,.int .i64 s.f.lo,.int .i64 s.f.hi,.int .i64 s.f.most,.int .i64 s.v.n,.string s.v.s,.slice ta s.t.length tc,.slice la s.l.length lc,.int .i64 j,.slice b V.length d]:List Value).length):=hid iL.o;have HIS:Hid ((prog.info? 32).map (·.size)=some ((zP s ta tc la lc):List Value).length):=hid gq.o;have cA:=fun w'=>iK w'
 obtain ⟨g,hg⟩:∃g:Bool,iM (forms F) s V=g:=⟨_,rfl⟩;rw [hg] at cG;unfold Gives at cG;unfold Yes at cA ⊢;cases g
 rotate_left
 ·clear h hF hl hv hd hV bW0 hg;rw [<-hW0.o] at cG HC;go_enter func3,ntmps3;go_wp2_with (first
   | (with_reducible refine wpList_load_mid rfl 37 (.tmp 1) rfl w.heap.size 0 rfl [.int .i64 v,.slice sa F.length sc,.int .i64 s.op,.int .i64 s.fm,.int .i64 s.fd,.int .i64 s.pl,.int .i64 s.tt,.int .i64 s.a,.int .i64 s.b,.int .i64 s.f.id,.int .i64 s.f.kind,.int .i64 s.f.lo,.int .i64 s.f.hi,.int .i64 s.f.most,.int .i64 s.v.n,.string s.v.s,.slice ta s.t.length tc,.slice la s.l.length lc,.int .i64 j,.slice b V.length d] _ HC.o underlying37 rfl HIC.o ?_)
   | (go_at_call 6;((with_reducible refine cG.mono ?_);rintro e w1 ⟨rfl,hb1⟩;rw [hW0.o] at hb1;clear cG))
   | (go_at_call 7;((with_reducible refine (cA _).mono ?_);rintro e w8 ⟨rfl,hb8⟩;skip)))
  go_ret;exact ⟨rfl,(hB0.o _ (hb1.trans (hb8.mono hb1.size))).2⟩
 obtain ⟨hsm,hL,h40⟩:=tX h hg;have cO:=fun (w':World) (hb:Below W0.heap.size W0 w')=>on_any v sa sc F s ta tc la lc j b d V w' ((h.below bW0).below hb) ((hsm.below bW0).below hb) ((hl.below bW0).below hb) hL ((hv.below bW0).below hb) om_
 have cR:=fun (w':World) (hb:Below W0.heap.size W0 w')=>GU v sa sc F s ta tc la lc j b d V w' ((h.below bW0).below hb) ((hsm.below bW0).below hb) ((hl.below bW0).below hb) hL ((hv.below bW0).below hb) hd om_
 have hrl:(onR v (forms F) s j V).V.length<=maxLen:=by have:=wX v (forms F) s j V;unfold maxLen;omega
 obtain ⟨r,hr⟩:∃r,onR v (forms F) s j V=r:=⟨_,rfl⟩;rw [hr] at hrl;simp only [hr] at cO cR;unfold OnD at cO cR;have HRL:=hid hrl;clear h hF hl hv hd hV bW0 hg hsm hL h40 hr hrl;rw [<-hW0.o] at cG HC;go_enter func3,ntmps3;go_wp2_with (first
  | (with_reducible refine wpList_load_mid rfl 37 (.tmp 1) rfl w.heap.size 0 rfl [.int .i64 v,.slice sa F.length sc,.int .i64 s.op,.int .i64 s.fm,.int .i64 s.fd,.int .i64 s.pl,.int .i64 s.tt,.int .i64 s.a,.int .i64 s.b,.int .i64 s.f.id,.int .i64 s.f.kind,.int .i64 s.f.lo,.int .i64 s.f.hi,.int .i64 s.f.most,.int .i64 s.v.n,.string s.v.s,.slice ta s.t.length tc,.slice la s.l.length lc,.int .i64 j,.slice b V.length d] _ HC.o underlying37 rfl HIC.o ?_)
  | (with_reducible refine wpList_load_mid rfl 32 (.tmp 13) rfl w.heap.size 2 rfl (zP s ta tc la lc) _ HRG.o underlying32 rfl HIS.o ?_)
  | (with_reducible refine wpList_load_mid rfl 32 (.tmp 23) rfl w.heap.size 2 rfl (zP s ta tc la lc) _ HRG.o underlying32 rfl HIS.o ?_)
  | (go_at_call 6;((with_reducible refine cG.mono ?_);rintro e w1 ⟨rfl,hb1⟩;rw [hW0.o] at hb1;clear cG;obtain ⟨⟨k0,_⟩,_⟩:=hB0.o _ hb1;have z0:=k0.cell 0;have z1:=k0.cell 1;have z2:=k0.cell 2;have z3:=k0.cell 3;have z18:=k0.cell 18;have z19:=k0.cell 19;have HRG:=hid (bJ k0);have cO1:=cO w1 hb1;have HB1:=hid hb1;clear k0 hb1))
  | (go_at_call 8;((with_reducible refine cO1.mono ?_);rintro e w2 ⟨x,c,rfl,ho,hb2⟩;clear cO1 cO;have hN2:=aC w2 (.cells #[.int .i64 r.j,.slice x r.V.length c,.bool r.gone,.bool r.has,.string r.lost] 40);have hb3:=HB1.o.trans ((hb2.trans (hN2.mono hb2.size)).mono HB1.o.size);obtain ⟨⟨k0,_⟩,_⟩:=hB0.o _ hb3;have z0:=k0.cell 0;have z1:=k0.cell 1;have z2:=k0.cell 2;have z3:=k0.cell 3;have z18:=k0.cell 18;have z19:=k0.cell 19;have HRG:=hid (bJ k0);have cR1:=cR _ hb3;have K2:=hid (Block.new w2 40 [.int .i64 r.j,.slice x r.V.length c,.bool r.gone,.bool r.has,.string r.lost]);have HO:=hid (l9 (ho.later hN2));have HB3:=hid hb3;clear k0 hb2 hb3 ho hN2 cR))
  | (go_at_call 9;((with_reducible refine cR1.mono ?_);rintro e w4 ⟨y,c4,rfl,ho,hb4⟩;clear cR1;have hN4:=aC w4 (.cells #[.int .i64 r.j,.slice y r.V.length c4,.bool r.gone,.bool r.has,.string r.lost] 44);have hb34:=hb4.trans (hN4.mono hb4.size);have hb5:=HB3.o.trans (hb34.mono HB3.o.size);have kx:=K2.o.later hb34;have x0:=kx.cell 0;have x1:=kx.cell 1;have x2:=kx.cell 2;have x3:=kx.cell 3;have x4:=kx.cell 4;have ky:=Block.new w4 44 [.int .i64 r.j,.slice y r.V.length c4,.bool r.gone,.bool r.has,.string r.lost];have y0:=ky.cell 0;have y1:=ky.cell 1;have y2:=ky.cell 2;have y3:=ky.cell 3;have y4:=ky.cell 4;have cS:=vM r x c y c4 _ (HO.o.below hb34) (l9 (ho.later hN4)) HRL.o;unfold Gives at cS;have HB5:=hid hb5;clear kx ky hb4 hb34 hb5 ho hN4))
  | (go_at_call 10;((with_reducible refine cS.mono ?_);rintro e w6 ⟨rfl,hb6⟩;have hb7:=HB5.o.trans (hb6.mono HB5.o.size);have HB7:=hid hb7;clear hb6 hb7 cS))
  | (go_at_call 7;((with_reducible refine (cA _).mono ?_);rintro e w8 ⟨rfl,hb8⟩;have HE:=hid (hB0.o _ (HB7.o.trans (hb8.mono HB7.o.size))).2;clear hb8))
  )
 go_ret;exact ⟨by simp,HE.o⟩
theorem walk (x:Ca) (w:World) (hx:x.Good w):Calls prog 3 #[x.val] w (Yes w):=
 BG x.p.ver x.p.f x.p.fCap x.p.fL x.q.s x.q.ta x.q.tc x.q.la x.q.lc x.r.form x.r.v x.r.vCap x.r.vL w ⟨hx.p.rf,fun y hy=>(hx.p.mf y hy).ok⟩ (Nat.le_trans hx.p.cf hx.p.df) hx.q.lists hx.r.rv hx.r.cv (Nat.le_trans hx.r.cv hx.r.dv)
end turnOn
namespace turnOn
open Go.ChangeShapes Go.WideShapes Go.ChangeAt Go.RowKit turn
open Go.ChangeMaps (open_string shut_string)
set_option maxRecDepth 100000 in
theorem lifted (os:Os) (started:os.Started) (H:Type) (enc:TypeId×Value->H):
  ReturnsInHanded {} Tryz.checked os 3 .any (Rows.turnOnSpec.pre6 enc prog Tryz.f3 Rows.turnOnRow.domain false) (Rows.turnOnSpec.post enc prog Tryz.f3 false true false false):=by
 refine returnsInHanded_of_change_sized (C:=Tryz.checked) own started kr_ func3
  (ChangeSpec.witness6 (enc:=enc) (C:=Tryz.checked) false ⟨#[],#[.agg #[.int .i64 0,.slice none 0 0,.int .i64 0,.int .i64 0,.int .i64 0,.int .i64 0,.int .i64 0,.int .i64 0,.int .i64 0,.int .i64 0,.int .i64 0,.int .i64 0,.int .i64 0,.int .i64 0,.int .i64 0,.string ⟨#[]⟩,.slice none 0 0,.slice none 0 0,.int .i64 0,.slice none 0 0]],[]⟩ 8 kr_ kr_ kr_ kr_) ?_
 intro W base args ds gs before hval0 hW hcnd hsz0 _;have hsz:(DataW.weightsEach prog (Tryz.f3.params.toList++Rows.turnOnSpec.plain.varTypes prog) (ds++gs)).all (· <=reachBytes)=true:=hsz0;clear hsz0;have hval:∀(j:Nat) t v,Tryz.f3.params[j]?=some t->args[j]?=some v->Value.okWide prog W .any base t v:=hval0
 have hW':=hW;obtain ⟨p,q,hA0,hV,rfl,hfz,hnd⟩:=hW;have hA:DataW.TrodAll enc prog W 0 (fun _=>true) true Tryz.f3.params.toList args.toList ds p:=hA0;rw [Tryz.params3] at hA hval hsz;obtain ⟨v0,vs0,d0,ds0,p0,q0,hargs,rfl,rfl,h0,r0⟩:=trodAll_cons hA;obtain ⟨rfl,rfl,rfl⟩:=trodAll_nil r0;obtain rfl:args=#[v0]:=by cases args;simp_all
 obtain ⟨rfl,rfl⟩:=trodVars_none hV;have k0:=h0;have lt0:∀x∈p0,x.block<W.heap.size:=by obtain ⟨m,hm⟩:=k0;exact DataW.trod_lt m _ _ _ hm
 obtain ⟨pc0,fp0,rfl⟩:=pO turn.CB (hval 0 37 v0 rfl rfl) h0;clear hA0 hval0;refine (walk pc0 W fp0).mono fun e W' ⟨he,bel⟩=> ?_
 subst he;exact ⟨_,rfl,_,_,_,[],_,[],hW',trodAll_mk1 (shut_bool underlying4 _),(trodAll_cons_mk (Below.trod laidOut kr_ (of_decide_eq_true kr_) k0 bel lt0) trodAll_mk0),rfl,bel.frame _,fun h=>by cases h⟩
theorem holds:Rows.TurnOnSaid:=
 OpenClaim.holds_of_wide 3 Tryz.f3 rfl rfl rfl rfl rfl rfl rfl ⟨rfl,rfl,rfl,rfl,rfl⟩ rfl rfl rfl rfl rfl kr_ func3 kr_
  (of_decide_eq_true kr_) (by unfold Func.isWrapper;first | (rw [if_pos (by decide+kernel)];kernel_rfl) | (rw [if_neg (by decide+kernel)];exact ⟨rfl,rfl⟩))
  (fun os started H enc _=>lifted os started H enc)
end turnOn
end Go.Proofs.YtdnegbkhndekpaaGreat
#print axioms Go.Proofs.YtdnegbkhndekpaaGreat.turnOn.holds
