/- Contracts and lemmas that claims of this seat share: StepFixP, StepRefBytes, StepRefPrint, StepRefParse. Each says its own conditions. -/
import Derived.Test.YtogfefdlffmioaaGreatCmWord
import Derived.Deep.CutRange
import Derived.Test.YtogfefdlffmioaaGreatCmX
import Derived.Test.YtogfefdlffmioaaGreatCmAI
import Derived.Test.YtogfefdlffmioaaGreatCmAS
import Derived.Test.YtogfefdlffmioaaGreatCmAT
import Derived.Test.YtogfefdlffmioaaGreatCmAV
import Derived.Test.YtogfefdlffmioaaGreatCmAQ
import Derived.Test.YtogfefdlffmioaaGreatCmK
import Derived.Test.YtogfefdlffmioaaGreatCmM
set_option linter.unusedVariables false
namespace Go.Proofs.YtogfefdlffmioaaGreat
open Go.Proofs.Tryz
namespace step
open Go.RowKit pen
open field (bytesOf bytesOf_lt)
def OwnAs(PL:List Sp)(Z:Int)(w:World)(en:Ending)(w':World):Prop:=
 ∃(a:Option Addr) (c:Nat) (P:List St),en=.returned (.tuple #[.slice a P.length c,.int .i64 Z])/\sps P=PL/\Upon w.heap.size w' (fun v=>StL v a P)/\P.length<=40/\Below w.heap.size w w'
theorem parse_own{a:Option Addr}{c:Nat}{xs:List Nat}{w:World}(hr:Reads .u8 w a xs.length xs)(hx:∀c∈xs,c<256)(hl:xs.length<=140737488355328){P:List Sp}{E:Nat}(Z:Int)(hz:Z=(E:Int))(hP:parsed xs=(P,E)):
  Calls prog 27 #[.slice a xs.length c] w (OwnAs P Z w):=by
 have h:=parse_any a c xs w hr hx hl;unfold ParsedAs at h;rw[hP] at h;rw[hz];exact h
theorem letB_lt(s:Sp)(q:UInt8):∀c∈s.letB q,c<256:=by
 have hf:∀f:field.Fd,∀c∈fieldA f,c<256:=by
  intro f c hc;unfold fieldA at hc;simp only[List.mem_append] at hc;rcases hc with (((h | h) | h) | h) | h <;> exact vb_lt _ c h
 intro c hc;unfold Sp.letB at hc;split at hc
 ·exact vb_lt _ c hc
 split at hc
 ·exact vb_lt _ c hc
 split at hc
 ·exact vb_lt _ c hc
 split at hc
 ·exact vb_lt _ c hc
 split at hc
 ·exact vb_lt _ c hc
 split at hc
 ·rcases List.mem_append.1 hc with h | h <;> exact vb_lt _ c h
 split at hc
 ·exact hf _ c hc
 split at hc
 ·rcases List.mem_append.1 hc with h | h
  ·exact vb_lt _ c h
  ·rcases List.mem_append.1 h with h | h
   ·exact vb_lt _ c h
   ·exact bytesOf_lt _ c h
 split at hc
 ·rcases List.mem_append.1 hc with h | h
  ·exact vb_lt _ c h
  ·unfold numsA at h;obtain⟨l,hl,h⟩:=List.mem_flatten.1 h;obtain⟨n,_,rfl⟩:=List.mem_map.1 hl;exact vb_lt _ c h
 ·rcases List.mem_append.1 hc with h | h
  ·exact vb_lt _ c h
  ·unfold fieldsA at h;obtain⟨l,hl,h⟩:=List.mem_flatten.1 h;obtain⟨n,_,rfl⟩:=List.mem_map.1 hl;exact hf _ c h
theorem stepB_lt(s:Sp):∀c∈s.stepB,c<256:=by
 intro c hc;unfold Sp.stepB at hc;rcases List.mem_append.1 hc with h | h
 ·exact vb_lt _ c h
 ·obtain⟨l,hl,h⟩:=List.mem_flatten.1 h;obtain⟨n,_,rfl⟩:=List.mem_map.1 hl;exact letB_lt s n c h
theorem listB_lt(L:List Sp):∀c∈listB L,c<256:=by
 intro c hc;unfold listB at hc;rcases List.mem_append.1 hc with h | h
 ·exact vb_lt _ c h
 ·obtain⟨l,hl,h⟩:=List.mem_flatten.1 h;obtain⟨n,_,rfl⟩:=List.mem_map.1 hl;exact stepB_lt n c h
theorem rightsE_zero{L:List Sp}(h:rightsE L=0):L.length<=40/\Rights L:=by
 unfold rightsE at h;by_cases h1:40<L.length
 ·rw[if_pos h1] at h;cases h
 ·rw[if_neg h1] at h;by_cases h2:Rights L
  ·exact⟨by omega,h2⟩
  ·rw[if_neg h2] at h;cases h
theorem print_zero(a:Option Addr)(c:Nat)(L:List St)(w:World)(h:StL w a L)(hE:rightsE (sps L)=0):
  Calls prog 40 #[.slice a L.length c] w (pen.Gives (listB (sps L)) 0 w):=by
 obtain⟨h1,h2⟩:=rightsE_zero hE;exact print_yes a c L w h (by rw[<-sps_length];exact h1) h2
end step
theorem t34{P:Prop}(h:P:=by
 go_wp2;exact⟨⟨k+1,_,by omega,rfl,by go_num,hid (HNX.o _ _ HE.o)⟩,by simp[intOf];omega⟩):P:=h
namespace step
open Go.RowKit pen
open field (bytesOf bytesOf_length newB)
open schema (aA aA.of aA.later ai ay ah exec_cell_int own_low below_drew take_succ_at field_at)
theorem fP(s:ByteArray)(hs:s.size<=1000)(w:World):Calls prog 22 #[.string s] w (Copies (vb s.size++bytesOf s) w):=by
 have hl:s.data.toList.length=s.size:=by rw[Array.length_toList];rfl
 have c:=dX s.data.toList om_ w;rw[texts.strL_of,hl] at c;exact c
theorem iY{s:Sp}{k:Nat}{q:UInt8}(h:(uses s.op)[k]?=some q):(((uses s.op).take (k+1)).map s.letB).flatten=(((uses s.op).take k).map s.letB).flatten++s.letB q:=by
 rw[take_succ_at h];simp
theorem iW{s:Sp}(h:s.Right)(k:Nat):((((uses s.op).take k).map s.letB).flatten).length<=3300:=by
 have h1:=flat_len s.letB 660 ((uses s.op).take k) (fun c hc=>letB_len (h.ok c (List.mem_of_mem_take hc)).1 (h.ok c (List.mem_of_mem_take hc)).2);have h2:=uses_len s.op;have h3:((uses s.op).take k).length<=(uses s.op).length:=by simp;omega
 omega
set_option maxRecDepth 20000 in
set_option maxHeartbeats 6400000 in
theorem iL(s:Sp)(ta:Option Addr)(tc:Nat)(la:Option Addr)(lc:Nat)(w:World)(h:Lists w s ta la)(hr:s.Right):Calls prog 47 #[zP s ta tc la lc] w (Copies s.stepB w):=by
 have hA:=Block.new w 84 (zP s ta tc la lc);have hw:=newB w (.cells (zP s ta tc la lc) 84);have hl:=h.below hw;have hop:=mem_span hr.2.1;have lop:=vb_ten s.op.toNat om_;obtain⟨W0,dw⟩:∃x,(w.alloc (.cells (zP s ta tc la lc) 84))=x:=⟨_,rfl⟩;have HW0:=hid dw;rw[show(w.alloc (.cells (zP s ta tc la lc:List Value).toArray 84))=W0 from dw] at hA;rw[dw] at hw hl;obtain⟨B,hB⟩:∃B,Hid (W0.heap.size=B):=⟨_,hid rfl⟩;have HZ:Hid (∀w',Below B W0 w'->Block w' w.heap.size 84 (zP s ta tc la lc)):=hid (fun w' hb=>hA.later (by rw[hB.o];exact hb));have HL:Hid (∀w',Below B W0 w'->Lists w' s ta la):=hid (fun w' hb=>hl.below (by rw[hB.o];exact hb));have HBW:Hid (∀w',Below B W0 w'->Below w.heap.size w w'):=hid (fun w' hb=>hw.trans ((show Below W0.heap.size W0 w' by rw[hB.o];exact hb).mono hw.size));have HBL:=hid (show w.heap.size<=B by rw[<-hB.o];exact hw.size);have HR:=hid hr;have cC:=fun w'=>count_any s.op om_ om_ w'
 have cU:=fun w'=>uses_any s.op w'
 have hix:=fun(k:Nat) (q:UInt8) (h:(uses s.op)[k]?=some q) W=>usesS_at h W
 have hsz:=usesS_size s.op;obtain⟨S,hS⟩:∃S,Hid (usesS s.op=S):=⟨_,hid rfl⟩;rw[hS.o] at hsz hix;simp only[hS.o] at cU;have HIX:=hid hix;obtain⟨N,hN⟩:∃N:Nat,Hid ((uses s.op).length=N):=⟨_,hid rfl⟩;have hN5:N<=5:=by rw[<-hN.o];exact uses_len _
 rw[hN.o] at hsz;obtain⟨X,hX⟩:∃X,Hid (vb s.op.toNat=X):=⟨_,hid rfl⟩;have HSB:Hid (s.stepB=X++((uses s.op).map s.letB).flatten):=hid (by unfold Sp.stepB;rw[hX.o]);obtain⟨Z,hZ⟩:∃Z,Hid (s.stepB=Z):=⟨_,hid rfl⟩;rw[hZ.o];rw[hX.o] at cC lop;have HXL:=hid lop;unfold Copies at cC ⊢;unfold field.Gives at cU;clear h hA hw hl hr hix dw hop lop;go_enter func47,ntmps47;go_wp2_with (first
  | (go_at_call 46;((with_reducible refine(cC _).mono ?_);rintro e w1 ⟨u1,rfl,ho1,ak⟩;rw[HW0.o] at ho1 ak;have hR1:=aA.of (B:=B) (W0:=W0) (Below.refl B W0) (Nat.le_of_eq hB.o.symm) ho1 ak;have x0:=(HZ.o _ hR1.2.1).cell 0))
  | (go_at_call 72;((with_reducible refine(cU _).mono ?_);rintro e w2 ⟨rfl,aj⟩;have HR2:=hid (hR1.later aj);clear aj)))
 clear hR1 ho1 ak x0 cC cU;go_loopw [3,5] (fun u0 n wr=>∃(k:Nat) (u:Value),k<=N/\u=u0/\n=.int .i64 (k:Int)/\Hid (aA B W0 (X++(((uses s.op).take k).map s.letB).flatten) u wr)) (fun _ n _=>N - (intOf n).toNat);case atStart=>exact⟨0,_,Nat.zero_le _,rfl,rfl,hid (by simpa using HR2.o)⟩
 case round=>
  obtain⟨k,u,hk,rfl,rfl,HU⟩:=hrel;have hu:=HU.o;by_cases au:k<N
  ·have hq0:=List.getElem?_eq_getElem (show k<(uses s.op).length by rw[hN.o];exact au);have i1:(k:Int)<S.size:=by rw[hsz];omega
   have i2:(k:Int)<N:=by omega
   generalize (uses s.op)[k]'(show k<(uses s.op).length by rw[hN.o];exact au)=q at hq0;have hok:=HR.o.ok q (List.mem_of_getElem? hq0);have HTK:=hid (iY hq0);have lf:=iW HR.o k;have lX:=HXL.o;have hYl:(X++(((uses s.op).take k).map s.letB).flatten).length<=3310:=by simp only[List.length_append];omega
   obtain⟨Y,hY⟩:∃Y:List Nat,Hid (X++(((uses s.op).take k).map s.letB).flatten=Y):=⟨_,hid rfl⟩;rw[hY.o] at hu hYl;have HNX:Hid (∀(z:Value) (w9:World),aA B W0 (Y++s.letB q) z w9->aA B W0 (X++(((uses s.op).take (k+1)).map s.letB).flatten) z w9):=hid (fun z w9 hz=>by rw[HTK.o,<-List.append_assoc,hY.o];exact hz);have HQ:=hid hq0;have hz:=HZ.o _ hu.2.1;have HU1:=hid hu;clear hq0 lf lX HU HTK hY HR2;obtain⟨lQ,hok⟩:=hok;rcases lQ with rfl | rfl | rfl | rfl | rfl | rfl | rfl | rfl | rfl | rfl
   ·have hx:∀W,(Instr.index 9 (.string S) (.int .i64 (k:Int))).run prog W=.ok (.int .u8 102) W:=fun W=>HIX.o k _ HQ.o W
    have hq:0<=s.fm/\s.fm<=200:=hok;have x1:=hz.cell 1;have cD:=fun w'=>count_any s.fm om_ om_ w'
    unfold Copies at cD;have lD:=vb_ten s.fm.toNat om_;clear hz hu hok;go_wp2_with (first
     | (go_at_call 46;((with_reducible refine(cD _).mono ?_);rintro e w5 ⟨u5,rfl,ho5,aI⟩;have hR5:=aA.of HU1.o.2.1 HU1.o.2.2 ho5 aI;have dM:=HU1.o.later aI;obtain⟨a5,c5,rfl,hq5⟩:=ai hR5.1))
     | (at_builtin;refine ah rfl (.tmp 25) (.tmp 28) rfl rfl rfl dM hq5 om_ ?_;intro z6 w6 dI _;have gU:=hid dI;clear dI dM hq5 hR5 ho5 aI))
    exact⟨⟨k+1,_,by omega,rfl,by go_num,hid (HNX.o _ _ gU.o)⟩,by simp[intOf];omega⟩
   ·have hx:∀W,(Instr.index 9 (.string S) (.int .i64 (k:Int))).run prog W=.ok (.int .u8 100) W:=fun W=>HIX.o k _ HQ.o W
    have hq:0<=s.fd/\s.fd<=255:=hok;have x2:=hz.cell 2;have cD:=fun w'=>count_any s.fd om_ om_ w'
    unfold Copies at cD;have lD:=vb_ten s.fd.toNat om_;clear hz hu hok;go_wp2_with (first
     | (go_at_call 46;((with_reducible refine(cD _).mono ?_);rintro e w5 ⟨u5,rfl,ho5,aI⟩;have hR5:=aA.of HU1.o.2.1 HU1.o.2.2 ho5 aI;have dM:=HU1.o.later aI;obtain⟨a5,c5,rfl,hq5⟩:=ai hR5.1))
     | (at_builtin;refine ah rfl (.tmp 32) (.tmp 35) rfl rfl rfl dM hq5 om_ ?_;intro z6 w6 dI _;have gU:=hid dI;clear dI dM hq5 hR5 ho5 aI))
    exact⟨⟨k+1,_,by omega,rfl,by go_num,hid (HNX.o _ _ gU.o)⟩,by simp[intOf];omega⟩
   ·have hx:∀W,(Instr.index 9 (.string S) (.int .i64 (k:Int))).run prog W=.ok (.int .u8 112) W:=fun W=>HIX.o k _ HQ.o W
    have hq:0<=s.pl/\s.pl<=8:=hok;have x3:=hz.cell 3;have cD:=fun w'=>count_any s.pl om_ om_ w'
    unfold Copies at cD;have lD:=vb_ten s.pl.toNat om_;clear hz hu hok;go_wp2_with (first
     | (go_at_call 46;((with_reducible refine(cD _).mono ?_);rintro e w5 ⟨u5,rfl,ho5,aI⟩;have hR5:=aA.of HU1.o.2.1 HU1.o.2.2 ho5 aI;have dM:=HU1.o.later aI;obtain⟨a5,c5,rfl,hq5⟩:=ai hR5.1))
     | (at_builtin;refine ah rfl (.tmp 39) (.tmp 42) rfl rfl rfl dM hq5 om_ ?_;intro z6 w6 dI _;have gU:=hid dI;clear dI dM hq5 hR5 ho5 aI))
    exact⟨⟨k+1,_,by omega,rfl,by go_num,hid (HNX.o _ _ gU.o)⟩,by simp[intOf];omega⟩
   ·have hx:∀W,(Instr.index 9 (.string S) (.int .i64 (k:Int))).run prog W=.ok (.int .u8 116) W:=fun W=>HIX.o k _ HQ.o W
    have hq:0<=s.tt/\s.tt<=255:=hok;have x4:=hz.cell 4;have cD:=fun w'=>count_any s.tt om_ om_ w'
    unfold Copies at cD;have lD:=vb_ten s.tt.toNat om_;clear hz hu hok;go_wp2_with (first
     | (go_at_call 46;((with_reducible refine(cD _).mono ?_);rintro e w5 ⟨u5,rfl,ho5,aI⟩;have hR5:=aA.of HU1.o.2.1 HU1.o.2.2 ho5 aI;have dM:=HU1.o.later aI;obtain⟨a5,c5,rfl,hq5⟩:=ai hR5.1))
     | (at_builtin;refine ah rfl (.tmp 46) (.tmp 49) rfl rfl rfl dM hq5 om_ ?_;intro z6 w6 dI _;have gU:=hid dI;clear dI dM hq5 hR5 ho5 aI))
    exact⟨⟨k+1,_,by omega,rfl,by go_num,hid (HNX.o _ _ gU.o)⟩,by simp[intOf];omega⟩
   ·have hx:∀W,(Instr.index 9 (.string S) (.int .i64 (k:Int))).run prog W=.ok (.int .u8 97) W:=fun W=>HIX.o k _ HQ.o W
    have hq:0<=s.a/\s.a<=1048576:=hok;have x5:=hz.cell 5;have cD:=fun w'=>count_any s.a om_ om_ w'
    unfold Copies at cD;have lD:=vb_ten s.a.toNat om_;clear hz hu hok;go_wp2_with (first
     | (go_at_call 46;((with_reducible refine(cD _).mono ?_);rintro e w5 ⟨u5,rfl,ho5,aI⟩;have hR5:=aA.of HU1.o.2.1 HU1.o.2.2 ho5 aI;have dM:=HU1.o.later aI;obtain⟨a5,c5,rfl,hq5⟩:=ai hR5.1))
     | (at_builtin;refine ah rfl (.tmp 53) (.tmp 56) rfl rfl rfl dM hq5 om_ ?_;intro z6 w6 dI _;have gU:=hid dI;clear dI dM hq5 hR5 ho5 aI))
    exact⟨⟨k+1,_,by omega,rfl,by go_num,hid (HNX.o _ _ gU.o)⟩,by simp[intOf];omega⟩
   ·have hx:∀W,(Instr.index 9 (.string S) (.int .i64 (k:Int))).run prog W=.ok (.int .u8 98) W:=fun W=>HIX.o k _ HQ.o W
    have hq:InOk s.a/\InOk s.b:=hok;have l1:=vb_ten (zig s.a) (zig_lt _ hq.1.1 hq.1.2);have l2:=vb_ten (zig s.b) (zig_lt _ hq.2.1 hq.2.2);clear hz hu hok;go_wp2;have hU:=HU1.o.later (w':=wr.drew) (below_drew (Below.refl _ _));have hS:=hU.2.1;have aP:=hU.2.2;refine plan.regionS (S:=fun w'=>Below B W0 w') ?_;refine plan.firstS 0 _ (u) rfl (fun w' aJ=>kr_) hS ?_;refine plan.firstS 1 _ (.pointer (some ⟨w.heap.size,5,none⟩)) rfl (fun w' aJ=>kr_) hS ?_;refine plan.firstS 2 _ (.int .i64 s.a) rfl (fun w' aJ=>exec_cell_int (ad:=⟨w.heap.size,5,none⟩) rfl kr_ ((HZ.o _ aJ).cell 5) isAgg3) hS ?_;refine plan.firstS 5 _ (.pointer (some ⟨w.heap.size,6,none⟩)) rfl (fun w' aJ=>kr_) hS ?_;refine plan.firstS 6 _ (.int .i64 s.b) rfl (fun w' aJ=>exec_cell_int (ad:=⟨w.heap.size,6,none⟩) rfl kr_ ((HZ.o _ aJ).cell 6) isAgg3) hS ?_;refine plan.callS 3 _ 78 #[.int .i64 s.a] rfl ((pen.aY s.a hq.1.1 hq.1.2 wr.drew).mono ?_);rintro e W1 ⟨u1,rfl,ho1,ak⟩;have hR1:=aA.of hS aP ho1 ak;have aP:=hR1.2.2;have hS:=hR1.2.1;have hU:=hU.later ak;obtain⟨a1,c1,rfl,hq1⟩:=ai hR1.1;refine⟨_,rfl,hS, ?_⟩;refine ay (c:=c1) 4 hU hq1 rfl rfl rfl (by (try simp only[List.length_append]);omega) (fun z2 W2 hZ2 hK2=>⟨hZ2.2.1, ?_⟩);have hS:=hZ2.2.1;have aP:=hZ2.2.2;refine plan.callS 7 _ 78 #[.int .i64 s.b] rfl ((pen.aY s.b hq.2.1 hq.2.2 W2).mono ?_);rintro e W3 ⟨u3,rfl,ho3,aK⟩;have hR3:=aA.of hS aP ho3 aK;have aP:=hR3.2.2;have hS:=hR3.2.1;have hZ2:=hZ2.later aK;obtain⟨a3,c3,rfl,hq3⟩:=ai hR3.1;refine⟨_,rfl,hS, ?_⟩;refine ay (c:=c3) 8 hZ2 hq3 rfl rfl rfl (by (try simp only[List.length_append]);omega) (fun z4 W4 dR hK4=>⟨dR.2.1, ?_⟩);have hS:=dR.2.1;have aP:=dR.2.2;refine plan.oneS 9 _ (z4) rfl rfl hS ?_;refine plan.doneS ?_;have HE:=hid (show aA B W0 (Y++s.letB 98) z4 W4 from by have:=dR;rw[List.append_assoc] at this;exact this);walk_nrm
    exact t34
   ·have hx:∀W,(Instr.index 9 (.string S) (.int .i64 (k:Int))).run prog W=.ok (.int .u8 70) W:=fun W=>HIX.o k _ HQ.o W
    have hq:FieldOk s.f:=hok;have x7:=hz.cell 7;have x8:=hz.cell 8;have x9:=hz.cell 9;have x10:=hz.cell 10;have x11:=hz.cell 11;have cD:=fun w'=>fG s.f hq w'
    have lD:=fieldA_len hq;unfold Copies at cD;clear hz hu hok;go_wp2_with (first
     | (go_at_call 79;((with_reducible refine(cD _).mono ?_);rintro e w5 ⟨u5,rfl,ho5,aI⟩;have hR5:=aA.of HU1.o.2.1 HU1.o.2.2 ho5 aI;have dM:=HU1.o.later aI;obtain⟨a5,c5,rfl,hq5⟩:=ai hR5.1))
     | (at_builtin;refine ah rfl (.tmp 71) (.tmp 74) rfl rfl rfl dM hq5 om_ ?_;intro z6 w6 dI _;have gU:=hid dI;clear dI dM hq5 hR5 ho5 aI))
    exact⟨⟨k+1,_,by omega,rfl,by go_num,hid (HNX.o _ _ gU.o)⟩,by simp[intOf];omega⟩
   ·have hx:∀W,(Instr.index 9 (.string S) (.int .i64 (k:Int))).run prog W=.ok (.int .u8 86) W:=fun W=>HIX.o k _ HQ.o W
    have hq:InOk s.v.n/\s.v.s.size<=32:=hok;have l1:=vb_ten (zig s.v.n) (zig_lt _ hq.1.1 hq.1.2);have l2:=vb_ten s.v.s.size om_;have l3:=bytesOf_length s.v.s;clear hz hu hok;go_wp2;have hU:=HU1.o.later (w':=wr.drew) (below_drew (Below.refl _ _));have hS:=hU.2.1;have aP:=hU.2.2;refine plan.regionS (S:=fun w'=>Below B W0 w') ?_;refine plan.firstS 0 _ (u) rfl (fun w' aJ=>kr_) hS ?_;refine plan.firstS 1 _ (.pointer (some ⟨w.heap.size,12,none⟩)) rfl (fun w' aJ=>kr_) hS ?_;refine plan.firstS 2 _ (.pointer (some ⟨w.heap.size,12,none⟩)) rfl (fun w' aJ=>kr_) hS ?_;refine plan.firstS 3 _ (.int .i64 s.v.n) rfl (fun w' aJ=>exec_cell_int (ad:=⟨w.heap.size,12,none⟩) rfl kr_ ((HZ.o _ aJ).cell 12) isAgg3) hS ?_;refine plan.firstS 6 _ (.pointer (some ⟨w.heap.size,12,none⟩)) rfl (fun w' aJ=>kr_) hS ?_;refine plan.firstS 7 _ (.pointer (some ⟨w.heap.size,13,none⟩)) rfl (fun w' aJ=>kr_) hS ?_;refine plan.firstS 8 _ (.string s.v.s) rfl (fun w' aJ=>field.exec_cell_str (ad:=⟨w.heap.size,13,none⟩) rfl ((HZ.o _ aJ).cell 13) isAgg9) hS ?_;refine plan.callS 4 _ 78 #[.int .i64 s.v.n] rfl ((pen.aY s.v.n hq.1.1 hq.1.2 wr.drew).mono ?_);rintro e W1 ⟨u1,rfl,ho1,ak⟩;have hR1:=aA.of hS aP ho1 ak;have aP:=hR1.2.2;have hS:=hR1.2.1;have hU:=hU.later ak;obtain⟨a1,c1,rfl,hq1⟩:=ai hR1.1;refine⟨_,rfl,hS, ?_⟩;refine ay (c:=c1) 5 hU hq1 rfl rfl rfl (by (try simp only[List.length_append]);omega) (fun z2 W2 hZ2 hK2=>⟨hZ2.2.1, ?_⟩);have hS:=hZ2.2.1;have aP:=hZ2.2.2;refine plan.callS 9 _ 22 #[.string s.v.s] rfl ((fP s.v.s om_ W2).mono ?_);rintro e W3 ⟨u3,rfl,ho3,aK⟩;have hR3:=aA.of hS aP ho3 aK;have aP:=hR3.2.2;have hS:=hR3.2.1;have hZ2:=hZ2.later aK;obtain⟨a3,c3,rfl,hq3⟩:=ai hR3.1;refine⟨_,rfl,hS, ?_⟩;refine ay (c:=c3) 10 hZ2 hq3 rfl rfl rfl (by (try simp only[List.length_append]);omega) (fun z4 W4 dR hK4=>⟨dR.2.1, ?_⟩);have hS:=dR.2.1;have aP:=dR.2.2;refine plan.oneS 11 _ (z4) rfl rfl hS ?_;refine plan.doneS ?_;have HE:=hid (show aA B W0 (Y++s.letB 86) z4 W4 from by have:=dR;rw[List.append_assoc] at this;exact this);walk_nrm
    exact t34
   ·have hx:∀W,(Instr.index 9 (.string S) (.int .i64 (k:Int))).run prog W=.ok (.int .u8 84) W:=fun W=>HIX.o k _ HQ.o W
    have hq:s.t.length<=64/\∀n∈s.t,0<=n/\n<=1000:=hok
    have x14:=hz.cell 14;have cD:∀w',Calls prog 46 #[.int .i64 (s.t.length:Int)] w' (Copies (vb s.t.length) w'):=fun w'=>by have h:=count_any (s.t.length:Int) om_ om_ w';rw[Int.toNat_natCast] at h;exact h
    unfold Copies at cD;have lD:=vb_ten s.t.length om_;clear hz hu hok;go_wp2_with (first
     | (go_at_call 46;((with_reducible refine(cD _).mono ?_);rintro e w5 ⟨u5,rfl,ho5,aI⟩;have hR5:=aA.of HU1.o.2.1 HU1.o.2.2 ho5 aI;have dM:=HU1.o.later aI;obtain⟨a5,c5,rfl,hq5⟩:=ai hR5.1))
     | (at_builtin;refine ah rfl (.tmp 91) (.tmp 95) rfl rfl rfl dM hq5 om_ ?_;intro z6 w6 dI _;have gU:=hid dI;clear dI dM hq5 hR5 ho5 aI))
    clear x14 cD;go_loopw [3,6] (fun u0 m wq=>∃(j:Nat) (y:Value),j<=s.t.length/\y=u0/\m=.int .i64 (j:Int)/\Hid (aA B W0 (Y++vb s.t.length++numsA (s.t.take j)) y wq)) (fun _ m _=>s.t.length - (intOf m).toNat);case atStart=>exact⟨0,_,Nat.zero_le _,rfl,rfl,hid (by simpa[numsA] using gU.o)⟩
    case round=>
     obtain⟨j,y,hj,rfl,rfl,HY⟩:=hrel;have hy:=HY.o;have x14:=(HZ.o _ hy.2.1).cell 14;by_cases hjt:j<s.t.length
     ·obtain⟨b2,off2,p,rfl,jq,hp,c0⟩:=int_at (HL.o _ hy.2.1).t (Below.refl _ _) hjt;have j2:(j:Int)<s.t.length:=by omega
      have HXX:=hid (numsA_succ hp);have fM:=hq.2 p (List.mem_of_getElem? hp);have lg:=numsA_len (L:=s.t.take j) (fun n hn=>hq.2 n (List.mem_of_mem_take hn));have rU:(s.t.take j).length<=s.t.length:=by simp;omega
      have lp:=vb_ten p.toNat om_;have cP:=fun w'=>count_any p om_ om_ w'
      unfold Copies at cP;have kS:=hid hy;clear hp hy HY;go_wp2_with (first
       | (go_at_call 46;((with_reducible refine(cP _).mono ?_);rintro e w7 ⟨u7,rfl,jK,di⟩;have jG:=aA.of kS.o.2.1 kS.o.2.2 jK di;have jM:=kS.o.later di;obtain⟨a7,c7,rfl,hq7⟩:=ai jG.1))
       | (at_builtin;refine ah rfl (.tmp 104) (.tmp 110) rfl rfl rfl jM hq7 (by simp only[List.length_append];omega) ?_;intro z8 w8 jH _;have ng:=hid jH;clear jH jM hq7 jG jK di))
      exact⟨⟨j+1,_,by omega,rfl,by go_num,hid (by rw[HXX.o];simpa only[List.append_assoc] using ng.o)⟩,by simp[intOf];omega⟩
     ·obtain rfl:j=s.t.length:=by omega
      rw[List.take_of_length_le (Nat.le_refl _)] at hy;have HE:=hid (show aA B W0 (Y++s.letB 84) y wr from by have h1:=hy;rw[List.append_assoc] at h1;exact h1);clear hy HY
      exact t34
   ·have hx:∀W,(Instr.index 9 (.string S) (.int .i64 (k:Int))).run prog W=.ok (.int .u8 76) W:=fun W=>HIX.o k _ HQ.o W
    have hq:s.l.length<=8/\∀f∈s.l,FieldOk f:=hok
    have x15:=hz.cell 15;have cD:∀w',Calls prog 46 #[.int .i64 (s.l.length:Int)] w' (Copies (vb s.l.length) w'):=fun w'=>by have h:=count_any (s.l.length:Int) om_ om_ w';rw[Int.toNat_natCast] at h;exact h
    unfold Copies at cD;have lD:=vb_ten s.l.length om_;clear hz hu hok;go_wp2_with (first
     | (go_at_call 46;((with_reducible refine(cD _).mono ?_);rintro e w5 ⟨u5,rfl,ho5,aI⟩;have hR5:=aA.of HU1.o.2.1 HU1.o.2.2 ho5 aI;have dM:=HU1.o.later aI;obtain⟨a5,c5,rfl,hq5⟩:=ai hR5.1))
     | (at_builtin;refine ah rfl (.tmp 114) (.tmp 118) rfl rfl rfl dM hq5 om_ ?_;intro z6 w6 dI _;have gU:=hid dI;clear dI dM hq5 hR5 ho5 aI))
    clear x15 cD;go_loopw [3,7] (fun u0 m wq=>∃(j:Nat) (y:Value),j<=s.l.length/\y=u0/\m=.int .i64 (j:Int)/\Hid (aA B W0 (Y++vb s.l.length++fieldsA (s.l.take j)) y wq)) (fun _ m _=>s.l.length - (intOf m).toNat);case atStart=>exact⟨0,_,Nat.zero_le _,rfl,rfl,hid (by simpa[fieldsA] using gU.o)⟩
    case round=>
     obtain⟨j,y,hj,rfl,rfl,HY⟩:=hrel;have hy:=HY.o;have x15:=(HZ.o _ hy.2.1).cell 15;by_cases hjt:j<s.l.length
     ·obtain⟨b2,off2,p,rfl,jq,hp,c0,c1,c2,c3,c4⟩:=field_at (HL.o _ hy.2.1).l (Below.refl _ _) hjt;have j2:(j:Int)<s.l.length:=by omega
      have HXX:=hid (fieldsA_succ hp);have fM:=hq.2 p (List.mem_of_getElem? hp);have lg:=fieldsA_len (L:=s.l.take j) (fun n hn=>hq.2 n (List.mem_of_mem_take hn));have rU:(s.l.take j).length<=s.l.length:=by simp;omega
      have lp:=fieldA_len fM;have cP:=fun w'=>fG p fM w'
      unfold Copies at cP;have kS:=hid hy;clear hp hy HY;go_wp2_with (first
       | (go_at_call 79;((with_reducible refine(cP _).mono ?_);rintro e w7 ⟨u7,rfl,jK,di⟩;have jG:=aA.of kS.o.2.1 kS.o.2.2 jK di;have jM:=kS.o.later di;obtain⟨a7,c7,rfl,hq7⟩:=ai jG.1))
       | (at_builtin;refine ah rfl (.tmp 127) (.tmp 133) rfl rfl rfl jM hq7 (by simp only[List.length_append];omega) ?_;intro z8 w8 jH _;have ng:=hid jH;clear jH jM hq7 jG jK di))
      exact⟨⟨j+1,_,by omega,rfl,by go_num,hid (by rw[HXX.o];simpa only[List.append_assoc] using ng.o)⟩,by simp[intOf];omega⟩
     ·obtain rfl:j=s.l.length:=by omega
      rw[List.take_of_length_le (Nat.le_refl _)] at hy;have HE:=hid (show aA B W0 (Y++s.letB 76) y wr from by have h1:=hy;rw[List.append_assoc] at h1;exact h1);clear hy HY
      exact t34
  ·obtain rfl:k=N:=by omega
   rw[<-hN.o,List.take_of_length_le (Nat.le_refl _)] at hu;have HE:=hid (show aA B W0 Z u wr by rw[<-hZ.o,HSB.o];exact hu);have i1:¬(k:Int)<S.size:=by rw[hsz];omega
   clear hu HU;go_wp2;go_ret;exact⟨u,rfl,own_low HE.o.1 HBL.o,HBW.o _ HE.o.2.1⟩
end step
namespace step
open Go.RowKit pen
open schema (aA aA.of aA.later ai ah own_low below_drew)
set_option maxRecDepth 20000 in
theorem aV(a:Option Addr)(c:Nat)(L:List St)(w:World)(h:StL w a L)(hr:Rights (sps L))(hl:L.length<=40):Calls prog 24 #[.slice a L.length c] w (Copies (listB (sps L)) w):=by
 obtain⟨B,hB⟩:∃B,Hid (w.heap.size=B):=⟨_,hid rfl⟩;have HF:=hid h;have HR:=hid hr;have HLN:=hid (sps_length L);have cD:∀w',Calls prog 46 #[.int .i64 (L.length:Int)] w' (Copies (vb L.length) w'):=fun w'=>by have h:=count_any (L.length:Int) om_ om_ w';rw[Int.toNat_natCast] at h;exact h
 obtain⟨Z,hZ⟩:∃Z,Hid (listB (sps L)=Z):=⟨_,hid rfl⟩;have HSB:Hid (Z=vb L.length++stepsB (sps L)):=hid (by rw[<-hZ.o];unfold listB stepsB;rw[HLN.o]);have lX:=vb_ten L.length om_;obtain⟨X,hX⟩:∃X,Hid (vb L.length=X):=⟨_,hid rfl⟩;rw[hX.o] at cD HSB lX;rw[hZ.o];have HXL:=hid lX;unfold Copies at cD ⊢;clear h hr lX;go_enter func24,ntmps24;go_wp2_with (go_at_call 46;((with_reducible refine(cD _).mono ?_);rintro e w1 ⟨u1,rfl,ho1,ak⟩;have HR1:=hid (aA.of (B:=B) (W0:=w) (Below.refl B w) (Nat.le_of_eq hB.o.symm) ho1 ak);clear ho1 ak));clear cD;go_loopw [3,4] (fun u0 n wr=>∃(k:Nat) (u:Value),k<=L.length/\u=u0/\n=.int .i64 (k:Int)/\Hid (aA B w (X++stepsB ((sps L).take k)) u wr)) (fun _ n _=>L.length - (intOf n).toNat);case atStart=>exact⟨0,_,Nat.zero_le _,rfl,rfl,hid (by simpa[stepsB] using HR1.o)⟩
 case round=>
  obtain⟨k,u,hk,rfl,rfl,HU⟩:=hrel;have hu:=HU.o;have dW:Below w.heap.size w wr:=by rw[hB.o];exact hu.2.1
  by_cases au:k<L.length
  ·obtain⟨b,off,p,rfl,bQ,hp,eU,z0,z1,z2,z3,z4,z5,z6,z7,z8,z9,z10,z11,z12,z13,z14,z15⟩:=step_at HF.o dW au;have i1:(k:Int)<L.length:=by omega
   have HSUC:=hid (stepsB_succ (sps_at hp));have fM:=HR.o p.s (List.mem_of_getElem? (sps_at hp));have lS:=stepsB_len HR.o (by rw[HLN.o];exact hl) k;have lp:=stepB_len fM;have lX:=HXL.o;obtain⟨s,ta,tc,la,lc⟩:=p;simp only at z0 z1 z2 z3 z4 z5 z6 z7 z8 z9 z10 z11 z12 z13 z14 z15 eU HSUC fM lp;have cP:=fun w' (hb:Below wr.heap.size wr w')=>iL s ta tc la lc w' (eU.below hb) fM
   unfold Copies at cP;have oh:=hid hu;have HX:=hid (boxP s ta tc la lc wr);clear hp eU fM hu HU dW HR1;go_wp2_with (first
    | (go_at_call 47;((with_reducible refine(cP _ (Below.refl _ _)).mono ?_);rintro e w7 ⟨u7,rfl,jK,di⟩;have jG:=aA.of oh.o.2.1 oh.o.2.2 jK di;have jM:=oh.o.later di;obtain⟨a7,c7,rfl,hq7⟩:=ai jG.1))
    | (at_builtin;refine ah rfl (.tmp 14) (.tmp 19) rfl rfl rfl jM hq7 (by simp only[List.length_append];omega) ?_;intro z8 w8 jH _;have ng:=hid jH;clear jH jM hq7 jG jK di))
   exact⟨⟨k+1,_,by omega,rfl,by go_num,hid (by rw[HSUC.o,<-List.append_assoc];exact ng.o)⟩,by simp[intOf];omega⟩
  ·obtain rfl:k=L.length:=by omega
   rw[List.take_of_length_le (by rw[HLN.o];exact Nat.le_refl _),<-HSB.o] at hu;have HE:=hid hu;clear hu HU dW;go_wp2;go_ret;exact⟨u,rfl,own_low HE.o.1 (Nat.le_of_eq hB.o),by rw[hB.o];exact HE.o.2.1⟩
end step
namespace step
open Go.RowKit pen
open field (newB)
open schema (eCount_le)
theorem eF(xs:List Nat)(w:World)(a:Option Addr)(c:Nat)(t:TypeId)(hr:Reads .u8 w a xs.length xs)(hc:xs.length<=c)(hx:∀c∈xs,c<256)(hl:xs.length<=140737488355328):
  EyeAt t w.heap.size (xs,0) (w.alloc (.cells #[.slice a xs.length c,.int .i64 0] t)):=by
 refine⟨hx,hl,a,c,Block.new w t [.slice a xs.length c,.int .i64 0],hc,hr.below ((Below.refl _ _).alloc (Nat.le_refl _) _),fun h0 x hx=> ?_⟩;rcases hr.2 with e | ⟨b',off,ha,au,_⟩
 ·simp only at h0;omega
 ·rw[hx] at ha;cases ha;exact au
theorem gJ{L:List Sp}(hl:L.length<=40)(h:Rights L):rightsE L=0:=by unfold rightsE;rw[if_neg om_,if_pos h]
theorem gI{L:List Sp}(hl:L.length<=40)(h:¬Rights L):rightsE L=2:=by unfold rightsE;rw[if_neg om_,if_neg h]
set_option maxRecDepth 20000 in
set_option maxHeartbeats 3200000 in
theorem bC(a:Option Addr)(c:Nat)(xs:List Nat)(w:World)(hr:Reads .u8 w a xs.length xs)(hc:xs.length<=c)(hx:∀c∈xs,c<256)(hl:xs.length<=140737488355328):
  Calls prog 33 #[.slice a xs.length c] w (ParsedAs xs w):=by
 obtain⟨N,e1,hN⟩:∃N q,eCount 40 (xs,0)=(N,q):=⟨_,_,rfl⟩;have hN40:N<=40:=by have:=eCount_le 40 (xs,0);rw[show((40:Nat):Int)=40 from rfl,hN] at this;exact this
 have HP:Hid (parsed xs=(if eEnd (takeSs N e1).2≠0 then([],eEnd (takeSs N e1).2) else if Rights (takeSs N e1).1 then((takeSs N e1).1,0) else([],2))):=hid (by
  have h3:readL xs=takeSs N e1:=by unfold readL;rw[hN]
  unfold parsed;rw[h3])
 have ak:=newB w (.cells #[.slice a xs.length c,.int .i64 0] 68);have c1:=ax w.heap.size (xs,0) _ (eF xs w a c 68 hr hc hx hl) 40 om_ om_;rw[hN] at c1;have HB1:=hid ak;obtain⟨b,kM⟩:∃b,Hid (w.heap.size=b):=⟨_,hid rfl⟩;clear hN hr hx hl hc ak;simp only at c1;unfold Saw at c1;rw[kM.o] at c1;go_enter func33,ntmps33;go_wp2_with ((try rw[kM.o]);go_at_call 29;((with_reducible refine c1.mono ?_);clear c1;rintro en w2 ⟨rfl,hE2,hu2⟩;have HLS:=hid (LS.start hE2)));have HB2:=hid (show Below w.heap.size w w2 from HB1.o.trans ((hu2.mono HB1.o.size).below (Nat.le_refl _) (Nat.le_of_eq kM.o)));have HBB:=hid (show w.heap.size<=b from Nat.le_of_eq kM.o);obtain⟨B,hB⟩:∃B,Hid (w2.heap.size=B):=⟨_,hid rfl⟩;rw[hB.o] at HLS;have HWB:=hid (show w.heap.size<=B by rw[<-hB.o];exact HB2.o.size);clear hu2 hE2;go_loopw [5,7] (fun l m wr=>∃k:Nat,k<=N/\m=.int .i64 (k:Int)/\∃(ua:Option Addr) (uc:Nat),l=.slice ua k uc/\Hid (∃P,P.length=k/\sps P=(takeSs k e1).1/\LS 68 b B w2 P (takeSs k e1).2 ua uc wr)) (fun _ m _=>N - (intOf m).toNat);case atStart=>exact⟨0,Nat.zero_le _,rfl,none,0,rfl,hid ⟨[],rfl,rfl,HLS.o⟩⟩
 case round=>
  obtain⟨k,hk,rfl,ua,uc,rfl,HS⟩:=hrel;obtain⟨P,hPk,hPs,hS⟩:=HS.o;by_cases hlt2:k<N
  ·have i1:(k:Int)<N:=by omega
   obtain⟨p0,e4,hp⟩:∃p q,takeS (takeSs k e1).2=(p,q):=⟨_,_,rfl⟩;have HT1:Hid ((takeSs (k+1) e1).1=(takeSs k e1).1++[p0]):=hid (by rw[takeSs,hp]);have HT2:Hid ((takeSs (k+1) e1).2=e4):=hid (by rw[takeSs,hp]);have cP:=fun w' hE=>gG b (takeSs k e1).2 w' hE
   unfold TakesS at cP;rw[hp] at cP;clear hp HS HLS;have HPS:=hid hPs;have HPK:=hid hPk;clear hPs hPk;generalize (takeSs k e1).1=L at *;generalize (takeSs k e1).2=sk at *;have HSS:=hid hS;clear hS;go_upto_region 7 with fail
   refine plan.line ?_;refine plan.line_same 0 _ (.slice ua k uc) rfl ?_;refine plan.line_same 1 _ (.pointer (some ⟨b,0,none⟩)) rfl ?_;refine plan.line_call 2 _ 58 #[.pointer (some ⟨b,0,none⟩)] rfl kr_ kr_ ((cP _ HSS.o.eye).mono ?_);rintro en w3 ⟨p,rfl,mG,nN,hE3,hu3⟩;refine⟨_,rfl, ?_⟩;have cu:=HSS.o.call hE3 hu3;have hO3:=nN.low HSS.o.size;obtain⟨s,ta,tc,la,lc⟩:=p;have hN3:=newB w3 (.cells (zP s ta tc la lc) 84);have bD:=cu.later hN3;have hO4:=hO3.later hN3;have HO4:=hid hO4;have HPE:Hid (s=p0):=hid mG;refine plan.line_value (w1:=w3.alloc (.cells (zP s ta tc la lc) 84)) 3 _ (.slice (some ⟨w3.heap.size,0,none⟩) 1 1) rfl kr_ kr_ ?_;have dn:=bD.row;rw[HPK.o] at dn;refine plan.line_any 4 _ (fun q w5=>w5.ownsRow B 84 16 q (k+1) (stV (P++[⟨s,ta,tc,la,lc⟩]))/\(w3.alloc (.cells (zP s ta tc la lc) 84)).grownBy w5 (Value.slice ua k uc).ownBlock) rfl
    (exec_push_st (L:=P) (p:=⟨s,ta,tc,la,lc⟩) (g:=w3.heap.size) rfl dn (Block.new w3 84 (zP s ta tc la lc)) om_ bD.size) ?_
   rintro q w5 ⟨ho5,hg5⟩;obtain⟨qa,qc,rfl,_⟩:=ownsRow_slice ho5;have bF:=bD.push (p:=⟨s,ta,tc,la,lc⟩) (q:=qa) (qc:=qc) HO4.o (by rw[HPK.o];exact hg5) (by rw[HPK.o];exact ho5);refine plan.line_same 5 _ (.slice qa (k+1) qc) rfl ?_;refine plan.line_done de_ ?_;have HS6:=hid bF;clear bF ho5 hg5 bD cu hO3 hO4 hN3 dn mG nN hE3 hu3;walk_nrm;go_wp2;exact⟨⟨k+1,by omega,by go_num,qa,qc,rfl,hid ⟨P++[⟨s,ta,tc,la,lc⟩],by simp[HPK.o],by rw[HT1.o,<-HPS.o,<-HPE.o];simp[sps],by rw[HT2.o];exact HS6.o⟩⟩,by simp[intOf];omega⟩
  ·obtain rfl:k=N:=by omega
   have dW:w.heap.size<=b:=HBB.o;have HBW:=hid (show Below w.heap.size w wr from HB2.o.trans (hS.but.below HWB.o dW));have HLL:=hid hS;have HPK:=hid hPk;have HPS:=hid hPs;have cE:Calls prog 31 #[.pointer (some ⟨b,0,none⟩)] wr (field.Gives (.int .i64 (eEnd (takeSs k e1).2:Int)) wr):=(dK b _ wr hS.eye).mono (by rintro e w' ⟨rfl,m,rfl⟩;exact⟨rfl,below_drewN (Below.refl _ _) m⟩);unfold field.Gives at cE;clear HS hS hPk hPs HLS;by_cases hE:eEnd (takeSs k e1).2=0
   ·rw[hE] at cE;have HP2:=HP.o;rw[if_neg (by rw[hE];simp)] at HP2;have HP2:=hid HP2;have cR:=fun w' (hb:Below wr.heap.size wr w')=>refRights_any ua uc P w' (HLL.o.list.below hb) (by have:=HPK.o;unfold maxLen;omega)
    rw[HPK.o,HPS.o] at cR;unfold field.Gives at cR;have hlen:(takeSs k e1).1.length<=40:=by rw[takeSs_len];exact hN40
    clear HP hE;by_cases bg:Rights (takeSs k e1).1
    ·have HP3:Hid (parsed xs=((takeSs k e1).1,0)):=hid (by rw[HP2.o,if_pos bg]);rw[gJ hlen bg] at cR;clear HP2 bg hlen;go_wp2_with (first
      | (go_at_call 31;((with_reducible refine cE.mono ?_);rintro en w5 ⟨rfl,aI⟩))
      | (go_at_call 20;((with_reducible refine(cR _ aI).mono ?_);rintro en w6 ⟨rfl,aZ⟩)))
     go_ret2;refine⟨ua,uc,P,by rw[HPK.o,HP3.o];rfl,by rw[HP3.o];exact HPS.o,((HLL.o.upon HWB.o).after aI).after aZ,by rw[HPK.o];exact hN40,(HBW.o.trans (aI.mono HBW.o.size)).trans (aZ.mono (Nat.le_trans HBW.o.size aI.size))⟩
    ·have HP3:Hid (parsed xs=([],2)):=hid (by rw[HP2.o,if_neg bg]);rw[gI hlen bg] at cR;clear HP2 bg hlen;go_wp2_with (first
      | (go_at_call 31;((with_reducible refine cE.mono ?_);rintro en w5 ⟨rfl,aI⟩))
      | (go_at_call 20;((with_reducible refine(cR _ aI).mono ?_);rintro en w6 ⟨rfl,aZ⟩)))
     go_ret2;exact parse_none HP3.o ((HBW.o.trans (aI.mono HBW.o.size)).trans (aZ.mono (Nat.le_trans HBW.o.size aI.size)))
   ·have HP2:Hid (parsed xs=([],eEnd (takeSs k e1).2)):=hid (by rw[HP.o,if_pos hE]);have aH:((eEnd (takeSs k e1).2:Int) == 0)=false:=by rw[beq_eq_false_iff_ne];omega
    have dH:((eEnd (takeSs k e1).2:Int) != 0)=true:=by simp[hE]
    generalize eEnd (takeSs k e1).2=E at *;clear HP hE;go_wp2_with (go_at_call 31;((with_reducible refine cE.mono ?_);rintro en w5 ⟨rfl,aI⟩));go_ret2;exact parse_none HP2.o (HBW.o.trans (aI.mono HBW.o.size))
end step
end Go.Proofs.YtogfefdlffmioaaGreat
