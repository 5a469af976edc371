/- Contracts and lemmas that claims of this seat share: FieldText, FieldTake. Each says its own conditions. -/
import Derived.Test.YtogkgbnpodojjaaGreatCmWord
import Derived.Test.YtogkgbnpodojjaaGreatCmF
import Derived.Test.YtogkgbnpodojjaaGreatCmL
import Derived.Test.YtogkgbnpodojjaaGreatCmC
import Derived.Test.YtogkgbnpodojjaaGreatCmX
set_option linter.unusedVariables false
namespace Go.Proofs.YtogkgbnpodojjaaGreat
open Go.Proofs.Tryz
theorem t51{P:Prop}(h:P:=by
 go_enter func154,ntmps154;go_wp2;go_quiet (fail);go_wp2;go_returns;exact ⟨rfl,((below_drewN HW.o.2.2 nq).setCell (p:=⟨w.heap.size+1,0,none⟩) (Nat.le_succ _) _).setCell (p:=⟨w.heap.size+1,1,none⟩) (Nat.le_succ _) _⟩):P:=h
namespace field
open Go.RowKit cut
def iD (T:Tk) (w:World) (e:Ending) (w':World):Prop:=e=.returned (.tuple #[.agg #[.int .i64 T.n,.string (strOf T.s)],.int .i64 (T.c:Int),.int .i64 T.e])/\Below w.heap.size w w'
theorem yR (f:Fd) (h:f.Right) (h4:f.kind=4) (a:Option Addr) (len cap:Nat) (xs:List Nat) (w:World) (hr:Reads .u8 w a len xs) (hx:∀x∈xs,x<256) (hc:len<=cap) (hm:cap<=9223372036854775807):
  Calls prog 154 #[zF f,.slice a len cap] w (iD (f.take xs) w):=by
 have HW:=hid (W2.all f w (W2 f w) (Below.refl _ _));have hlen:=hr.1;have ht:f.take xs=if xs.length<1 then ⟨0,[],0,5⟩ else if f.most<(xs.getD 0 0:Nat) then ⟨0,[],0,16⟩ else if xs.length<1+xs.getD 0 0 then ⟨0,[],0,5⟩ else ⟨0,(xs.drop 1).take (xs.getD 0 0),1+xs.getD 0 0,0⟩:=by
  unfold Fd.take;rw [if_neg (show ¬¬f.Right from fun k=>k h),if_pos h4]
 rw [ht];have LK:0<=f.most/\f.most<=32:=by unfold Fd.Right at h;omega
 clear ht h h4;rw [hlen];unfold iD;unfold W2 at HW;by_cases h0:len<1
 ·rw [if_pos h0];obtain rfl:len=0:=by omega
  rw [show strOf ([]:List Nat)=⟨#[]⟩ from rfl];clear hx h0;go_enter func154,ntmps154;go_wp2;go_returns;exact ⟨rfl,HW.o.2.2⟩
 ·rw [if_neg h0];obtain ⟨b,off,rfl,hbb,hcell⟩:=hr.at (i:=0) om_;have hk0:=hcell 0 om_;rw [Nat.add_zero] at hk0;have hx0:xs.getD 0 0<256:=by
   exact t98
  obtain ⟨X,hX⟩:∃X,Hid (xs.getD 0 0=X):=⟨_,rfl⟩;rw [hX.o] at hk0 hx0 ⊢;obtain ⟨L,rfl⟩:∃L,len=L+1:=⟨len - 1,by omega⟩;have hcut:∀W:World,(Instr.slice 91 (.slice (some ⟨b,off,none⟩) (L+1) cap) (some (.int .i64 1)) none none).run prog W=.ok (.slice (shift (some ⟨b,off,none⟩) 1 cap) L (cap - 1)) W:=fun W=>zn W _ (L+1) cap 1 om_
  have hrs:Reads .u8 w (shift (some ⟨b,off,none⟩) 1 cap) L (xs.drop 1):=su (k:=1) hr om_ hc;generalize shift (some ⟨b,off,none⟩) 1 cap=A1 at *;have hlp:0<L+1:=by omega
  have HX:=hid hx;have HC:=hid hcell;have HR:=hid hr;clear hx hcell h0 hr;by_cases h1:f.most<(X:Int)
  ·rw [if_pos h1];rw [show strOf ([]:List Nat)=⟨#[]⟩ from rfl]
   exact t51
  ·rw [if_neg h1];have hX32:X<=32:=by omega
   by_cases h2:L+1<1+X
   ·rw [if_pos h2];rw [show strOf ([]:List Nat)=⟨#[]⟩ from rfl];have h3:(X:Int)>(L:Int):=by omega
    clear h2
    exact t51
   ·rw [if_neg h2];have h3:¬(X:Int)>(L:Int):=by omega
    have LJ:∀W:World,(Instr.slice 91 (.slice A1 L (cap - 1)) none (some (.int .i64 (X:Int))) none).run prog W=.ok (.slice (shift A1 0 (cap - 1)) X (cap - 1)) W:=fun W=>FQ W _ L (cap - 1) X om_
    have hr2:=uY (cap:=cap - 1) hrs (k:=X) om_;have hbw:=HW.o.2.2;have hcv:∀n:Nat,(convert 91 9 (.slice (shift A1 0 (cap - 1)) X (cap - 1))).run prog (((w.alloc (.cells (zF f) 52)).alloc (.cells #[.int .i64 0,.string ⟨#[]⟩] 54)).drewN n)=.ok (.string (strOf ((xs.drop 1).take X))) (((w.alloc (.cells (zF f) 52)).alloc (.cells #[.int .i64 0,.string ⟨#[]⟩] 54)).drewN n):=
     fun n=>Reads.str (P:=prog) (hr2.below (below_drewN hbw n)) 91 5 underlying91 underlying5 (cap - 1) 9 underlying9
    clear h2 hr2 hbw;generalize shift A1 0 (cap - 1)=A2 at *;generalize strOf ((xs.drop 1).take X)=Z at *;go_enter func154,ntmps154;go_wp2;go_quiet (fail);go_wp2;go_returns;exact ⟨by rw [show ((1+X:Nat):Int)=1+(X:Int) by omega],((below_drewN HW.o.2.2 nq).setCell (p:=⟨w.heap.size+1,0,none⟩) (Nat.le_succ _) _).setCell (p:=⟨w.heap.size+1,1,none⟩) (Nat.le_succ _) _⟩
end field
theorem t136{P:Prop}(h:P:=by
 obtain ⟨hB,hb⟩:=jg hres3 hw4 (Nat.le_succ w.heap.size) hbw3
 exact t35):P:=h
theorem t35{P:Prop}(h:P:=by
 go_wp2;refine bodyPost_ret (iy (b:=w.heap.size+1) (o:=0) rfl rfl hB.whole underlying54 rfl (dV _ _)) rfl ?_;exact ⟨rfl,hb⟩):P:=h
namespace field
open Go.RowKit cut
theorem Fd.Jc {f:Fd} (h:¬f.Right) (xs:List Nat):f.take xs=⟨0,[],0,2⟩:=by unfold Fd.take;rw [if_pos h]
theorem Fd.Hy {f:Fd} (h:f.Right) (h4:f.kind≠4) (xs:List Nat):f.take xs=if xs.length<f.size then ⟨0,[],0,5⟩ else if f.great - f.lo<(num (xs.take f.size):Nat) then ⟨0,[],0,16⟩ else ⟨f.lo+(num (xs.take f.size):Nat),[],f.size,0⟩:=by
 unfold Fd.take;rw [if_neg (show ¬¬f.Right from fun k=>k h),if_neg h4]
theorem Fd.AQ {f:Fd} (h:f.Right) (h4:f.kind≠4):f.size<=6:=by unfold Fd.size;rw [if_pos h,if_neg h4];exact tX _
set_option maxRecDepth 20000 in
set_option maxHeartbeats 4000000 in
theorem take_any (f:Fd) (a:Option Addr) (len cap:Nat) (xs:List Nat) (w:World) (hr:Reads .u8 w a len xs) (hx:∀x∈xs,x<256) (hc:len<=cap) (hm:cap<=9223372036854775807):
  Calls prog 98 #[zF f,.slice a len cap] w (iD (f.take xs) w):=by
 have HW:=hid (W2.all f w);have cr:=aj (aX f (W2 f w)) (w0:=W2 f w) (Below.refl _ _);by_cases h:f.Right
 ·rw [decide_eq_true h] at cr;by_cases h4:f.kind=4
  ·have ct:∀W,Below (W2 f w).heap.size (W2 f w) W->Calls prog 154 #[zF f,.slice a len cap] W (fun e w'=>e=.returned (.tuple #[.agg #[.int .i64 (f.take xs).n,.string (strOf (f.take xs).s)],.int .i64 ((f.take xs).c:Int),.int .i64 (f.take xs).e])/\Below (W2 f w).heap.size (W2 f w) w'):=fun W hb=>
    (yR f h h4 a len cap xs W (hr.below (HW.o W hb).2.2) hx hc hm).mono fun _ _ ⟨he,hw⟩=>⟨he,hb.trans (hw.mono hb.size)⟩
   unfold iD
   generalize f.take xs=T at *
   obtain ⟨tn,ts,tc,te⟩:=T
   simp only at ct ⊢
   generalize strOf ts=Z at *
   unfold W2 at HW cr ct
   have e4:(f.kind == 4)=true:=by rw [beq_iff_eq];exact h4
   have HI:=hid (fA tn Z)
   have HO:=hid (val_one tn Z)
   clear hr hx h h4
   go_enter func98,ntmps98
   go_wp2_with (first
    | (go_at_call 153;(with_reducible refine cr.mono ?_);rintro e w1 ⟨rfl,hb1⟩;obtain ⟨hk1,hres1,hbw1⟩:=HW.o _ hb1)
    | (go_at_call 154;(with_reducible refine (ct _ hb1).mono ?_);rintro e w2 ⟨rfl,hb2⟩;obtain ⟨hk2,hres2,hbw2⟩:=HW.o _ hb2;have hth:=jL hres2 tn Z)
    | (with_reducible refine ah rfl 54 (.tmp 4) (.tmp 21) rfl (w.heap.size+1) 0 #[.int .i64 tn,.string Z] rfl rfl hth HI.o HO.o ?_))
   intro w3 hw3
   obtain ⟨hB,hb⟩:=jg hres2 hw3 (Nat.le_succ w.heap.size) hbw2
   go_wp2
   refine bodyPost_ret (iy (b:=w.heap.size+1) (o:=0) rfl rfl hB.whole underlying54 rfl (dV _ _)) rfl ?_
   exact ⟨rfl,hb⟩
  ·rw [Fd.Hy h h4];have hlen:=hr.1;rw [hlen];have hs6:=Fd.AQ h h4;have hsp:=h.span;have cs:=fun W (hb:Below (W2 f w).heap.size (W2 f w) W)=>aj (size_any f W) hb
   obtain ⟨T,hT⟩:∃T:Nat,f.great - f.lo=(T:Int):=⟨(f.great - f.lo).toNat,by omega⟩;have ct:=fun W (hb:Below (W2 f w).heap.size (W2 f w) W)=>aj (DF f h W) hb
   rw [hT] at ct ⊢;have hTb:T<=2199023255552:=by omega
   have s1:=hsp.2.2.1;have s2:=hsp.2.2.2.1;have e4:(f.kind == 4)=false:=by rw [beq_eq_false_iff_ne];exact h4
   clear h h4 hsp hT;generalize f.size=sz at *;by_cases h1:len<sz
   ·rw [if_pos h1];have HI:=hid (fA 0 ⟨#[]⟩);have HO:=hid (val_one 0 ⟨#[]⟩);unfold iD;rw [show strOf ([]:List Nat)=⟨#[]⟩ from rfl];unfold W2 at HW cr cs;clear hr hx ct;go_enter func98,ntmps98;go_wp2_with (first
     | (go_at_call 153;(with_reducible refine cr.mono ?_);rintro e w1 ⟨rfl,hb1⟩;obtain ⟨hk1,hres1,hbw1⟩:=HW.o _ hb1)
     | (go_at_call 155;(with_reducible refine (cs _ hb1).mono ?_);rintro e w2 ⟨rfl,hb2⟩;obtain ⟨hk2,hres2,hbw2⟩:=HW.o _ hb2;have hth:=jL hres2 0 ⟨#[]⟩)
     | (with_reducible refine ah rfl 54 (.tmp 4) (.tmp 30) rfl (w.heap.size+1) 0 #[.int .i64 0,.string ⟨#[]⟩] rfl rfl hth HI.o HO.o ?_))
    intro w3 hw3;obtain ⟨hB,hb⟩:=jg hres2 hw3 (Nat.le_succ w.heap.size) hbw2
    exact t35
   ·rw [if_neg h1];have hr2:=uY (cap:=cap) hr (k:=sz) om_;have hcut:∀W:World,(Instr.slice 91 (.slice a len cap) none (some (.int .i64 (sz:Int))) none).run prog W=.ok (.slice (shift a 0 cap) sz cap) W:=fun W=>FQ W a len cap sz om_
    have hx2:∀x∈xs.take sz,x<256:=fun x hm=>hx x (List.mem_of_mem_take hm)
    have hn:=Cb sz (xs.take sz) hr2.1 hx2;have hp:(256:Nat) ^ sz<=256 ^ 6:=Nat.pow_le_pow_right om_ hs6;have cn:∀W,Below w.heap.size w W->Calls prog 156 #[.slice (shift a 0 cap) sz cap] W (Quiet (.int .i64 (num (xs.take sz):Int)) W):=fun W hb=>vM _ sz cap (xs.take sz) W (hr2.below hb) hx2 hs6
    have hu:num (xs.take sz)<281474976710656:=by have:(256:Nat) ^ 6=281474976710656:=de_;omega
    clear hr2 hx2 hn hp hr hx;generalize num (xs.take sz)=u at *;generalize shift a 0 cap=A2 at *;have h1':¬(len:Int)<(sz:Int):=by omega
    by_cases h2:(T:Int)<(u:Int)
    ·rw [if_pos h2];have h2':(u:Int)>(T:Int):=h2;have HI:=hid (fA 0 ⟨#[]⟩);have HO:=hid (val_one 0 ⟨#[]⟩);unfold iD;rw [show strOf ([]:List Nat)=⟨#[]⟩ from rfl];unfold W2 at HW cr cs ct;clear h1 h2;go_enter func98,ntmps98;go_wp2_with (first
      | (go_at_call 153;(with_reducible refine cr.mono ?_);rintro e w1 ⟨rfl,hb1⟩;obtain ⟨hk1,hres1,hbw1⟩:=HW.o _ hb1)
      | (go_at_call 155;(with_reducible refine (cs _ hb1).mono ?_);rintro e w2 ⟨rfl,hb2⟩;obtain ⟨hk2,hres2,hbw2⟩:=HW.o _ hb2)
      | (go_at_call 156;(with_reducible refine (cn _ hbw2).mono ?_);rintro e w2b ⟨rfl,nn,rfl⟩;have hb2b:=below_drewN hb2 nn;obtain ⟨hk2b,hres2b,hbw2b⟩:=HW.o _ hb2b)
      | (go_at_call 157;(with_reducible refine (ct _ hb2b).mono ?_);rintro e w3 ⟨rfl,hb3⟩;obtain ⟨hk3,hres3,hbw3⟩:=HW.o _ hb3;have hth:=jL hres3 0 ⟨#[]⟩)
      | (with_reducible refine ah rfl 54 (.tmp 4) (.tmp 39) rfl (w.heap.size+1) 0 #[.int .i64 0,.string ⟨#[]⟩] rfl rfl hth HI.o HO.o ?_))
     intro w4 hw4
     exact t136
    ·rw [if_neg h2];have h2':¬(u:Int)>(T:Int):=h2;have hadd:IntKind.i64.wrap (f.lo+(u:Int))=f.lo+(u:Int):=IntWalk.i64_in _ om_;have LH:wrap64 (f.lo+(u:Int))=f.lo+(u:Int):=IntWalk.wrap64_in _ om_;have HI:=hid (fA (f.lo+(u:Int)) ⟨#[]⟩);have HO:=hid (val_one (f.lo+(u:Int)) ⟨#[]⟩);unfold iD;rw [show strOf ([]:List Nat)=⟨#[]⟩ from rfl];unfold W2 at HW cr cs ct;clear h1 h2;go_enter func98,ntmps98;go_wp2_with (first
      | (go_at_call 153;(with_reducible refine cr.mono ?_);rintro e w1 ⟨rfl,hb1⟩;obtain ⟨hk1,hres1,hbw1⟩:=HW.o _ hb1)
      | (go_at_call 155;(with_reducible refine (cs _ hb1).mono ?_);rintro e w2 ⟨rfl,hb2⟩;obtain ⟨hk2,hres2,hbw2⟩:=HW.o _ hb2)
      | (go_at_call 156;(with_reducible refine (cn _ hbw2).mono ?_);rintro e w2b ⟨rfl,nn,rfl⟩;have hb2b:=below_drewN hb2 nn;obtain ⟨hk2b,hres2b,hbw2b⟩:=HW.o _ hb2b)
      | (go_at_call 157;(with_reducible refine (ct _ hb2b).mono ?_);rintro e w3 ⟨rfl,hb3⟩;obtain ⟨hk3,hres3,hbw3⟩:=HW.o _ hb3;have hth:=jL hres3 (f.lo+(u:Int)) ⟨#[]⟩)
      | (with_reducible refine ah rfl 54 (.tmp 4) (.tmp 44) rfl (w.heap.size+1) 0 #[.int .i64 (f.lo+(u:Int)),.string ⟨#[]⟩] rfl rfl hth HI.o HO.o ?_))
     intro w4 hw4
     exact t136
 ·rw [decide_eq_false h] at cr;rw [Fd.Jc h];have HI:=hid (fA 0 ⟨#[]⟩);have HO:=hid (val_one 0 ⟨#[]⟩);unfold iD;rw [show strOf ([]:List Nat)=⟨#[]⟩ from rfl];unfold W2 at HW cr;clear hr hx h;go_enter func98,ntmps98;go_wp2_with (first
   | (go_at_call 153;(with_reducible refine cr.mono ?_);rintro e w1 ⟨rfl,hb1⟩;obtain ⟨hk1,hres1,hbw1⟩:=HW.o _ hb1;have hth:=jL hres1 0 ⟨#[]⟩)
   | (with_reducible refine ah rfl 54 (.tmp 4) (.tmp 13) rfl (w.heap.size+1) 0 #[.int .i64 0,.string ⟨#[]⟩] rfl rfl hth HI.o HO.o ?_))
  intro w3 hw3;obtain ⟨hB,hb⟩:=jg hres1 hw3 (Nat.le_succ w.heap.size) hbw1
  exact t35
end field
end Go.Proofs.YtogkgbnpodojjaaGreat
