/- Contracts and lemmas that claims of this seat share: TypingRefNames. Each says its own conditions. -/
import Derived.Test.YtdnegbkhndekpaaGreatCmWord
import Derived.Test.YtdnegbkhndekpaaGreatCmC
import Derived.Test.YtdnegbkhndekpaaGreatCmE
import Derived.Test.YtdnegbkhndekpaaGreatCmN
import Derived.Test.YtdnegbkhndekpaaGreatCmS
set_option linter.unusedSimpArgs false
set_option linter.unusedVariables false
namespace Go.Proofs.YtdnegbkhndekpaaGreat
open Go.Proofs.Tryz
theorem t37{P:Prop}(h:P:=by
 clear hn hx h9;go_enter func32,ntmps32;go_wp2_with (first
  | (go_at_call 14;((with_reducible refine cFi.mono ?_);rintro e w1 ⟨rfl,hb1⟩;obtain ⟨k0,k1,kb⟩:=HX.o _ hb1;have z1:=k0.cell 1;have y0:=k1.cell 0;have KB:=hid kb)))
 go_ret;exact ⟨rfl,KB.o⟩):P:=h
theorem t9{P:Prop}(h:P:=by
 go_enter func32,ntmps32;go_wp2_with (first
  | (go_at_call 14;((with_reducible refine cFi.mono ?_);rintro e w1 ⟨rfl,hb1⟩;obtain ⟨k0,k1,kb⟩:=HX.o _ hb1;have z1:=k0.cell 1;have y0:=k1.cell 0;have KB:=hid kb;obtain ⟨c0,c1,cf⟩:=HC.o _ hb1;have hN1:=aC w1 (.cells (zS p.id p.f p.fL.length p.fCap) 57);have hB1:=hb1.trans (hN1.mono hb1.size);have kf:=Block.new w1 57 (zS p.id p.f p.fL.length p.fCap);have kp:=k1.later hN1;have u0:=kp.cell 0;have u2:=kp.cell 2;have u3:=kp.cell 3;have u4:=kp.cell 4;have u7:=kp.cell 7;have HB1:=hid hB1;clear k0 k1 kb hN1 cf))
  | (go_at_call 68;((with_reducible refine (cK _).mono ?_);rintro e w2 ⟨rfl,hn⟩;have hB2:=HB1.o.trans (hn.mono HB1.o.size);obtain ⟨k0,k1,kb⟩:=HX.o _ hB2;have u0:=k1.cell 0;have u2:=k1.cell 2;have u3:=k1.cell 3;have u4:=k1.cell 4;have u7:=k1.cell 7;have kf:=kf.later hn;have f0:=kf.cell 0;have f1:=kf.cell 1;have KB:=hid kb;clear k0 k1 kb hn))
  | (go_at_call 23;((with_reducible refine (cQ s.f.id _ (HC.o _ hB2).2.2).mono ?_);rw [hB.o];rintro e w3 ⟨rfl,hn⟩;have hB3:=hB2.trans (hn.mono hB2.size);obtain ⟨k0,k1,kb⟩:=HX.o _ hB3;have u0:=k1.cell 0;have u2:=k1.cell 2;have u3:=k1.cell 3;have u4:=k1.cell 4;have u7:=k1.cell 7;have kf:=kf.later hn;have f0:=kf.cell 0;have f1:=kf.cell 1;have KB:=hid kb;clear k0 k1 kb hn)))
 go_ret;exact ⟨rfl,KB.o⟩):P:=h
theorem t3{P:Prop}(h:P:=by
 go_enter func32,ntmps32;go_wp2_with (first
  | (go_at_call 14;((with_reducible refine cFi.mono ?_);rintro e w1 ⟨rfl,hb1⟩;obtain ⟨k0,k1,kb⟩:=HX.o _ hb1;have z1:=k0.cell 1;have y0:=k1.cell 0;have KB:=hid kb;obtain ⟨c0,c1,cf⟩:=HC.o _ hb1;have hN1:=aC w1 (.cells (zS p.id p.f p.fL.length p.fCap) 57);have hB1:=hb1.trans (hN1.mono hb1.size);have kf:=Block.new w1 57 (zS p.id p.f p.fL.length p.fCap);have kp:=k1.later hN1;have u0:=kp.cell 0;have u2:=kp.cell 2;have u3:=kp.cell 3;have u4:=kp.cell 4;have u7:=kp.cell 7;have HB1:=hid hB1;clear k0 k1 kb hN1 cf))
  | (go_at_call 68;((with_reducible refine (cK _).mono ?_);rintro e w2 ⟨rfl,hn⟩;have hB2:=HB1.o.trans (hn.mono HB1.o.size);obtain ⟨k0,k1,kb⟩:=HX.o _ hB2;have u0:=k1.cell 0;have u2:=k1.cell 2;have u3:=k1.cell 3;have u4:=k1.cell 4;have u7:=k1.cell 7;have kf:=kf.later hn;have f0:=kf.cell 0;have f1:=kf.cell 1;have KB:=hid kb;clear k0 k1 kb hn))
  | (go_at_call 23;((with_reducible refine (cQ s.fd _ (HC.o _ hB2).2.2).mono ?_);rw [hA.o];rintro e w3 ⟨rfl,hn⟩;have hB3:=hB2.trans (hn.mono hB2.size);obtain ⟨k0,k1,kb⟩:=HX.o _ hB3;have u0:=k1.cell 0;have u2:=k1.cell 2;have u3:=k1.cell 3;have u4:=k1.cell 4;have u7:=k1.cell 7;have kf:=kf.later hn;have f0:=kf.cell 0;have f1:=kf.cell 1;have KB:=hid kb;clear k0 k1 kb hn))
  | (go_at_call 23;((with_reducible refine (cQ s.tt _ (HC.o _ hB3).2.2).mono ?_);rw [hT.o];rintro e w4 ⟨rfl,hn⟩;have hB4:=hB3.trans (hn.mono hB3.size);obtain ⟨k0,k1,kb⟩:=HX.o _ hB4;have u0:=k1.cell 0;have u2:=k1.cell 2;have u3:=k1.cell 3;have u4:=k1.cell 4;have u7:=k1.cell 7;have kf:=kf.later hn;have f0:=kf.cell 0;have f1:=kf.cell 1;have KB:=hid kb;clear k0 k1 kb hn)))
 go_ret;exact ⟨rfl,KB.o⟩):P:=h
theorem t1{P:Prop}(h:P:=by
 go_enter func32,ntmps32;go_wp2_with (first
  | (go_at_call 14;((with_reducible refine cFi.mono ?_);rintro e w1 ⟨rfl,hb1⟩;obtain ⟨k0,k1,kb⟩:=HX.o _ hb1;have z1:=k0.cell 1;have y0:=k1.cell 0;have KB:=hid kb;obtain ⟨c0,c1,cf⟩:=HC.o _ hb1;have hN1:=aC w1 (.cells (zS p.id p.f p.fL.length p.fCap) 57);have hB1:=hb1.trans (hN1.mono hb1.size);have kf:=Block.new w1 57 (zS p.id p.f p.fL.length p.fCap);have kp:=k1.later hN1;have u0:=kp.cell 0;have u2:=kp.cell 2;have u3:=kp.cell 3;have u4:=kp.cell 4;have u7:=kp.cell 7;have HB1:=hid hB1;clear k0 k1 kb hN1 cf))
  | (go_at_call 68;((with_reducible refine (cK _).mono ?_);rintro e w2 ⟨rfl,hn⟩;have hB2:=HB1.o.trans (hn.mono HB1.o.size);obtain ⟨k0,k1,kb⟩:=HX.o _ hB2;have u0:=k1.cell 0;have u2:=k1.cell 2;have u3:=k1.cell 3;have u4:=k1.cell 4;have u7:=k1.cell 7;have kf:=kf.later hn;have f0:=kf.cell 0;have f1:=kf.cell 1;have KB:=hid kb;clear k0 k1 kb hn))
  | (go_at_call 23;((with_reducible refine (cQ s.fd _ (HC.o _ hB2).2.2).mono ?_);rw [hA.o];rintro e w3 ⟨rfl,hn⟩;have hB3:=hB2.trans (hn.mono hB2.size);obtain ⟨k0,k1,kb⟩:=HX.o _ hB3;have u0:=k1.cell 0;have u2:=k1.cell 2;have u3:=k1.cell 3;have u4:=k1.cell 4;have u7:=k1.cell 7;have kf:=kf.later hn;have f0:=kf.cell 0;have f1:=kf.cell 1;have KB:=hid kb;clear k0 k1 kb hn)))
 go_ret;exact ⟨rfl,KB.o⟩):P:=h
namespace typing
open Go.RowKit schema
open field (Gives aC aj)
open step (Lists)
theorem zu (n:Int) (w:World):Calls prog 68 #[.int .i64 n] w (Gives (.bool (nf n)) w):=by
 unfold nf Gives;by_cases h1:n=1
 ·subst h1;go_enter func68,ntmps68
  exact t23
 by_cases h9:n=9
 ·subst h9;go_enter func68,ntmps68
  exact t23
 have d1:(n != 1)=true:=by simpa using h1
 have d9:(n != 9)=true:=by simpa using h9
 obtain ⟨r,hr⟩:∃r:Bool,(n != 10)=r:=⟨_,rfl⟩;have hR:decide (n≠1/\n≠9/\n≠10)=r:=by rw [<-hr];by_cases h:n=10 <;> simp [h1,h9,h]
 rw [hR];clear hR h1 h9;go_enter func68,ntmps68
 exact t23
theorem nG (F:List schema.Form) (x:Int):(named F x=none/\ai (F.map (·.1)) x= -1)\/∃p,∃j:Nat,named F x=some p/\ai (F.map (·.1)) x=(j:Int)/\F[j]?=some p:=by
 cases hn:named F x with
 | none=>exact .inl ⟨rfl,nP (lM hn)⟩
 | some p=>
  refine .inr ⟨p,(F.map (·.1)).idxOf x,rfl, ?_, ?_⟩
  ·have:=cZ hn;unfold ai;rw [if_pos (this.2 ▸ List.mem_map_of_mem this.1)]
  ·unfold named at hn;induction F with
   | nil=>simp at hn
   | cons q r ih=>
    rw [List.find?_cons] at hn;by_cases hq:q.1=x
    ·simp [hq] at hn;subst hn;simp [hq]
    ·have hb:(q.1 == x)=false:=by simpa using hq
     rw [hb] at hn;have:=ih hn;rw [List.map_cons,List.idxOf_cons,hb];exact this
set_option maxRecDepth 20000 in
set_option maxHeartbeats 3200000 in
theorem gI (v:Int) (a:Option Addr) (cap:Nat) (F:List Fm) (s:step.Sp) (ta:Option Addr) (tc:Nat) (la:Option Addr) (lc:Nat) (w:World) (h:FmL w a F) (hF:F.length<=maxLen):
  Calls prog 32 #[zS v a F.length cap,zP s ta tc la lc] w (Gives (.int .i64 (names (forms F) s:Nat)) w):=by
 have hw:Below w.heap.size w ((w.alloc (.cells (zS v a F.length cap) 24)).alloc (.cells (zP s ta tc la lc) 32)):=by
  have h1:=aC w (.cells (zS v a F.length cap) 24);exact h1.alloc h1.size _
 have hA:Block ((w.alloc (.cells (zS v a F.length cap) 24)).alloc (.cells (zP s ta tc la lc) 32)) w.heap.size 24 (zS v a F.length cap):=(Block.new w _ _).alloc _;have hU:Block ((w.alloc (.cells (zS v a F.length cap) 24)).alloc (.cells (zP s ta tc la lc) 32)) (w.heap.size+1) 32 (zP s ta tc la lc):=by
  have:=Block.new ((w.alloc (.cells (zS v a F.length cap) 24))) 32 (zP s ta tc la lc);simpa using this
 have hf0:=h.below hw;have cFi:=dU v a cap F s.fm _ hf0 hF;have HX:Hid (∀w',Below ((w.alloc (.cells (zS v a F.length cap) 24)).alloc (.cells (zP s ta tc la lc) 32)).heap.size ((w.alloc (.cells (zS v a F.length cap) 24)).alloc (.cells (zP s ta tc la lc) 32)) w'->Block w' w.heap.size 24 (zS v a F.length cap)/\Block w' (w.heap.size+1) 32 (zP s ta tc la lc)/\Below w.heap.size w w'):=hid (fun w' hb=>⟨hA.later hb,hU.later hb,hw.trans (hb.mono hw.size)⟩);have HF:=hid hf0;have cK:=fun w'=>zu s.op w'
 rw [iJ] at cFi;unfold Gives at cFi cK ⊢;clear h hA hU hw hf0;rcases nG (forms F) s.fm with ⟨hn,hx⟩ | ⟨p0,j,hn,hx,hj⟩
 ·rw [hx] at cFi;by_cases h9:s.op=9
  ·have d9:(s.op == 9)=true:=by simpa using h9
   rw [show names (forms F) s=0 by unfold names;rw [if_pos h9,hn];rfl]
   exact t37
  ·have d9:(s.op == 9)=false:=by simpa using h9
   rw [show names (forms F) s=8 by unfold names;rw [if_neg h9,hn]]
   exact t37
 ·rw [hx] at cFi;by_cases h9:s.op=9
  ·have d9:(s.op == 9)=true:=by simpa using h9
   rw [show names (forms F) s=9 by unfold names;rw [if_pos h9,hn];rfl];have g0:decide ((j:Int)≥0)=true:=by simp
   exact t37
  ·have d9:(s.op == 9)=false:=by simpa using h9
   have hN:names (forms F) s=if nf s.op=true/\ai (ids p0.2) s.fd<0 then 8 else if (s.op=1/\0<=ai (ids p0.2) s.f.id)\/((s.op=6\/s.op=8)/\0<=ai (ids p0.2) s.tt) then 9
      else if (s.op=1/\(p0.2.length:Int)<s.pl)\/(s.op=7/\(p0.2.length:Int)<=s.pl) then 3 else 0:=by unfold names;rw [if_neg h9,hn]
   have g0:decide ((j:Int)<0)=false:=by simp
   have hjl:j<F.length:=by have:=(List.getElem?_eq_some_iff.1 hj).1;rwa [aF] at this
   obtain ⟨b,off,p,ha,hbl,hp,_,_,_,hpl⟩:=dQ HF.o (Below.refl _ _) hjl;obtain rfl:p0=p.p:=by have:=dR hp;rw [hj] at this;exact Option.some.inj this
   have i1:(j:Int)<F.length:=by omega
   have hml:(F.length:Int)<=9223372036854775807:=by unfold maxLen at hF;omega
   have hpm:(p.fL.length:Int)<=9223372036854775807:=by unfold maxLen at hpl;omega
   have HC:Hid (∀w',Below ((w.alloc (.cells (zS v a F.length cap) 24)).alloc (.cells (zP s ta tc la lc) 32)).heap.size ((w.alloc (.cells (zS v a F.length cap) 24)).alloc (.cells (zP s ta tc la lc) 32)) w'->w'.cell? ⟨b,off+j*2,none⟩=some (.int .i64 p.id)/\w'.cell? ⟨b,off+j*2+1,none⟩=some (.slice p.f p.fL.length p.fCap)/\field.Fds w' p.f p.fL):=hid (fun w' hb=>by
    obtain ⟨b2,off2,p2,he,_,hp2,e0,e1,e2,_⟩:=dQ HF.o hb hjl;cases ha.symm.trans he
    rw [hp] at hp2;cases hp2
    exact ⟨e0,e1,e2⟩)
   subst ha;have HM:=hid hpm;have HML:=hid (show p.fL.length<=maxLen from hpl);change names (forms F) s=if nf s.op=true/\ai (ids p.fL) s.fd<0 then 8 else if (s.op=1/\0<=ai (ids p.fL) s.f.id)\/((s.op=6\/s.op=8)/\0<=ai (ids p.fL) s.tt) then 9
      else if (s.op=1/\(p.fL.length:Int)<s.pl)\/(s.op=7/\(p.fL.length:Int)<=s.pl) then 3 else 0 at hN
   clear hn hx hj hp hpl hbl;have cQ:=fun (x:Int) (w':World) (hb:field.Fds w' p.f p.fL)=>lD p.id p.f p.fCap p.fL x w' hb HML.o
   unfold Gives at cQ;obtain ⟨r,hr⟩:∃r:Nat,names (forms F) s=r:=⟨_,rfl⟩;rw [hr] at hN ⊢;obtain ⟨A,hA⟩:∃A,Hid (ai (ids p.fL) s.fd=A):=⟨_,rfl⟩;obtain ⟨B,hB⟩:∃B,Hid (ai (ids p.fL) s.f.id=B):=⟨_,rfl⟩;obtain ⟨T,hT⟩:∃T,Hid (ai (ids p.fL) s.tt=T):=⟨_,rfl⟩;rw [hA.o,hB.o,hT.o] at hN;clear hr;by_cases h1:s.op=1
   ·have d1:(s.op == 1)=true:=by simpa using h1
    have d10:(s.op == 10)=false:=by rw [h1];rfl
    have d6:(s.op == 6)=false:=by rw [h1];rfl
    have d8:(s.op == 8)=false:=by rw [h1];rfl
    have d7:(s.op == 7)=false:=by rw [h1];rfl
    have ef:nf s.op=false:=by rw [h1];rfl
    rw [ef] at cK;by_cases hQ:0<=B
    ·skip;obtain rfl:r=9:=by rw [hN];simp [nf,h1,hQ]
     have gB:decide (B≥0)=true:=by simpa using hQ
     clear hN h1 hQ
     exact t9
    ·skip;by_cases hP:(p.fL.length:Int)<s.pl
     ·skip;obtain rfl:r=3:=by rw [hN];simp [nf,h1,hQ,hP]
      have gB:decide (B≥0)=false:=by simpa using hQ
      have gP:decide (s.pl>(p.fL.length:Int))=true:=by simpa using hP
      clear hN h1 hP hQ
      exact t9
     ·skip;obtain rfl:r=0:=by rw [hN];simp [nf,h1,hQ,hP]
      have gB:decide (B≥0)=false:=by simpa using hQ
      have gP:decide (s.pl>(p.fL.length:Int))=false:=by simpa using hP
      clear hN h1 hP hQ
      exact t9
   by_cases h10:s.op=10
   ·have d10:(s.op == 10)=true:=by simpa using h10
    have d1:(s.op == 1)=false:=by rw [h10];rfl
    have d6:(s.op == 6)=false:=by rw [h10];rfl
    have d8:(s.op == 8)=false:=by rw [h10];rfl
    have d7:(s.op == 7)=false:=by rw [h10];rfl
    have ef:nf s.op=false:=by rw [h10];rfl
    rw [ef] at cK;obtain rfl:r=0:=by rw [hN];simp [nf,h10]
    clear hN h10;go_enter func32,ntmps32;go_wp2_with (first
     | (go_at_call 14;((with_reducible refine cFi.mono ?_);rintro e w1 ⟨rfl,hb1⟩;obtain ⟨k0,k1,kb⟩:=HX.o _ hb1;have z1:=k0.cell 1;have y0:=k1.cell 0;have KB:=hid kb;obtain ⟨c0,c1,cf⟩:=HC.o _ hb1;have hN1:=aC w1 (.cells (zS p.id p.f p.fL.length p.fCap) 57);have hB1:=hb1.trans (hN1.mono hb1.size);have kf:=Block.new w1 57 (zS p.id p.f p.fL.length p.fCap);have kp:=k1.later hN1;have u0:=kp.cell 0;have u2:=kp.cell 2;have u3:=kp.cell 3;have u4:=kp.cell 4;have u7:=kp.cell 7;have HB1:=hid hB1;clear k0 k1 kb hN1 cf))
     | (go_at_call 68;((with_reducible refine (cK _).mono ?_);rintro e w2 ⟨rfl,hn⟩;have hB2:=HB1.o.trans (hn.mono HB1.o.size);obtain ⟨k0,k1,kb⟩:=HX.o _ hB2;have u0:=k1.cell 0;have u2:=k1.cell 2;have u3:=k1.cell 3;have u4:=k1.cell 4;have u7:=k1.cell 7;have kf:=kf.later hn;have f0:=kf.cell 0;have f1:=kf.cell 1;have KB:=hid kb;clear k0 k1 kb hn)))
    go_ret;exact ⟨rfl,KB.o⟩
   by_cases h6:s.op=6
   ·have d6:(s.op == 6)=true:=by simpa using h6
    have d1:(s.op == 1)=false:=by rw [h6];rfl
    have d10:(s.op == 10)=false:=by rw [h6];rfl
    have d8:(s.op == 8)=false:=by rw [h6];rfl
    have d7:(s.op == 7)=false:=by rw [h6];rfl
    have ef:nf s.op=true:=by rw [h6];rfl
    rw [ef] at cK;by_cases hQ:A<0
    ·skip;obtain rfl:r=8:=by rw [hN];simp [nf,h6,hQ]
     have gA:decide (A<0)=true:=by simpa using hQ
     clear hN h6 hQ
     exact t1
    ·skip;by_cases hP:0<=T
     ·skip;obtain rfl:r=9:=by rw [hN];simp [nf,h6,hQ,hP]
      have gA:decide (A<0)=false:=by simpa using hQ
      have gT:decide (T≥0)=true:=by simpa using hP
      clear hN h6 hP hQ
      exact t3
     ·skip;obtain rfl:r=0:=by rw [hN];simp [nf,h6,hQ,hP]
      have gA:decide (A<0)=false:=by simpa using hQ
      have gT:decide (T≥0)=false:=by simpa using hP
      clear hN h6 hP hQ
      exact t3
   by_cases h8:s.op=8
   ·have d8:(s.op == 8)=true:=by simpa using h8
    have d1:(s.op == 1)=false:=by rw [h8];rfl
    have d10:(s.op == 10)=false:=by rw [h8];rfl
    have d6:(s.op == 6)=false:=by rw [h8];rfl
    have d7:(s.op == 7)=false:=by rw [h8];rfl
    have ef:nf s.op=true:=by rw [h8];rfl
    rw [ef] at cK;by_cases hQ:A<0
    ·skip;obtain rfl:r=8:=by rw [hN];simp [nf,h8,hQ]
     have gA:decide (A<0)=true:=by simpa using hQ
     clear hN h8 hQ
     exact t1
    ·skip;by_cases hP:0<=T
     ·skip;obtain rfl:r=9:=by rw [hN];simp [nf,h8,hQ,hP]
      have gA:decide (A<0)=false:=by simpa using hQ
      have gT:decide (T≥0)=true:=by simpa using hP
      clear hN h8 hP hQ
      exact t3
     ·skip;obtain rfl:r=0:=by rw [hN];simp [nf,h8,hQ,hP]
      have gA:decide (A<0)=false:=by simpa using hQ
      have gT:decide (T≥0)=false:=by simpa using hP
      clear hN h8 hP hQ
      exact t3
   by_cases h7:s.op=7
   ·have d7:(s.op == 7)=true:=by simpa using h7
    have d1:(s.op == 1)=false:=by rw [h7];rfl
    have d10:(s.op == 10)=false:=by rw [h7];rfl
    have d6:(s.op == 6)=false:=by rw [h7];rfl
    have d8:(s.op == 8)=false:=by rw [h7];rfl
    have ef:nf s.op=true:=by rw [h7];rfl
    rw [ef] at cK;by_cases hQ:A<0
    ·skip;obtain rfl:r=8:=by rw [hN];simp [nf,h7,hQ]
     have gA:decide (A<0)=true:=by simpa using hQ
     clear hN h7 hQ
     exact t1
    ·skip;by_cases hP:(p.fL.length:Int)<=s.pl
     ·skip;obtain rfl:r=3:=by rw [hN];simp [nf,h7,hQ,hP]
      have gA:decide (A<0)=false:=by simpa using hQ
      have gP:decide (s.pl≥(p.fL.length:Int))=true:=by simpa using hP
      clear hN h7 hP hQ
      exact t1
     ·skip;obtain rfl:r=0:=by rw [hN];simp [nf,h7,hQ,hP]
      have gA:decide (A<0)=false:=by simpa using hQ
      have gP:decide (s.pl≥(p.fL.length:Int))=false:=by simpa using hP
      clear hN h7 hP hQ
      exact t1
   have d1:(s.op == 1)=false:=by simpa using h1
   have d10:(s.op == 10)=false:=by simpa using h10
   have d6:(s.op == 6)=false:=by simpa using h6
   have d8:(s.op == 8)=false:=by simpa using h8
   have d7:(s.op == 7)=false:=by simpa using h7
   have ef:nf s.op=true:=by simp [nf,h1,h9,h10]
   rw [ef] at cK;by_cases hQ:A<0
   ·skip;obtain rfl:r=8:=by rw [hN];simp [nf,h1,h10,h6,h8,h7,h9,hQ]
    have gA:decide (A<0)=true:=by simpa using hQ
    clear hN h1 h10 h6 h7 h8 h9 hQ
    exact t1
   ·skip;obtain rfl:r=0:=by rw [hN];simp [nf,h1,h10,h6,h8,h7,h9,hQ]
    have gA:decide (A<0)=false:=by simpa using hQ
    clear hN h1 h10 h6 h7 h8 h9 hQ
    exact t1
end typing
end Go.Proofs.YtdnegbkhndekpaaGreat
