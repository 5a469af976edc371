/- Contracts and lemmas that claims of this seat share: StepPrintM, StepPrint, LinkMath. Each says its own conditions. -/
import Derived.Test.YtogfefdlffmioaaCmWord
import Derived.WalkMore
import Derived.Test.YtogfefdlffmioaaCmZ
import Derived.Test.YtogfefdlffmioaaCmAT
import Derived.Test.YtogfefdlffmioaaCmAG
set_option linter.unusedVariables false
namespace Go.Proofs.Ytogfefdlffmioaa
open Go.Proofs.Try
theorem t122{P:Prop}(h:P:=by
 exact fO rfl rfl ⟨rfl,v1,by simpa only[List.append_assoc] using sV.o,sJ.o.trans (hK1)⟩):P:=h
theorem t115{P:Prop}(h:P:=by
 exact⟨⟨k+1,by omega,by go_num,hid ⟨vq,by rw[zX.o];simpa only[List.append_assoc] using LG.o,Lp.o.trans hKq⟩⟩,by simp[intOf];omega⟩):P:=h
theorem t110{P:Prop}(h:P:=by
 rw[List.take_of_length_le (Nat.le_refl _),<-hY.o] at hS;have CQ:=hid hS;have Lm:=hid hKr;clear hS hKr HS;go_wp2;exact fO rfl rfl ⟨rfl,vP,by simpa only[List.append_assoc,Int.toNat_natCast] using CQ.o,Lm.o⟩):P:=h
theorem t8{P:Prop}(h:P:=by
 clear iR;go_enter func74,ntmps74;go_wp2_with (first
  | (go_at_call 24;((with_reducible refine c1.mono ?_);clear c1;rintro e u1 ⟨rfl,v1,jZ,hK1⟩;have lC:=hK1 _ _ _ rP jo dR;  have sV:=hid jZ;clear jZ)))
 exact t122):P:=h
namespace step
open Go.RowKit pen
open field (aI bytesOf bytesOf_length)
open ak (PS aX aH eX)
theorem uJ{L:List Int}{k:Nat}{x:Int}(h:L[k]?=some x):fP (L.take (k+1))=fP (L.take k)++vb x.toNat:=by
 rw[aH h];simp[fP]
theorem xJ{L:List field.Fd}{k:Nat}{x:field.Fd}(h:L[k]?=some x):dF (L.take (k+1))=dF (L.take k)++fZ x:=by
 rw[aH h];simp[dF]
theorem ru{L:List Int}(h:∀n∈L,0<=n/\n<=1000):(fP L).length<=10*L.length:=by
 induction L with
 | nil=>simp[fP]
 | cons n L ih=>
  have h1:=h n si_;have h2:=aT n.toNat om_;have h3:=ih (fun m hm=>h m (by simp[hm]));simp only[fP,List.map_cons,List.flatten_cons,List.length_append,List.length_cons] at h3 ⊢;omega
theorem pM{f:field.Fd}(h:gy f):(fZ f).length<=50:=by
 obtain⟨⟨i0,i1⟩,⟨k0,k1⟩,⟨a0,a1⟩,⟨b0,b1⟩,m0,m1⟩:=h;have l1:=aT f.id.toNat om_;have l2:=aT f.kind.toNat om_;have l3:=aT (zig f.lo) (iU _ om_ om_);have l4:=aT (zig f.hi) (iU _ om_ om_);have l5:=aT f.most.toNat om_;simp only[fZ,List.length_append];omega
theorem rJ{L:List field.Fd}(h:∀f∈L,gy f):(dF L).length<=50*L.length:=by
 induction L with
 | nil=>simp[dF]
 | cons f L ih=>
  have h1:=pM (h f si_);have h3:=ih (fun m hm=>h m (by simp[hm]));simp only[dF,List.map_cons,List.flatten_cons,List.length_append,List.length_cons] at h3 ⊢;omega
set_option maxRecDepth 20000 in
set_option maxHeartbeats 1600000 in
theorem pm0{g:Nat}{w1:World}{xs:List Nat}{v:Value}{w:World}(h:PS g w1 xs v w)(hg:w1.heap.size=g)(s:Sp)(ta:Option Addr)(tc:Nat)(la:Option Addr)(lc:Nat)(HL:Hid (Lists w1 s ta la))(dA:s.Fine 0)(hn:xs.length<=800000):
  Calls prog 74 #[.pointer (some ⟨g,0,none⟩),zP s ta tc la lc,.int .i64 0] w (iY g w1 xs (s.fJ 0) w):=by
 have iR:=h.later (aI w (.cells (zP s ta tc la lc) 52));have rP:=Block.new w 52 (zP s ta tc la lc);have dR:w.heap.size≠g:=by have:=h.1.1.lt;omega
 have sJ:Hid (dH g w (w.alloc (.cells (zP s ta tc la lc) 52))):=hid (dH.later (aI _ _));have hok:=gZ (m:=0) om_ dA;clear h;have hq:0<=s.fm/\s.fm<=200:=hok 102 (by simp[lets]);clear hok dA;have hmb:s.fJ 0=vb s.fm.toNat:=by simp[Sp.fJ,lets,Sp.ja]
 rw[hmb];clear hmb;unfold iY;have c1:=dG iR s.fm om_ om_ om_
 exact t8
set_option maxRecDepth 20000 in
set_option maxHeartbeats 1600000 in
theorem pm1{g:Nat}{w1:World}{xs:List Nat}{v:Value}{w:World}(h:PS g w1 xs v w)(hg:w1.heap.size=g)(s:Sp)(ta:Option Addr)(tc:Nat)(la:Option Addr)(lc:Nat)(HL:Hid (Lists w1 s ta la))(dA:s.Fine 1)(hn:xs.length<=800000):
  Calls prog 74 #[.pointer (some ⟨g,0,none⟩),zP s ta tc la lc,.int .i64 1] w (iY g w1 xs (s.fJ 1) w):=by
 have iR:=h.later (aI w (.cells (zP s ta tc la lc) 52));have rP:=Block.new w 52 (zP s ta tc la lc);have dR:w.heap.size≠g:=by have:=h.1.1.lt;omega
 have sJ:Hid (dH g w (w.alloc (.cells (zP s ta tc la lc) 52))):=hid (dH.later (aI _ _));have hok:=gZ (m:=1) om_ dA;clear h;have hq:0<=s.fd/\s.fd<=255:=hok 100 (by simp[lets]);clear hok dA;have hmb:s.fJ 1=vb s.fd.toNat:=by simp[Sp.fJ,lets,Sp.ja]
 rw[hmb];clear hmb;unfold iY;have c1:=dG iR s.fd om_ om_ om_
 exact t8
set_option maxRecDepth 20000 in
set_option maxHeartbeats 1600000 in
theorem pm2{g:Nat}{w1:World}{xs:List Nat}{v:Value}{w:World}(h:PS g w1 xs v w)(hg:w1.heap.size=g)(s:Sp)(ta:Option Addr)(tc:Nat)(la:Option Addr)(lc:Nat)(HL:Hid (Lists w1 s ta la))(dA:s.Fine 2)(hn:xs.length<=800000):
  Calls prog 74 #[.pointer (some ⟨g,0,none⟩),zP s ta tc la lc,.int .i64 2] w (iY g w1 xs (s.fJ 2) w):=by
 have iR:=h.later (aI w (.cells (zP s ta tc la lc) 52));have rP:=Block.new w 52 (zP s ta tc la lc);have dR:w.heap.size≠g:=by have:=h.1.1.lt;omega
 have sJ:Hid (dH g w (w.alloc (.cells (zP s ta tc la lc) 52))):=hid (dH.later (aI _ _));have hok:=gZ (m:=2) om_ dA;clear h;have hq:0<=s.pl/\s.pl<=8:=hok 112 (by simp[lets]);clear hok dA;have hmb:s.fJ 2=vb s.pl.toNat:=by simp[Sp.fJ,lets,Sp.ja]
 rw[hmb];clear hmb;unfold iY;have c1:=dG iR s.pl om_ om_ om_
 exact t8
set_option maxRecDepth 20000 in
set_option maxHeartbeats 1600000 in
theorem pm3{g:Nat}{w1:World}{xs:List Nat}{v:Value}{w:World}(h:PS g w1 xs v w)(hg:w1.heap.size=g)(s:Sp)(ta:Option Addr)(tc:Nat)(la:Option Addr)(lc:Nat)(HL:Hid (Lists w1 s ta la))(dA:s.Fine 3)(hn:xs.length<=800000):
  Calls prog 74 #[.pointer (some ⟨g,0,none⟩),zP s ta tc la lc,.int .i64 3] w (iY g w1 xs (s.fJ 3) w):=by
 have iR:=h.later (aI w (.cells (zP s ta tc la lc) 52));have rP:=Block.new w 52 (zP s ta tc la lc);have dR:w.heap.size≠g:=by have:=h.1.1.lt;omega
 have sJ:Hid (dH g w (w.alloc (.cells (zP s ta tc la lc) 52))):=hid (dH.later (aI _ _));have hok:=gZ (m:=3) om_ dA;clear h;have hq:0<=s.tt/\s.tt<=255:=hok 116 (by simp[lets]);clear hok dA;have hmb:s.fJ 3=vb s.tt.toNat:=by simp[Sp.fJ,lets,Sp.ja]
 rw[hmb];clear hmb;unfold iY;have c1:=dG iR s.tt om_ om_ om_
 exact t8
set_option maxRecDepth 20000 in
set_option maxHeartbeats 1600000 in
theorem pm4{g:Nat}{w1:World}{xs:List Nat}{v:Value}{w:World}(h:PS g w1 xs v w)(hg:w1.heap.size=g)(s:Sp)(ta:Option Addr)(tc:Nat)(la:Option Addr)(lc:Nat)(HL:Hid (Lists w1 s ta la))(dA:s.Fine 4)(hn:xs.length<=800000):
  Calls prog 74 #[.pointer (some ⟨g,0,none⟩),zP s ta tc la lc,.int .i64 4] w (iY g w1 xs (s.fJ 4) w):=by
 have iR:=h.later (aI w (.cells (zP s ta tc la lc) 52));have rP:=Block.new w 52 (zP s ta tc la lc);have dR:w.heap.size≠g:=by have:=h.1.1.lt;omega
 have sJ:Hid (dH g w (w.alloc (.cells (zP s ta tc la lc) 52))):=hid (dH.later (aI _ _));have hok:=gZ (m:=4) om_ dA;clear h;have hq:0<=s.a/\s.a<=1048576:=hok 97 (by simp[lets]);clear hok dA;have hmb:s.fJ 4=vb s.a.toNat:=by simp[Sp.fJ,lets,Sp.ja]
 rw[hmb];clear hmb;unfold iY;have c1:=dG iR s.a om_ om_ om_
 exact t8
set_option maxRecDepth 20000 in
set_option maxHeartbeats 1600000 in
theorem pm5{g:Nat}{w1:World}{xs:List Nat}{v:Value}{w:World}(h:PS g w1 xs v w)(hg:w1.heap.size=g)(s:Sp)(ta:Option Addr)(tc:Nat)(la:Option Addr)(lc:Nat)(HL:Hid (Lists w1 s ta la))(dA:s.Fine 5)(hn:xs.length<=800000):
  Calls prog 74 #[.pointer (some ⟨g,0,none⟩),zP s ta tc la lc,.int .i64 5] w (iY g w1 xs (s.fJ 5) w):=by
 have iR:=h.later (aI w (.cells (zP s ta tc la lc) 52));have rP:=Block.new w 52 (zP s ta tc la lc);have dR:w.heap.size≠g:=by have:=h.1.1.lt;omega
 have sJ:Hid (dH g w (w.alloc (.cells (zP s ta tc la lc) 52))):=hid (dH.later (aI _ _));have hok:=gZ (m:=5) om_ dA;clear h;have hq:iO s.a/\iO s.b:=hok 98 (by simp[lets]);have Tf:=aT (zig s.a) (iU _ hq.1.1 hq.1.2);clear hok dA;have hmb:s.fJ 5=vb (zig s.a)++vb (zig s.b):=by simp[Sp.fJ,lets,Sp.ja]
 rw[hmb];clear hmb;unfold iY;have c1:=oK iR s.a hq.1.1 hq.1.2 om_;have C2:=hid (fun v w' (h:PS g w1 (xs++vb (zig s.a)) v w')=>oK h s.b hq.2.1 hq.2.2 (by simp only[List.length_append];omega));clear iR;go_enter func74,ntmps74;go_wp2_with (first
  | (go_at_call 89;((with_reducible refine c1.mono ?_);clear c1;rintro e u1 ⟨rfl,v1,jZ,hK1⟩;have lC:=hK1 _ _ _ rP jo dR;have z6:=lC.cell 6;have c2:=C2.o _ _ jZ;have sV:=hid jZ;clear jZ))
  | (go_at_call 89;((with_reducible refine c2.mono ?_);clear c2;rintro e u2 ⟨rfl,v2,uq,hK2⟩;have nI:=hK2 _ _ _ lC jo dR;  have HS2:=hid uq;clear uq)))
 exact fO rfl rfl ⟨rfl,v2,by simpa only[List.append_assoc] using HS2.o,sJ.o.trans (hK1.trans (hK2))⟩
set_option maxRecDepth 20000 in
set_option maxHeartbeats 1600000 in
theorem pm8{g:Nat}{w1:World}{xs:List Nat}{v:Value}{w:World}(h:PS g w1 xs v w)(hg:w1.heap.size=g)(s:Sp)(ta:Option Addr)(tc:Nat)(la:Option Addr)(lc:Nat)(HL:Hid (Lists w1 s ta la))(dA:s.Fine 8)(hn:xs.length<=800000):
  Calls prog 74 #[.pointer (some ⟨g,0,none⟩),zP s ta tc la lc,.int .i64 8] w (iY g w1 xs (s.fJ 8) w):=by
 have iR:=h.later (aI w (.cells (zP s ta tc la lc) 52));have rP:=Block.new w 52 (zP s ta tc la lc);have dR:w.heap.size≠g:=by have:=h.1.1.lt;omega
 have sJ:Hid (dH g w (w.alloc (.cells (zP s ta tc la lc) 52))):=hid (dH.later (aI _ _));have hok:=gZ (m:=8) om_ dA;clear h;have hq:gy s.f:=hok 70 (by simp[lets]);clear hok dA;have hmb:s.fJ 8=fZ s.f:=by simp[Sp.fJ,lets,Sp.ja]
 rw[hmb];clear hmb;unfold iY;have c1:=iF iR s.f hq om_;clear iR;go_enter func74,ntmps74;go_wp2_with (first
  | (go_at_call 90;((with_reducible refine c1.mono ?_);clear c1;rintro e u1 ⟨rfl,v1,jZ,hK1⟩;have lC:=hK1 _ _ _ rP jo dR;  have sV:=hid jZ;clear jZ)))
 exact t122
set_option maxRecDepth 20000 in
set_option maxHeartbeats 1600000 in
theorem pm9{g:Nat}{w1:World}{xs:List Nat}{v:Value}{w:World}(h:PS g w1 xs v w)(hg:w1.heap.size=g)(s:Sp)(ta:Option Addr)(tc:Nat)(la:Option Addr)(lc:Nat)(HL:Hid (Lists w1 s ta la))(dA:s.Fine 9)(hn:xs.length<=800000):
  Calls prog 74 #[.pointer (some ⟨g,0,none⟩),zP s ta tc la lc,.int .i64 9] w (iY g w1 xs (s.fJ 9) w):=by
 have iR:=h.later (aI w (.cells (zP s ta tc la lc) 52));have rP:=Block.new w 52 (zP s ta tc la lc);have dR:w.heap.size≠g:=by have:=h.1.1.lt;omega
 have sJ:Hid (dH g w (w.alloc (.cells (zP s ta tc la lc) 52))):=hid (dH.later (aI _ _));have hok:=gZ (m:=9) om_ dA;clear h;have hq:gy s.f:=hok 70 (by simp[lets]);have hr:iO s.v.n/\s.v.s.size<=32:=hok 86 (by simp[lets]);have Tf:=pM hq;have UJ:=aT (zig s.v.n) (iU _ hr.1.1 hr.1.2);clear hok dA;have hmb:s.fJ 9=fZ s.f++vb (zig s.v.n)++(vb s.v.s.size++bytesOf s.v.s):=by simp[Sp.fJ,lets,Sp.ja]
 rw[hmb];clear hmb;unfold iY;have c1:=iF iR s.f hq om_;have C2:=hid (fun v w' (h:PS g w1 (xs++fZ s.f) v w')=>oK h s.v.n hr.1.1 hr.1.2 (by simp only[List.length_append];omega));have C3:=hid (fun v w' (h:PS g w1 (xs++fZ s.f++vb (zig s.v.n)) v w')=>lT h s.v.s om_ (by simp only[List.length_append];omega));clear iR;go_enter func74,ntmps74;go_wp2_with (first
  | (go_at_call 90;((with_reducible refine c1.mono ?_);clear c1;rintro e u1 ⟨rfl,v1,jZ,hK1⟩;have lC:=hK1 _ _ _ rP jo dR;have z12:=lC.cell 12;have c2:=C2.o _ _ jZ;have sV:=hid jZ;clear jZ))
  | (go_at_call 89;((with_reducible refine c2.mono ?_);clear c2;rintro e u2 ⟨rfl,v2,uq,hK2⟩;have nI:=hK2 _ _ _ lC jo dR;have z13:=nI.cell 13;have c3:=C3.o _ _ uq;have HS2:=hid uq;clear uq))
  | (go_at_call 26;((with_reducible refine c3.mono ?_);clear c3;rintro e u3 ⟨rfl,v3,ny,hK3⟩;have lF:=hK3 _ _ _ nI jo dR;  have FZ:=hid ny;clear ny)))
 exact fO rfl rfl ⟨rfl,v3,by simpa only[List.append_assoc] using FZ.o,sJ.o.trans (hK1.trans (hK2.trans (hK3)))⟩
set_option maxRecDepth 20000 in
set_option maxHeartbeats 1600000 in
theorem QF{g:Nat}{w1:World}{xs:List Nat}{v:Value}{w:World}(h:PS g w1 xs v w)(hg:w1.heap.size=g)(s:Sp)(ta:Option Addr)(tc:Nat)(la:Option Addr)(lc:Nat)(HL:Hid (Lists w1 s ta la))(dA:s.Fine 10)(hn:xs.length<=800000):
  Calls prog 74 #[.pointer (some ⟨g,0,none⟩),zP s ta tc la lc,.int .i64 10] w (iY g w1 xs (s.fJ 10) w):=by
 have iR:=h.later (aI w (.cells (zP s ta tc la lc) 52));have rP:=Block.new w 52 (zP s ta tc la lc);have dR:w.heap.size≠g:=by have:=h.1.1.lt;omega
 have sJ:Hid (dH g w (w.alloc (.cells (zP s ta tc la lc) 52))):=hid (dH.later (aI _ _));have hok:=gZ (m:=10) om_ dA;clear h;have hr:iO s.v.n/\s.v.s.size<=32:=hok 86 (by simp[lets]);have UJ:=aT (zig s.v.n) (iU _ hr.1.1 hr.1.2);clear hok dA;have hmb:s.fJ 10=vb (zig s.v.n)++(vb s.v.s.size++bytesOf s.v.s):=by simp[Sp.fJ,lets,Sp.ja]
 rw[hmb];clear hmb;unfold iY;have c1:=oK iR s.v.n hr.1.1 hr.1.2 om_;have C2:=hid (fun v w' (h:PS g w1 (xs++vb (zig s.v.n)) v w')=>lT h s.v.s om_ (by simp only[List.length_append];omega));clear iR;go_enter func74,ntmps74;go_wp2_with (first
  | (go_at_call 89;((with_reducible refine c1.mono ?_);clear c1;rintro e u1 ⟨rfl,v1,jZ,hK1⟩;have lC:=hK1 _ _ _ rP jo dR;have z13:=lC.cell 13;have c2:=C2.o _ _ jZ;have sV:=hid jZ;clear jZ))
  | (go_at_call 26;((with_reducible refine c2.mono ?_);clear c2;rintro e u2 ⟨rfl,v2,uq,hK2⟩;have nI:=hK2 _ _ _ lC jo dR;  have HS2:=hid uq;clear uq)))
 exact fO rfl rfl ⟨rfl,v2,by simpa only[List.append_assoc] using HS2.o,sJ.o.trans (hK1.trans (hK2))⟩
set_option maxRecDepth 20000 in
set_option maxHeartbeats 1600000 in
theorem pm7{g:Nat}{w1:World}{xs:List Nat}{v:Value}{w:World}(h:PS g w1 xs v w)(hg:w1.heap.size=g)(s:Sp)(ta:Option Addr)(tc:Nat)(la:Option Addr)(lc:Nat)(HL:Hid (Lists w1 s ta la))(dA:s.Fine 7)(hn:xs.length<=800000):
  Calls prog 74 #[.pointer (some ⟨g,0,none⟩),zP s ta tc la lc,.int .i64 7] w (iY g w1 xs (s.fJ 7) w):=by
 have iR:=h.later (aI w (.cells (zP s ta tc la lc) 52));have rP:=Block.new w 52 (zP s ta tc la lc);have dR:w.heap.size≠g:=by have:=h.1.1.lt;omega
 have sJ:Hid (dH g w (w.alloc (.cells (zP s ta tc la lc) 52))):=hid (dH.later (aI _ _));have hok:=gZ (m:=7) om_ dA;clear h;have hq2:s.t.length<=64/\∀n∈s.t,0<=n/\n<=1000:=hok 84 (by simp[lets])
 have La:=aT (s.t.length:Int).toNat om_;clear hok dA;have hmb:s.fJ 7=vb (s.t.length:Int).toNat++fP s.t:=by simp[Sp.fJ,lets,Sp.ja]
 rw[hmb];clear hmb;unfold iY;have c1:=dG iR (s.t.length:Int) om_ om_ om_;clear iR;go_enter func74,ntmps74;go_wp2_with (first
  | (go_at_call 24;((with_reducible refine c1.mono ?_);clear c1;rintro e u1 ⟨rfl,v1,jZ,hK1⟩;have lC:=hK1 _ _ _ rP jo dR;have lm:=lC.cell 14;have sV:=hid jZ;clear jZ)))
 have Lr:Hid (dH g w u1):=hid (sJ.o.trans (hK1));have jg:=hid (show Below w1.heap.size w1 u1 by rw[hg];exact sV.o.2.1);obtain⟨Y,hY⟩:∃Y:List Nat,Hid (xs++vb (s.t.length:Int).toNat=Y):=⟨_,hid rfl⟩;have IJ:Hid (Y.length<=800020):=hid (by rw[<-hY.o];simp only[List.length_append];omega);rw[hY.o] at sV;go_loopw [75] (fun m wr=>∃k:Nat,k<=s.t.length/\m=.int .i64 (k:Int)/\Hid (∃vP,PS g w1 (Y++fP (s.t.take k)) vP wr/\dH g w wr)) (fun m _=>s.t.length - (intOf m).toNat);case atStart=>exact⟨0,Nat.zero_le _,rfl,hid ⟨v1,by simpa[fP] using sV.o,Lr.o⟩⟩
 case round=>
  obtain⟨k,hk,rfl,HS⟩:=hrel;obtain⟨vP,hS,hKr⟩:=HS.o;by_cases bI:k<s.t.length
  ·obtain⟨b,off,p,rfl,jV,hp,c0⟩:=mM HL.o.t (show Below w1.heap.size w1 _ by rw[hg];exact hS.2.1) bI;have i1:(k:Int)<s.t.length:=by omega
   have zX:=hid (uJ hp);have Gf:=hq2.2 p (List.mem_of_getElem? hp);have l1:=ru (L:=s.t.take k) (fun n hn=>hq2.2 n (List.mem_of_mem_take hn));have l2:(s.t.take k).length<=s.t.length:=by simp;omega
   have l3:=IJ.o;have cP:=dG hS p Gf.1 om_ (by simp only[List.length_append];omega);have Lp:=hid hKr;clear hp hKr hS HS;go_wp2_with (go_at_call 24;((with_reducible refine cP.mono ?_);rintro e wq ⟨rfl,vq,Ii,hKq⟩;have LG:=hid Ii;clear Ii))
   exact t115
  ·obtain rfl:k=s.t.length:=by omega
   exact t110
set_option maxRecDepth 20000 in
set_option maxHeartbeats 1600000 in
theorem pm6{g:Nat}{w1:World}{xs:List Nat}{v:Value}{w:World}(h:PS g w1 xs v w)(hg:w1.heap.size=g)(s:Sp)(ta:Option Addr)(tc:Nat)(la:Option Addr)(lc:Nat)(HL:Hid (Lists w1 s ta la))(dA:s.Fine 6)(hn:xs.length<=800000):
  Calls prog 74 #[.pointer (some ⟨g,0,none⟩),zP s ta tc la lc,.int .i64 6] w (iY g w1 xs (s.fJ 6) w):=by
 have iR:=h.later (aI w (.cells (zP s ta tc la lc) 52));have rP:=Block.new w 52 (zP s ta tc la lc);have dR:w.heap.size≠g:=by have:=h.1.1.lt;omega
 have sJ:Hid (dH g w (w.alloc (.cells (zP s ta tc la lc) 52))):=hid (dH.later (aI _ _));have hok:=gZ (m:=6) om_ dA;clear h;have hq:0<=s.a/\s.a<=1048576:=hok 97 (by simp[lets]);have Tf:=aT s.a.toNat om_;have hq2:s.t.length<=64/\∀n∈s.t,0<=n/\n<=1000:=hok 84 (by simp[lets])
 have La:=aT (s.t.length:Int).toNat om_;clear hok dA;have hmb:s.fJ 6=vb s.a.toNat++vb (s.t.length:Int).toNat++fP s.t:=by simp[Sp.fJ,lets,Sp.ja]
 rw[hmb];clear hmb;unfold iY;have c1:=dG iR s.a om_ om_ om_;have C2:=hid (fun v w' (h:PS g w1 (xs++vb s.a.toNat) v w')=>dG h (s.t.length:Int) om_ om_ (by simp only[List.length_append];omega));clear iR;go_enter func74,ntmps74;go_wp2_with (first
  | (go_at_call 24;((with_reducible refine c1.mono ?_);clear c1;rintro e u1 ⟨rfl,v1,jZ,hK1⟩;have lC:=hK1 _ _ _ rP jo dR;have lm:=lC.cell 14;have c2:=C2.o _ _ jZ;have sV:=hid jZ;clear jZ))
  | (go_at_call 24;((with_reducible refine c2.mono ?_);clear c2;rintro e u2 ⟨rfl,v2,uq,hK2⟩;have nI:=hK2 _ _ _ lC jo dR;have lm:=nI.cell 14;have HS2:=hid uq;clear uq)))
 have Lr:Hid (dH g w u2):=hid (sJ.o.trans (hK1.trans (hK2)));have jg:=hid (show Below w1.heap.size w1 u2 by rw[hg];exact HS2.o.2.1);obtain⟨Y,hY⟩:∃Y:List Nat,Hid (xs++vb s.a.toNat++vb (s.t.length:Int).toNat=Y):=⟨_,hid rfl⟩;have IJ:Hid (Y.length<=800020):=hid (by rw[<-hY.o];simp only[List.length_append];omega);rw[hY.o] at HS2;go_loopw [75] (fun m wr=>∃k:Nat,k<=s.t.length/\m=.int .i64 (k:Int)/\Hid (∃vP,PS g w1 (Y++fP (s.t.take k)) vP wr/\dH g w wr)) (fun m _=>s.t.length - (intOf m).toNat);case atStart=>exact⟨0,Nat.zero_le _,rfl,hid ⟨v2,by simpa[fP] using HS2.o,Lr.o⟩⟩
 case round=>
  obtain⟨k,hk,rfl,HS⟩:=hrel;obtain⟨vP,hS,hKr⟩:=HS.o;by_cases bI:k<s.t.length
  ·obtain⟨b,off,p,rfl,jV,hp,c0⟩:=mM HL.o.t (show Below w1.heap.size w1 _ by rw[hg];exact hS.2.1) bI;have i1:(k:Int)<s.t.length:=by omega
   have zX:=hid (uJ hp);have Gf:=hq2.2 p (List.mem_of_getElem? hp);have l1:=ru (L:=s.t.take k) (fun n hn=>hq2.2 n (List.mem_of_mem_take hn));have l2:(s.t.take k).length<=s.t.length:=by simp;omega
   have l3:=IJ.o;have cP:=dG hS p Gf.1 om_ (by simp only[List.length_append];omega);have Lp:=hid hKr;clear hp hKr hS HS;go_wp2_with (go_at_call 24;((with_reducible refine cP.mono ?_);rintro e wq ⟨rfl,vq,Ii,hKq⟩;have LG:=hid Ii;clear Ii))
   exact t115
  ·obtain rfl:k=s.t.length:=by omega
   exact t110
set_option maxRecDepth 20000 in
set_option maxHeartbeats 1600000 in
theorem QG{g:Nat}{w1:World}{xs:List Nat}{v:Value}{w:World}(h:PS g w1 xs v w)(hg:w1.heap.size=g)(s:Sp)(ta:Option Addr)(tc:Nat)(la:Option Addr)(lc:Nat)(HL:Hid (Lists w1 s ta la))(dA:s.Fine 11)(hn:xs.length<=800000):
  Calls prog 74 #[.pointer (some ⟨g,0,none⟩),zP s ta tc la lc,.int .i64 11] w (iY g w1 xs (s.fJ 11) w):=by
 have iR:=h.later (aI w (.cells (zP s ta tc la lc) 52));have rP:=Block.new w 52 (zP s ta tc la lc);have dR:w.heap.size≠g:=by have:=h.1.1.lt;omega
 have sJ:Hid (dH g w (w.alloc (.cells (zP s ta tc la lc) 52))):=hid (dH.later (aI _ _));have hok:=gZ (m:=11) om_ dA;clear h;have hq2:s.l.length<=8/\∀f∈s.l,gy f:=hok 76 (by simp[lets])
 have La:=aT (s.l.length:Int).toNat om_;clear hok dA;have hmb:s.fJ 11=vb (s.l.length:Int).toNat++dF s.l:=by simp[Sp.fJ,lets,Sp.ja]
 rw[hmb];clear hmb;unfold iY;have c1:=dG iR (s.l.length:Int) om_ om_ om_;clear iR;go_enter func74,ntmps74;go_wp2_with (first
  | (go_at_call 24;((with_reducible refine c1.mono ?_);clear c1;rintro e u1 ⟨rfl,v1,jZ,hK1⟩;have lC:=hK1 _ _ _ rP jo dR;have lU:=lC.cell 15;have sV:=hid jZ;clear jZ)))
 have Lr:Hid (dH g w u1):=hid (sJ.o.trans (hK1));obtain⟨Y,hY⟩:∃Y:List Nat,Hid (xs++vb (s.l.length:Int).toNat=Y):=⟨_,hid rfl⟩;have IJ:Hid (Y.length<=800020):=hid (by rw[<-hY.o];simp only[List.length_append];omega);rw[hY.o] at sV;go_loopw [109] (fun m wr=>∃k:Nat,k<=s.l.length/\m=.int .i64 (k:Int)/\Hid (∃vP,PS g w1 (Y++dF (s.l.take k)) vP wr/\dH g w wr)) (fun m _=>s.l.length - (intOf m).toNat);case atStart=>exact⟨0,Nat.zero_le _,rfl,hid ⟨v1,by simpa[dF] using sV.o,Lr.o⟩⟩
 case round=>
  obtain⟨k,hk,rfl,HS⟩:=hrel;obtain⟨vP,hS,hKr⟩:=HS.o;by_cases bI:k<s.l.length
  ·obtain⟨b,off,p,rfl,jV,hp,c0,c1,c2,c3,c4⟩:=eX HL.o.l (show Below w1.heap.size w1 _ by rw[hg];exact hS.2.1) bI;have i1:(k:Int)<s.l.length:=by omega
   have zX:=hid (xJ hp);have Gf:=hq2.2 p (List.mem_of_getElem? hp);have l1:=rJ (L:=s.l.take k) (fun n hn=>hq2.2 n (List.mem_of_mem_take hn));have l2:(s.l.take k).length<=s.l.length:=by simp;omega
   have l3:=IJ.o;have cP:=iF (hS.later (aI wr (.cells (zF p) 47))) p Gf (by simp only[List.length_append];omega);have Lp:=hid (hKr.trans (dH.later (aI wr (.cells (zF p) 47))));clear hp hKr hS HS;go_wp2_with (go_at_call 90;((with_reducible refine cP.mono ?_);rintro e wq ⟨rfl,vq,Ii,hKq⟩;have LG:=hid Ii;clear Ii))
   exact t115
  ·obtain rfl:k=s.l.length:=by omega
   exact t110
theorem sS{g:Nat}{w1:World}{xs:List Nat}{v:Value}{w:World}(h:PS g w1 xs v w)(hg:w1.heap.size=g)(s:Sp)(ta:Option Addr)(tc:Nat)(la:Option Addr)(lc:Nat)(HL:Hid (Lists w1 s ta la))(m:Nat)(hm:m<12)(dA:s.Fine m)(hn:xs.length<=800000):
  Calls prog 74 #[.pointer (some ⟨g,0,none⟩),zP s ta tc la lc,.int .i64 (m:Int)] w (iY g w1 xs (s.fJ m) w):=by
 match m,hm with
 | 0,_=>exact pm0 h hg s ta tc la lc HL dA hn
 | 1,_=>exact pm1 h hg s ta tc la lc HL dA hn
 | 2,_=>exact pm2 h hg s ta tc la lc HL dA hn
 | 3,_=>exact pm3 h hg s ta tc la lc HL dA hn
 | 4,_=>exact pm4 h hg s ta tc la lc HL dA hn
 | 5,_=>exact pm5 h hg s ta tc la lc HL dA hn
 | 6,_=>exact pm6 h hg s ta tc la lc HL dA hn
 | 7,_=>exact pm7 h hg s ta tc la lc HL dA hn
 | 8,_=>exact pm8 h hg s ta tc la lc HL dA hn
 | 9,_=>exact pm9 h hg s ta tc la lc HL dA hn
 | 10,_=>exact QF h hg s ta tc la lc HL dA hn
 | 11,_=>exact QG h hg s ta tc la lc HL dA hn
end step
namespace step
open Go.RowKit pen
open field (aI bytesOf bytesOf_length)
open ak (PS aX aH dM)
theorem wQ{s:Sp}{c:UInt8}(hc:Letter c)(h:s.Ok c):(s.ja c).length<=650:=by
 rcases hc with rfl | rfl | rfl | rfl | rfl | rfl | rfl | rfl | rfl | rfl
 ·have hq:0<=s.fm/\s.fm<=200:=h;have:=aT s.fm.toNat om_;show(vb s.fm.toNat).length<=650
  omega
 ·have hq:0<=s.fd/\s.fd<=255:=h;have:=aT s.fd.toNat om_;show(vb s.fd.toNat).length<=650
  omega
 ·have hq:0<=s.pl/\s.pl<=8:=h;have:=aT s.pl.toNat om_;show(vb s.pl.toNat).length<=650
  omega
 ·have hq:0<=s.tt/\s.tt<=255:=h;have:=aT s.tt.toNat om_;show(vb s.tt.toNat).length<=650
  omega
 ·have hq:0<=s.a/\s.a<=1048576:=h;have:=aT s.a.toNat om_;show(vb s.a.toNat).length<=650
  omega
 ·have hq:iO s.a/\iO s.b:=h;have h1:=aT (zig s.a) (iU _ hq.1.1 hq.1.2);have h2:=aT (zig s.b) (iU _ hq.2.1 hq.2.2);show(vb (zig s.a)++vb (zig s.b)).length<=650
  rw[List.length_append];omega
 ·have hq:gy s.f:=h;have:=pM hq;show(fZ s.f).length<=650
  omega
 ·have hq:iO s.v.n/\s.v.s.size<=32:=h;have h1:=aT (zig s.v.n) (iU _ hq.1.1 hq.1.2);have h2:=aT s.v.s.size om_;show(vb (zig s.v.n)++(vb s.v.s.size++bytesOf s.v.s)).length<=650
  rw[List.length_append,List.length_append,bytesOf_length];omega
 ·have hq:s.t.length<=64/\∀n∈s.t,0<=n/\n<=1000:=h
  have h1:=aT s.t.length om_;have h2:=ru hq.2;show(vb s.t.length++fP s.t).length<=650
  rw[List.length_append];omega
 ·have hq:s.l.length<=8/\∀f∈s.l,gy f:=h
  have h1:=aT s.l.length om_;have h2:=rJ hq.2;show(vb s.l.length++dF s.l).length<=650
  rw[List.length_append];omega
theorem EU{s:Sp}{c:UInt8}(hc:Letter c)(h:s.Ok c):(s.ja c).length<=660:=Nat.le_trans (wQ hc h) om_
theorem lI{α:Type}(f:α->List Nat)(B:Nat):∀(L:List α),(∀x∈L,(f x).length<=B)->((L.map f).flatten).length<=B*L.length
 | [],_=>by simp
 | x :: L,h=>by
  have h1:=h x si_;have h2:=lI f B L (fun y hy=>h y (by simp[hy]));simp only[List.map_cons,List.flatten_cons,List.length_append,List.length_cons];have:B*(L.length+1)=B*L.length+B:=Nat.mul_succ _ _;omega
theorem Fa{s:Sp}{m:Nat}(hm:m<12)(h:s.Fine m):(s.fJ m).length<=1320:=by
 have h1:=lI s.ja 660 (lets m) (fun c hc=>EU (by
  have:∀m,m<12->∀c∈lets m,Letter c:=by decide
  exact this m hm c hc) (gZ hm h c hc))
 have h2:∀m,m<12->(lets m).length<=2:=by decide
 have h3:=h2 m hm;unfold Sp.fJ;omega
theorem wR{s:Sp}(h:∀m∈mem s.op,s.Fine m)(j:Nat):((((mem s.op).take j).map s.fJ).flatten).length<=6600:=by
 have h1:=lI s.fJ 1320 ((mem s.op).take j) (fun m hm=>Fa (uI _ m (List.mem_of_mem_take hm)) (h m (List.mem_of_mem_take hm)));have h2:=qH s.op;have h3:((mem s.op).take j).length<=(mem s.op).length:=by simp;omega
 omega
theorem Dy{s:Sp}(h:s.Right):s.iL.length<=6610:=by
 have h1:=wR h.1 (mem s.op).length;rw[List.take_of_length_le (Nat.le_refl _)] at h1;have h2:=qI h.2.1;have h3:=aT s.op.toNat om_;rw[wX,List.length_append];omega
def jF(L:List Sp):List Nat:=(L.map Sp.iL).flatten
theorem zH{L:List Sp}{k:Nat}{x:Sp}(h:L[k]?=some x):jF (L.take (k+1))=jF (L.take k)++x.iL:=by
 rw[aH h];simp[jF]
theorem AQ{s:Sp}{k m:Nat}(h:(mem s.op)[k]?=some m):(((mem s.op).take (k+1)).map s.fJ).flatten=(((mem s.op).take k).map s.fJ).flatten++s.fJ m:=by
 rw[aH h];simp
theorem vg{L:List Sp}(h:Rights L)(hl:L.length<=40)(k:Nat):(jF (L.take k)).length<=264400:=by
 have h1:=lI Sp.iL 6610 (L.take k) (fun s hs=>Dy (h s (List.mem_of_mem_take hs)));have h3:(L.take k).length<=L.length:=by simp;omega
 unfold jF;omega
theorem sN.stays{w w':World}{a:Option Addr}{op:Int}{g:Nat}(h:sN w a op)(hs:dH g w w')(hg:∀x,a=some x->x.block≠g):sN w' a op:=by
 rcases h with h | ⟨q,rfl,hB⟩
 ·exact .inl h
 ·exact .inr ⟨q,rfl,hs _ _ _ hB Kv (hg _ rfl)⟩
theorem uP(a:Option Addr)(c:Nat)(L:List St)(w:World)(h:StL w a L)(DX:L.length<=40)(hr:¬Rights (bV L)):
  Calls prog 48 #[.slice a L.length c] w fun e w'=>e=.returned (.tuple #[.slice none 0 0,.int .i64 2])/\Below w.heap.size w w':=by
 have hd:decide ((L.length:Int)>40)=false:=decide_eq_false om_;have j1:¬(40:Int)<L.length:=by omega
 have cR:=lV a c L w h (by unfold maxLen;omega);rw[decide_eq_false hr] at cR;unfold field.Gives at cR;clear hr h;go_enter func48,ntmps48;go_wp2_with (go_at_call 57;((with_reducible refine cR.mono ?_);rintro e w1 ⟨rfl,bQ⟩));go_ret2;exact⟨rfl,bQ⟩
set_option maxRecDepth 20000 in
set_option maxHeartbeats 3200000 in
theorem je(a:Option Addr)(c:Nat)(L:List St)(w:World)(h:StL w a L)(DX:L.length<=40)(hr:Rights (bV L)):
  Calls prog 48 #[.slice a L.length c] w (pen.Gives (dZ (bV L)) 0 w):=by
 have hd:decide ((L.length:Int)>40)=false:=decide_eq_false om_;have j1:¬(40:Int)<L.length:=by omega
 have cR:=lV a c L w h (by unfold maxLen;omega);rw[decide_eq_true hr] at cR;unfold field.Gives at cR;have HF:=hid h;have HR:=hid hr;have qQ:=hid (dI L);have LD:Hid (dZ (bV L)=[]++vb (L.length:Int).toNat++jF (bV L)):=hid (by unfold dZ jF;rw[dI];simp);have ln:=aT (L.length:Int).toNat om_;obtain⟨X,hX⟩:∃X:List Nat,Hid ([]++vb (L.length:Int).toNat=X):=⟨_,hid rfl⟩;have LK:Hid (X.length<=10):=hid (by rw[<-hX.o];simp only[List.length_append,List.length_nil];omega);rw[hX.o] at LD;rw[LD.o];clear h hr;go_enter func48,ntmps48;go_wp2_with (first
  | (go_at_call 57;((with_reducible refine cR.mono ?_);rintro e w1 ⟨rfl,bQ⟩;have hF1:=hid (HF.o.below bQ)))
  | (go_at_call 23;((with_reducible refine(new_any w1).mono ?_);rintro e w2 ⟨rfl,nM,aQ⟩;have uq:PS w1.heap.size w1 [] (.slice none 0 0) w2:=⟨nM,aQ,aQ.size⟩))
  | (go_at_call 24;((with_reducible refine(dG uq (L.length:Int) om_ om_ si_).mono ?_);rintro e w3 ⟨rfl,v3,ny,_⟩)))
 have HB1:=hid bQ;have oD:=hid bQ.size;clear cR bQ uq nM aQ;obtain⟨g,hg⟩:∃g,Hid (w1.heap.size=g):=⟨_,hid rfl⟩;rw[hg.o] at ny oD ⊢;rw[hX.o] at ny;have FZ:=hid ny;clear ny;go_loopw [24] (fun n wr=>∃k:Nat,k<=L.length/\n=.int .i64 (k:Int)/\Hid (∃vP,PS g w1 (X++jF ((bV L).take k)) vP wr)) (fun n _=>L.length - (intOf n).toNat);case atStart=>exact⟨0,Nat.zero_le _,rfl,hid ⟨v3,by simpa[jF] using FZ.o⟩⟩
 case round=>
  obtain⟨k,hk,rfl,HS⟩:=hrel;obtain⟨vP,hS⟩:=HS.o;by_cases bI:k<L.length
  ·obtain⟨b,off,p,rfl,jV,hp,xU,z0,z1,z2,z3,z4,z5,z6,z7,z8,z9,z10,z11,z12,z13,lm,lU⟩:=mW hF1.o (show Below w1.heap.size w1 _ by rw[hg.o];exact hS.2.1) bI;have i1:(k:Int)<L.length:=by omega
   have zX:=hid (zH (gU hp));have Gf:p.s.Right:=HR.o _ (List.mem_of_getElem? (gU hp));have hgd:=hF1.o.each p (List.mem_of_getElem? hp);obtain⟨s,ta,tc,la,lc⟩:=p;simp only at z0 z1 z2 z3 z4 z5 z6 z7 z8 z9 z10 z11 z12 z13 lm lU xU zX Gf hgd;have TD:=hid hgd;have S9:=hid Gf;have hop:=qI Gf.2.1;have lo:=aT s.op.toNat om_;have lX:=LK.o;have lS:=vg HR.o (by rw[qQ.o];exact DX) k;have EO:(X++jF ((bV L).take k)).length<=264410:=by simp only[List.length_append];omega
   have iR:=hS.later (aI wr (.cells (zP s ta tc la lc) 52));have Iu:=hid (Block.new wr 52 (zP s ta tc la lc));have dR:wr.heap.size≠g:=by have:=hS.1.1.lt;omega
   obtain⟨Y,hY⟩:∃Y:List Nat,Hid (X++jF ((bV L).take k)=Y):=⟨_,hid rfl⟩;rw[hY.o] at iR EO;have c5:=dG iR s.op om_ om_ om_;have IJ:=hid EO;have TQ:=hid hop;clear hp xU Gf hgd hS HS lo lX lS EO hop;have cM:=fun w'=>og s.op w'
   unfold qj at cM;unfold iY at c5;go_wp2_with (first
    | (go_at_call 24;((with_reducible refine c5.mono ?_);clear c5;rintro e w5 ⟨rfl,v5,vT,hK5⟩;have Gs:=hK5 _ _ _ Iu.o jo dR;have y0:=Gs.cell 0;have OD:=hid vT;have Ol:=hid Gs;clear vT Gs))
    | (go_at_call 61;((with_reducible refine(cM _).mono ?_);rintro e w6 ⟨aM,Sz,rfl,hM,pU⟩;have HM:=hid hM;have yw:=hid (OD.o.later pU);have RN:=hid (Ol.o.later pU);clear pU hM)))
   clear z0 z1 z2 z3 z4 z5 z6 z7 z8 z9 z10 z11 z12 z13 lm lU y0 hK5;obtain⟨T,hT⟩:∃T,Hid (wr.heap.size=T):=⟨_,hid rfl⟩;rw[hT.o] at RN dR ⊢;obtain⟨N,hN⟩:∃N:Nat,Hid ((mem s.op).length=N):=⟨_,rfl⟩;have SG:N<=5:=by rw[<-hN.o];exact qH _
   rw[hN.o];have TJ:Hid (∀x,aM=some x->mem s.op≠[]->x.block≠g):=hid (by
    rintro x rfl qC;rcases HM.o with h | ⟨q,he,hB⟩
    ·exact absurd h qC
    ·injection he with he
     subst he;intro e;have h1:=yw.o.1.1;have e':q=g:=e;subst e';unfold Block at h1 hB;rw[h1] at hB;exact absurd (Obj.cells.inj (Option.some.inj hB)).2.1 de_)
   go_loopw [36] (fun m wq=>∃j:Nat,j<=N/\m=.int .i64 (j:Int)/\Hid (∃vP,PS g w1 (Y++vb s.op.toNat++(((mem s.op).take j).map s.fJ).flatten) vP wq)/\Hid (Block wq T 52 (zP s ta tc la lc))/\Hid (sN wq aM s.op)) (fun m _=>N - (intOf m).toNat);case atStart=>exact⟨0,Nat.zero_le _,rfl,hid ⟨v5,by simpa using yw.o⟩,RN,HM⟩
   case round=>
    obtain⟨j,hj,rfl,HQ,yD,RV⟩:=hrel;obtain⟨vQ,hQ⟩:=HQ.o;by_cases hjt:j<N
    ·obtain⟨b2,off2,m,rfl,MO,hm,D9,e0⟩:=rq RV.o.ins (Below.refl _ _) (k:=j) (by rw[hN.o];exact hjt);have i2:(j:Int)<N:=by omega
     have LM:=hid (AQ hm);have hmm:=List.mem_of_getElem? hm;have lg:=wR S9.o.1 j;have lo:=aT s.op.toNat (by have:=TQ.o;omega);have lY:=IJ.o;have cP:=sS hQ hg.o s ta tc la lc TD m D9 (S9.o.1 m hmm) (by simp only[List.length_append];omega);have x0:=yD.o.cell 0;have x1:=yD.o.cell 1;have x2:=yD.o.cell 2;have x3:=yD.o.cell 3;have x4:=yD.o.cell 4;have x5:=yD.o.cell 5;have x6:=yD.o.cell 6;have x7:=yD.o.cell 7;have x8:=yD.o.cell 8;have x9:=yD.o.cell 9;have x10:=yD.o.cell 10;have x11:=yD.o.cell 11;have x12:=yD.o.cell 12;have Ny:=yD.o.cell 13;have x14:=yD.o.cell 14;have x15:=yD.o.cell 15;have IB:=hid (show mem s.op≠[] from fun e=>by rw[e] at hmm;simp at hmm);unfold iY at cP;clear hm hmm lg lo lY hQ HQ;go_wp2_with (go_at_call 74;((with_reducible refine cP.mono ?_);clear cP;rintro e w7 ⟨rfl,v7,Ji,hK7⟩;have LC:=hid Ji;clear Ji));exact⟨⟨j+1,by omega,by go_num,hid ⟨v7,by rw[LM.o];simpa only[List.append_assoc] using LC.o⟩,hid (hK7 _ _ _ yD.o jo dR),hid (RV.o.stays hK7 (fun x hx=>TJ.o x hx IB.o))⟩,by simp[intOf];omega⟩
    ·obtain rfl:j=N:=by omega
     rw[<-hN.o,List.take_of_length_le (Nat.le_refl _)] at hQ;have Iw:Hid (∃vP,PS g w1 (X++jF ((bV L).take (k+1))) vP wr):=hid (by
      rw[zX.o,wX];have h1:=hQ;rw[<-hY.o] at h1;exact⟨_,by simpa only[List.append_assoc] using h1⟩)
     clear hQ HQ;go_wp2;exact⟨⟨k+1,by omega,by go_num,Iw⟩,by simp[intOf];omega⟩
  ·obtain rfl:k=L.length:=by omega
   rw[List.take_of_length_le (by rw[qQ.o];exact Nat.le_refl _)] at hS;have cD:=tX g g vP (X++jF (bV L)) wr hS.1 (by have h1:=vg HR.o (by rw[qQ.o];exact DX) L.length;rw[List.take_of_length_le (by rw[qQ.o];exact Nat.le_refl _)] at h1;have:=LK.o;simp only[List.length_append];omega);unfold pen.Gives at cD;have CQ:=hid hS;clear hS HS;go_wp2_with (go_at_call 27;((with_reducible refine cD.mono ?_);rintro e w5 ⟨u,rfl,ho,jq⟩;have TP:=hid ho;have Ol:=hid jq;clear ho jq));go_ret2;have hS:=CQ.o;have D7:Below g w1 w5:=hS.2.1.trans (Ol.o.mono hS.2.2);have Ap:w.heap.size<=wr.heap.size:=Nat.le_trans oD.o hS.2.2;exact⟨u,rfl,dM TP.o Ap,HB1.o.trans ((show Below w1.heap.size w1 w5 by rw[hg.o];exact D7).mono HB1.o.size)⟩
end step
theorem t38{P:Prop}(h:P:=by
 unfold au iP;repeat' split
 all_goals first | exact hs | (intro c hc;exact hs c (List.mem_of_mem_drop hc))):P:=h
namespace link
open Go.RowKit pen
open ak (Small bH aW bF)
open step (Sp dZ bP Rights eY nP gone)
def Right(n v:Int)(F:List ak.Form)(O B:List Sp):Prop:=(1<=n/\n<=65535)/\ak.Right v F/\v≠n/\bP O=0/\bP B=0
instance (n v:Int) (F:List ak.Form) (O B:List Sp):Decidable (Right n v F O B):=by unfold Right;infer_instance
def iq(l:List Nat):List Nat:=vb l.length++l
def jk(n v:Int)(F:List ak.Form)(O B:List Sp):List Nat:=vb n.toNat++iq (ak.dU v F)++iq (dZ O)++iq (dZ B)
def rdN(xs:List Nat):Nat×Sight:=au 65535 (xs,0)
def rdA(xs:List Nat):List Nat×Sight:=dw 131072 (rdN xs).2
def rdB(xs:List Nat):List Nat×Sight:=dw 131072 (rdA xs).2
def rdC(xs:List Nat):List Nat×Sight:=dw 131072 (rdB xs).2
def Fv(a b c:Nat):Nat:=if a≠0 then a else if b≠0 then b else c
def decoded(n v:Int)(F:List ak.Form)(O B:List Sp)(e:Nat):(Int×Int×List ak.Form×List Sp×List Sp)×Nat:=
 if e≠0 then((0,0,[],[],[]),e) else if Right n v F O B then((n,v,F,O,B),0) else((0,0,[],[],[]),2)
def parsed(xs:List Nat):(Int×Int×List ak.Form×List Sp×List Sp)×Nat:=
 if gI (rdC xs).2≠0 then((0,0,[],[],[]),gI (rdC xs).2)
 else decoded (rdN xs).1 (ak.parsed (rdA xs).1).1 (ak.parsed (rdA xs).1).2.1 (step.parsed (rdB xs).1).1 (step.parsed (rdC xs).1).1 (Fv (ak.parsed (rdA xs).1).2.2 (step.parsed (rdB xs).1).2 (step.parsed (rdC xs).1).2)
theorem vM(op:Int):(step.uses op).length<=5:=by
 refine step.jG (Q:=fun op=>(step.uses op).length<=5) ?_ ?_ ?_ ?_ ?_ ?_ ?_ ?_ ?_ ?_ ?_ ?_ ?_ ?_ ?_ ?_ ?_ ?_ ?_ ?_ ?h0 op;case h0=>intro op h1 h2;rw[h2];simp
 all_goals decide
theorem Bo{s:Sp}(h:s.Right):s.iL.length<=3260:=by
 have h1:=step.lI s.ja 650 (step.uses s.op) (fun c hc=>step.wQ (h.ok c hc).1 (h.ok c hc).2);have h2:=vM s.op;have h3:=step.qI h.2.1;have h4:=aT s.op.toNat om_;unfold Sp.iL;rw[List.length_append];omega
theorem jP{L:List Sp}(h:bP L=0):L.length<=40/\Rights L:=by
 unfold bP at h;by_cases h1:40<L.length
 ·rw[if_pos h1] at h;cases h
 ·rw[if_neg h1] at h;by_cases h2:Rights L
  ·exact⟨by omega,h2⟩
  ·rw[if_neg h2] at h;cases h
theorem Bg{L:List Sp}(h1:L.length<=40)(h2:Rights L):bP L=0:=by unfold bP;rw[if_neg om_,if_pos h2]
theorem jC{L:List Sp}(h:bP L=0):(dZ L).length<=130410:=by
 obtain⟨h1,h2⟩:=jP h;have h3:=step.lI Sp.iL 3260 L (fun s hs=>Bo (h2 s hs));have h4:=aT L.length om_;unfold dZ;rw[List.length_append];omega
theorem mQ{v:Int}{F:List ak.Form}(h:ak.Right v F):(ak.dU v F).length<=10000:=by
 have h1:=aT v.toNat (by have:=h.1;omega);have h2:=aT F.length (by have:=h.2.1;omega);have h3:=ak.uo h.2.2.1;have:=h.2.1;unfold ak.dU;simp only[List.length_append];omega
theorem vJ(l:List Nat)(hl:l.length<=131072)(r:List Nat):dw 131072 (iq l++r,0)=(l,(r,0)):=by
 unfold dw iq;rw[List.append_assoc,aW 131072 _ _ om_ om_];simp only[];rw[wI l.length l r rfl];simp
theorem jc{n v:Int}{F:List ak.Form}{O B:List Sp}(h:Right n v F O B):parsed (jk n v F O B)=((n,v,F,O,B),0):=by
 have l1:=mQ h.2.1;have l2:=jC h.2.2.2.1;have l3:=jC h.2.2.2.2;have hN:rdN (jk n v F O B)=(n.toNat,(iq (ak.dU v F)++(iq (dZ O)++iq (dZ B)),0)):=by
  unfold rdN jk;simp only[List.append_assoc];exact aW 65535 _ _ (by have:=h.1;omega) om_
 have hA:rdA (jk n v F O B)=(ak.dU v F,(iq (dZ O)++iq (dZ B),0)):=by
  unfold rdA;rw[hN];exact vJ _ om_ _
 have hB:rdB (jk n v F O B)=(dZ O,(iq (dZ B),0)):=by
  unfold rdB;rw[hA];exact vJ _ om_ _
 have hC:rdC (jk n v F O B)=(dZ B,([],0)):=by
  unfold rdC;rw[hB];have:=vJ (dZ B) om_ [];rw[List.append_nil] at this;exact this
 obtain⟨o1,o2⟩:=jP h.2.2.2.1;obtain⟨b1,b2⟩:=jP h.2.2.2.2;unfold parsed decoded;rw[hC,hB,hA,hN];simp only[ak.jc h.2.1,step.jc o2 o1,step.jc b2 b1];have hn:((n.toNat:Nat):Int)=n:=by have:=h.1;omega
 rw[if_neg (by simp[gI]),if_neg (by simp[Fv]),hn,if_pos h]
theorem vI{e:Sight}(hs:Small e)(h:(dw 131072 e).2.2=0):e.2=0/\e.1=iq (dw 131072 e).1++(dw 131072 e).2.1:=by
 obtain⟨N,e1,hN⟩:∃A s,au 131072 e=(A,s):=⟨_,_,rfl⟩;unfold dw at h ⊢;rw[hN] at h ⊢;simp only at h ⊢;have h0:¬(dV N e1).2.2≠0:=by
  intro hq;rw[if_pos hq] at h;exact hq h
 rw[if_neg h0] at h ⊢;have h1:e1.2=0:=by
  exact t85
 have bI:¬e1.1.length<N:=by
  exact t91
 have hx:dV N e1=(e1.1.take N,(e1.1.drop N,0)):=by unfold dV;rw[if_neg om_,if_neg bI]
 rw[hx];simp only;have i1:=bF (most:=131072) hs (by rw[hN];exact h1);rw[hN] at i1;refine⟨i1.1, ?_⟩;unfold iq;rw[List.length_take,Nat.min_eq_left om_,List.append_assoc,List.take_append_drop];exact i1.2
theorem yj{m:Int}{e:Sight}(hs:Small e):∀c∈(dw m e).1,c<256:=by
 have hc:Small (au m e).2:=by
  exact t38
 unfold dw;exact Et hc
theorem lQ(e:Sight):(dw 131072 e).1.length<=131072:=by
 have h1:=(oH 9223372036854775807 ((max 131072 0:Int)).toNat e).2;have h2:=CV (au 131072 e).1 (au 131072 e).2;unfold dw;show(dV (au 131072 e).1 (au 131072 e).2).1.length<=131072
 refine Nat.le_trans h2 (Nat.le_trans h1 ?_);decide
theorem uX{m:Int}{e:Sight}(hs:Small e):Small (dw m e).2:=by
 have hc:Small (au m e).2:=by
  exact t38
 have hn:Small (dV (au m e).1 (au m e).2).2:=by
  unfold dV;repeat' split
  all_goals first | exact hc | (intro c hq;exact hc c (List.mem_of_mem_drop hq))
 unfold dw;split
 ·exact hs
 ·exact hn
theorem zA{m:Int}{e:Sight}(hs:Small e):Small (au m e).2:=by
 exact t38
theorem zh{xs:List Nat}(hx:∀c∈xs,c<256):Small (rdN xs).2/\Small (rdA xs).2/\Small (rdB xs).2:=by
 have h0:Small (rdN xs).2:=zA (show Small (xs,0) from hx);have h1:Small (rdA xs).2:=uX h0;exact⟨h0,h1,uX h1⟩
theorem FC{xs:List Nat}(hx:∀c∈xs,c<256):(∀c∈(rdA xs).1,c<256)/\(∀c∈(rdB xs).1,c<256)/\∀c∈(rdC xs).1,c<256:=by
 obtain⟨h0,h1,h2⟩:=zh hx;exact⟨yj h0,yj h1,yj h2⟩
theorem Fz{a b c:Nat}(h:Fv a b c=0):a=0/\b=0/\c=0:=by
 unfold Fv at h;by_cases h1:a≠0
 ·rw[if_pos h1] at h;omega
 ·rw[if_neg h1] at h;by_cases h2:b≠0
  ·rw[if_pos h2] at h;omega
  ·rw[if_neg h2] at h;omega
theorem jb{xs:List Nat}(hx:∀c∈xs,c<256){n v:Int}{F:List ak.Form}{O B:List Sp}(h:parsed xs=((n,v,F,O,B),0)):Right n v F O B/\jk n v F O B=xs:=by
 obtain⟨s0,s1,s2⟩:=zh hx;obtain⟨t0,t1,t2⟩:=FC hx;unfold parsed at h;by_cases h1:gI (rdC xs).2≠0
 ·rw[if_pos h1] at h;exact absurd (Prod.mk.inj h).2 h1
 rw[if_neg h1] at h;unfold decoded at h;by_cases h2:Fv (ak.parsed (rdA xs).1).2.2 (step.parsed (rdB xs).1).2 (step.parsed (rdC xs).1).2≠0
 ·rw[if_pos h2] at h;exact absurd (Prod.mk.inj h).2 h2
 rw[if_neg h2] at h;by_cases h3:Right (rdN xs).1 (ak.parsed (rdA xs).1).1 (ak.parsed (rdA xs).1).2.1 (step.parsed (rdB xs).1).1 (step.parsed (rdC xs).1).1
 ·rw[if_pos h3] at h;simp only[Prod.mk.injEq,and_true] at h;obtain⟨rfl,rfl,rfl,rfl,rfl⟩:=h;refine⟨h3, ?_⟩;obtain⟨z1,z2,z3⟩:=Fz (Decidable.of_not_not h2);have e1:=(ak.jb t0 z1).2;have e2:=(step.jb t1 z2).2.2;have e3:=(step.jb t2 z3).2.2;have hend:(rdC xs).2.2=0/\(rdC xs).2.1=[]:=by
   unfold gI at h1;by_cases h3:(rdC xs).2.2=0/\0<(rdC xs).2.1.length
   ·rw[if_pos h3] at h1;omega
   ·exact t81
  obtain⟨q2,i3⟩:=vI s2 hend.1;obtain⟨q1,i2⟩:=vI s1 q2;obtain⟨q0,i1⟩:=vI s0 q1;obtain⟨_,i0⟩:=bF (most:=65535) (s:=(xs,0)) hx q0;unfold jk;rw[e1,e2,e3,show(((rdN xs).1:Int)).toNat=(rdN xs).1 by omega];have j3:(rdB xs).2.1=iq (rdC xs).1++[]:=by rw[<-hend.2];exact i3
  have j2:(rdA xs).2.1=iq (rdB xs).1++(rdB xs).2.1:=i2;have j1:(rdN xs).2.1=iq (rdA xs).1++(rdA xs).2.1:=i1;have j0:xs=vb (rdN xs).1++(rdN xs).2.1:=i0;rw[j3,List.append_nil] at j2;rw[j2] at j1;rw[j1] at j0;simp only[List.append_assoc];exact j0.symm
 ·rw[if_neg h3] at h;simp at h
end link
end Go.Proofs.Ytogfefdlffmioaa
