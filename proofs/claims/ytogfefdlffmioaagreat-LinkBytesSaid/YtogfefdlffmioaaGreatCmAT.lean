/- Contracts and lemmas that claims of this seat share: StepPrintM, StepPrint, LineAny, StepParse. Each says its own conditions. -/
import Derived.Test.YtogfefdlffmioaaGreatCmWord
import Derived.WalkMore
import Derived.Deep.CutRange
import Derived.Test.YtogfefdlffmioaaGreatCmT
import Derived.Test.YtogfefdlffmioaaGreatCmJ
import Derived.Test.YtogfefdlffmioaaGreatCmAS
import Derived.Test.YtogfefdlffmioaaGreatCmAR
set_option linter.unusedVariables false
namespace Go.Proofs.YtogfefdlffmioaaGreat
open Go.Proofs.Tryz
theorem t135{P:Prop}(h:P:=by
 exact ret0 rfl rfl ⟨rfl,v1,by simpa only[List.append_assoc] using HS1.o,HK0.o.trans (hK1)⟩):P:=h
theorem t128{P:Prop}(h:P:=by
 exact⟨⟨k+1,by omega,by go_num,hid ⟨vq,by rw[HTK.o];simpa only[List.append_assoc] using HSQ.o,HKR.o.trans hKq⟩⟩,by simp[intOf];omega⟩):P:=h
theorem t123{P:Prop}(h:P:=by
 rw[List.take_of_length_le (Nat.le_refl _),<-hY.o] at hS;have HSE:=hid hS;have HKE:=hid hKr;clear hS hKr HS;go_wp2;exact ret0 rfl rfl ⟨rfl,vP,by simpa only[List.append_assoc,Int.toNat_natCast] using HSE.o,HKE.o⟩):P:=h
theorem t8{P:Prop}(h:P:=by
 clear aW;go_enter func68,ntmps68;go_wp2_with (first
  | (go_at_call 15;((with_reducible refine c1.mono ?_);clear c1;rintro e u1 ⟨rfl,v1,bH,hK1⟩;have bJ:=hK1 _ _ _ dV st_ty aH;  have HS1:=hid bH;clear bH)))
 exact t135):P:=h
namespace step
open Go.RowKit pen
open field (newB bytesOf bytesOf_length)
open schema (PS below_out take_succ_at field_at)
theorem numsA_succ{L:List Int}{k:Nat}{x:Int}(h:L[k]?=some x):numsA (L.take (k+1))=numsA (L.take k)++vb x.toNat:=by
 rw[take_succ_at h];simp[numsA]
theorem fieldsA_succ{L:List field.Fd}{k:Nat}{x:field.Fd}(h:L[k]?=some x):fieldsA (L.take (k+1))=fieldsA (L.take k)++fieldA x:=by
 rw[take_succ_at h];simp[fieldsA]
theorem numsA_len{L:List Int}(h:∀n∈L,0<=n/\n<=1000):(numsA L).length<=10*L.length:=by
 induction L with
 | nil=>simp[numsA]
 | cons n L ih=>
  have h1:=h n si_;have h2:=vb_ten n.toNat om_;have h3:=ih (fun m hm=>h m (by simp[hm]));simp only[numsA,List.map_cons,List.flatten_cons,List.length_append,List.length_cons] at h3 ⊢;omega
theorem fieldA_len{f:field.Fd}(h:FieldOk f):(fieldA f).length<=50:=by
 obtain⟨⟨i0,i1⟩,⟨k0,k1⟩,⟨a0,a1⟩,⟨b0,b1⟩,m0,m1⟩:=h;have l1:=vb_ten f.id.toNat om_;have l2:=vb_ten f.kind.toNat om_;have l3:=vb_ten (zig f.lo) (zig_lt _ om_ om_);have l4:=vb_ten (zig f.hi) (zig_lt _ om_ om_);have l5:=vb_ten f.most.toNat om_;simp only[fieldA,List.length_append];omega
theorem fieldsA_len{L:List field.Fd}(h:∀f∈L,FieldOk f):(fieldsA L).length<=50*L.length:=by
 induction L with
 | nil=>simp[fieldsA]
 | cons f L ih=>
  have h1:=fieldA_len (h f si_);have h3:=ih (fun m hm=>h m (by simp[hm]));simp only[fieldsA,List.map_cons,List.flatten_cons,List.length_append,List.length_cons] at h3 ⊢;omega
set_option maxRecDepth 20000 in
set_option maxHeartbeats 1600000 in
theorem pm0{g:Nat}{w1:World}{xs:List Nat}{v:Value}{w:World}(h:PS g w1 xs v w)(hg:w1.heap.size=g)(s:Sp)(ta:Option Addr)(tc:Nat)(la:Option Addr)(lc:Nat)(HL:Hid (Lists w1 s ta la))(aG:s.Fine 0)(hn:xs.length<=800000):
  Calls prog 68 #[.pointer (some ⟨g,0,none⟩),zP s ta tc la lc,.int .i64 0] w (Pens g w1 xs (s.memB 0) w):=by
 have aW:=h.later (newB w (.cells (zP s ta tc la lc) 84));have dV:=Block.new w 84 (zP s ta tc la lc);have aH:w.heap.size≠g:=by have:=h.1.1.lt;omega
 have HK0:Hid (Stays g w (w.alloc (.cells (zP s ta tc la lc) 84))):=hid (Stays.later (newB _ _));have hok:=fine_ok (m:=0) om_ aG;clear h;have hq:0<=s.fm/\s.fm<=200:=hok 102 (by simp[lets]);clear hok aG;have hmb:s.memB 0=vb s.fm.toNat:=by simp[Sp.memB,lets,Sp.letB]
 rw[hmb];clear hmb;unfold Pens;have c1:=count_pen aW s.fm om_ om_ om_
 exact t8
set_option maxRecDepth 20000 in
set_option maxHeartbeats 1600000 in
theorem pm1{g:Nat}{w1:World}{xs:List Nat}{v:Value}{w:World}(h:PS g w1 xs v w)(hg:w1.heap.size=g)(s:Sp)(ta:Option Addr)(tc:Nat)(la:Option Addr)(lc:Nat)(HL:Hid (Lists w1 s ta la))(aG:s.Fine 1)(hn:xs.length<=800000):
  Calls prog 68 #[.pointer (some ⟨g,0,none⟩),zP s ta tc la lc,.int .i64 1] w (Pens g w1 xs (s.memB 1) w):=by
 have aW:=h.later (newB w (.cells (zP s ta tc la lc) 84));have dV:=Block.new w 84 (zP s ta tc la lc);have aH:w.heap.size≠g:=by have:=h.1.1.lt;omega
 have HK0:Hid (Stays g w (w.alloc (.cells (zP s ta tc la lc) 84))):=hid (Stays.later (newB _ _));have hok:=fine_ok (m:=1) om_ aG;clear h;have hq:0<=s.fd/\s.fd<=255:=hok 100 (by simp[lets]);clear hok aG;have hmb:s.memB 1=vb s.fd.toNat:=by simp[Sp.memB,lets,Sp.letB]
 rw[hmb];clear hmb;unfold Pens;have c1:=count_pen aW s.fd om_ om_ om_
 exact t8
set_option maxRecDepth 20000 in
set_option maxHeartbeats 1600000 in
theorem pm2{g:Nat}{w1:World}{xs:List Nat}{v:Value}{w:World}(h:PS g w1 xs v w)(hg:w1.heap.size=g)(s:Sp)(ta:Option Addr)(tc:Nat)(la:Option Addr)(lc:Nat)(HL:Hid (Lists w1 s ta la))(aG:s.Fine 2)(hn:xs.length<=800000):
  Calls prog 68 #[.pointer (some ⟨g,0,none⟩),zP s ta tc la lc,.int .i64 2] w (Pens g w1 xs (s.memB 2) w):=by
 have aW:=h.later (newB w (.cells (zP s ta tc la lc) 84));have dV:=Block.new w 84 (zP s ta tc la lc);have aH:w.heap.size≠g:=by have:=h.1.1.lt;omega
 have HK0:Hid (Stays g w (w.alloc (.cells (zP s ta tc la lc) 84))):=hid (Stays.later (newB _ _));have hok:=fine_ok (m:=2) om_ aG;clear h;have hq:0<=s.pl/\s.pl<=8:=hok 112 (by simp[lets]);clear hok aG;have hmb:s.memB 2=vb s.pl.toNat:=by simp[Sp.memB,lets,Sp.letB]
 rw[hmb];clear hmb;unfold Pens;have c1:=count_pen aW s.pl om_ om_ om_
 exact t8
set_option maxRecDepth 20000 in
set_option maxHeartbeats 1600000 in
theorem pm3{g:Nat}{w1:World}{xs:List Nat}{v:Value}{w:World}(h:PS g w1 xs v w)(hg:w1.heap.size=g)(s:Sp)(ta:Option Addr)(tc:Nat)(la:Option Addr)(lc:Nat)(HL:Hid (Lists w1 s ta la))(aG:s.Fine 3)(hn:xs.length<=800000):
  Calls prog 68 #[.pointer (some ⟨g,0,none⟩),zP s ta tc la lc,.int .i64 3] w (Pens g w1 xs (s.memB 3) w):=by
 have aW:=h.later (newB w (.cells (zP s ta tc la lc) 84));have dV:=Block.new w 84 (zP s ta tc la lc);have aH:w.heap.size≠g:=by have:=h.1.1.lt;omega
 have HK0:Hid (Stays g w (w.alloc (.cells (zP s ta tc la lc) 84))):=hid (Stays.later (newB _ _));have hok:=fine_ok (m:=3) om_ aG;clear h;have hq:0<=s.tt/\s.tt<=255:=hok 116 (by simp[lets]);clear hok aG;have hmb:s.memB 3=vb s.tt.toNat:=by simp[Sp.memB,lets,Sp.letB]
 rw[hmb];clear hmb;unfold Pens;have c1:=count_pen aW s.tt om_ om_ om_
 exact t8
set_option maxRecDepth 20000 in
set_option maxHeartbeats 1600000 in
theorem pm4{g:Nat}{w1:World}{xs:List Nat}{v:Value}{w:World}(h:PS g w1 xs v w)(hg:w1.heap.size=g)(s:Sp)(ta:Option Addr)(tc:Nat)(la:Option Addr)(lc:Nat)(HL:Hid (Lists w1 s ta la))(aG:s.Fine 4)(hn:xs.length<=800000):
  Calls prog 68 #[.pointer (some ⟨g,0,none⟩),zP s ta tc la lc,.int .i64 4] w (Pens g w1 xs (s.memB 4) w):=by
 have aW:=h.later (newB w (.cells (zP s ta tc la lc) 84));have dV:=Block.new w 84 (zP s ta tc la lc);have aH:w.heap.size≠g:=by have:=h.1.1.lt;omega
 have HK0:Hid (Stays g w (w.alloc (.cells (zP s ta tc la lc) 84))):=hid (Stays.later (newB _ _));have hok:=fine_ok (m:=4) om_ aG;clear h;have hq:0<=s.a/\s.a<=1048576:=hok 97 (by simp[lets]);clear hok aG;have hmb:s.memB 4=vb s.a.toNat:=by simp[Sp.memB,lets,Sp.letB]
 rw[hmb];clear hmb;unfold Pens;have c1:=count_pen aW s.a om_ om_ om_
 exact t8
set_option maxRecDepth 20000 in
set_option maxHeartbeats 1600000 in
theorem pm5{g:Nat}{w1:World}{xs:List Nat}{v:Value}{w:World}(h:PS g w1 xs v w)(hg:w1.heap.size=g)(s:Sp)(ta:Option Addr)(tc:Nat)(la:Option Addr)(lc:Nat)(HL:Hid (Lists w1 s ta la))(aG:s.Fine 5)(hn:xs.length<=800000):
  Calls prog 68 #[.pointer (some ⟨g,0,none⟩),zP s ta tc la lc,.int .i64 5] w (Pens g w1 xs (s.memB 5) w):=by
 have aW:=h.later (newB w (.cells (zP s ta tc la lc) 84));have dV:=Block.new w 84 (zP s ta tc la lc);have aH:w.heap.size≠g:=by have:=h.1.1.lt;omega
 have HK0:Hid (Stays g w (w.alloc (.cells (zP s ta tc la lc) 84))):=hid (Stays.later (newB _ _));have hok:=fine_ok (m:=5) om_ aG;clear h;have hq:InOk s.a/\InOk s.b:=hok 98 (by simp[lets]);have la1:=vb_ten (zig s.a) (zig_lt _ hq.1.1 hq.1.2);clear hok aG;have hmb:s.memB 5=vb (zig s.a)++vb (zig s.b):=by simp[Sp.memB,lets,Sp.letB]
 rw[hmb];clear hmb;unfold Pens;have c1:=num_pen aW s.a hq.1.1 hq.1.2 om_;have C2:=hid (fun v w' (h:PS g w1 (xs++vb (zig s.a)) v w')=>num_pen h s.b hq.2.1 hq.2.2 (by simp only[List.length_append];omega));clear aW;go_enter func68,ntmps68;go_wp2_with (first
  | (go_at_call 94;((with_reducible refine c1.mono ?_);clear c1;rintro e u1 ⟨rfl,v1,bH,hK1⟩;have bJ:=hK1 _ _ _ dV st_ty aH;have z6:=bJ.cell 6;have c2:=C2.o _ _ bH;have HS1:=hid bH;clear bH))
  | (go_at_call 94;((with_reducible refine c2.mono ?_);clear c2;rintro e u2 ⟨rfl,v2,aP,hK2⟩;have bZ:=hK2 _ _ _ bJ st_ty aH;  have HS2:=hid aP;clear aP)))
 exact ret0 rfl rfl ⟨rfl,v2,by simpa only[List.append_assoc] using HS2.o,HK0.o.trans (hK1.trans (hK2))⟩
set_option maxRecDepth 20000 in
set_option maxHeartbeats 1600000 in
theorem pm8{g:Nat}{w1:World}{xs:List Nat}{v:Value}{w:World}(h:PS g w1 xs v w)(hg:w1.heap.size=g)(s:Sp)(ta:Option Addr)(tc:Nat)(la:Option Addr)(lc:Nat)(HL:Hid (Lists w1 s ta la))(aG:s.Fine 8)(hn:xs.length<=800000):
  Calls prog 68 #[.pointer (some ⟨g,0,none⟩),zP s ta tc la lc,.int .i64 8] w (Pens g w1 xs (s.memB 8) w):=by
 have aW:=h.later (newB w (.cells (zP s ta tc la lc) 84));have dV:=Block.new w 84 (zP s ta tc la lc);have aH:w.heap.size≠g:=by have:=h.1.1.lt;omega
 have HK0:Hid (Stays g w (w.alloc (.cells (zP s ta tc la lc) 84))):=hid (Stays.later (newB _ _));have hok:=fine_ok (m:=8) om_ aG;clear h;have hq:FieldOk s.f:=hok 70 (by simp[lets]);clear hok aG;have hmb:s.memB 8=fieldA s.f:=by simp[Sp.memB,lets,Sp.letB]
 rw[hmb];clear hmb;unfold Pens;have c1:=printField_any aW s.f hq om_;clear aW;go_enter func68,ntmps68;go_wp2_with (first
  | (go_at_call 95;((with_reducible refine c1.mono ?_);clear c1;rintro e u1 ⟨rfl,v1,bH,hK1⟩;have bJ:=hK1 _ _ _ dV st_ty aH;  have HS1:=hid bH;clear bH)))
 exact t135
set_option maxRecDepth 20000 in
set_option maxHeartbeats 1600000 in
theorem pm9{g:Nat}{w1:World}{xs:List Nat}{v:Value}{w:World}(h:PS g w1 xs v w)(hg:w1.heap.size=g)(s:Sp)(ta:Option Addr)(tc:Nat)(la:Option Addr)(lc:Nat)(HL:Hid (Lists w1 s ta la))(aG:s.Fine 9)(hn:xs.length<=800000):
  Calls prog 68 #[.pointer (some ⟨g,0,none⟩),zP s ta tc la lc,.int .i64 9] w (Pens g w1 xs (s.memB 9) w):=by
 have aW:=h.later (newB w (.cells (zP s ta tc la lc) 84));have dV:=Block.new w 84 (zP s ta tc la lc);have aH:w.heap.size≠g:=by have:=h.1.1.lt;omega
 have HK0:Hid (Stays g w (w.alloc (.cells (zP s ta tc la lc) 84))):=hid (Stays.later (newB _ _));have hok:=fine_ok (m:=9) om_ aG;clear h;have hq:FieldOk s.f:=hok 70 (by simp[lets]);have hr:InOk s.v.n/\s.v.s.size<=32:=hok 86 (by simp[lets]);have la1:=fieldA_len hq;have la2:=vb_ten (zig s.v.n) (zig_lt _ hr.1.1 hr.1.2);clear hok aG;have hmb:s.memB 9=fieldA s.f++vb (zig s.v.n)++(vb s.v.s.size++bytesOf s.v.s):=by simp[Sp.memB,lets,Sp.letB]
 rw[hmb];clear hmb;unfold Pens;have c1:=printField_any aW s.f hq om_;have C2:=hid (fun v w' (h:PS g w1 (xs++fieldA s.f) v w')=>num_pen h s.v.n hr.1.1 hr.1.2 (by simp only[List.length_append];omega));have C3:=hid (fun v w' (h:PS g w1 (xs++fieldA s.f++vb (zig s.v.n)) v w')=>text_pen h s.v.s om_ (by simp only[List.length_append];omega));clear aW;go_enter func68,ntmps68;go_wp2_with (first
  | (go_at_call 95;((with_reducible refine c1.mono ?_);clear c1;rintro e u1 ⟨rfl,v1,bH,hK1⟩;have bJ:=hK1 _ _ _ dV st_ty aH;have z12:=bJ.cell 12;have c2:=C2.o _ _ bH;have HS1:=hid bH;clear bH))
  | (go_at_call 94;((with_reducible refine c2.mono ?_);clear c2;rintro e u2 ⟨rfl,v2,aP,hK2⟩;have bZ:=hK2 _ _ _ bJ st_ty aH;have z13:=bZ.cell 13;have c3:=C3.o _ _ aP;have HS2:=hid aP;clear aP))
  | (go_at_call 17;((with_reducible refine c3.mono ?_);clear c3;rintro e u3 ⟨rfl,v3,cu,hK3⟩;have dF:=hK3 _ _ _ bZ st_ty aH;  have HS3:=hid cu;clear cu)))
 exact ret0 rfl rfl ⟨rfl,v3,by simpa only[List.append_assoc] using HS3.o,HK0.o.trans (hK1.trans (hK2.trans (hK3)))⟩
set_option maxRecDepth 20000 in
set_option maxHeartbeats 1600000 in
theorem pm10{g:Nat}{w1:World}{xs:List Nat}{v:Value}{w:World}(h:PS g w1 xs v w)(hg:w1.heap.size=g)(s:Sp)(ta:Option Addr)(tc:Nat)(la:Option Addr)(lc:Nat)(HL:Hid (Lists w1 s ta la))(aG:s.Fine 10)(hn:xs.length<=800000):
  Calls prog 68 #[.pointer (some ⟨g,0,none⟩),zP s ta tc la lc,.int .i64 10] w (Pens g w1 xs (s.memB 10) w):=by
 have aW:=h.later (newB w (.cells (zP s ta tc la lc) 84));have dV:=Block.new w 84 (zP s ta tc la lc);have aH:w.heap.size≠g:=by have:=h.1.1.lt;omega
 have HK0:Hid (Stays g w (w.alloc (.cells (zP s ta tc la lc) 84))):=hid (Stays.later (newB _ _));have hok:=fine_ok (m:=10) om_ aG;clear h;have hr:InOk s.v.n/\s.v.s.size<=32:=hok 86 (by simp[lets]);have la2:=vb_ten (zig s.v.n) (zig_lt _ hr.1.1 hr.1.2);clear hok aG;have hmb:s.memB 10=vb (zig s.v.n)++(vb s.v.s.size++bytesOf s.v.s):=by simp[Sp.memB,lets,Sp.letB]
 rw[hmb];clear hmb;unfold Pens;have c1:=num_pen aW s.v.n hr.1.1 hr.1.2 om_;have C2:=hid (fun v w' (h:PS g w1 (xs++vb (zig s.v.n)) v w')=>text_pen h s.v.s om_ (by simp only[List.length_append];omega));clear aW;go_enter func68,ntmps68;go_wp2_with (first
  | (go_at_call 94;((with_reducible refine c1.mono ?_);clear c1;rintro e u1 ⟨rfl,v1,bH,hK1⟩;have bJ:=hK1 _ _ _ dV st_ty aH;have z13:=bJ.cell 13;have c2:=C2.o _ _ bH;have HS1:=hid bH;clear bH))
  | (go_at_call 17;((with_reducible refine c2.mono ?_);clear c2;rintro e u2 ⟨rfl,v2,aP,hK2⟩;have bZ:=hK2 _ _ _ bJ st_ty aH;  have HS2:=hid aP;clear aP)))
 exact ret0 rfl rfl ⟨rfl,v2,by simpa only[List.append_assoc] using HS2.o,HK0.o.trans (hK1.trans (hK2))⟩
set_option maxRecDepth 20000 in
set_option maxHeartbeats 1600000 in
theorem pm7{g:Nat}{w1:World}{xs:List Nat}{v:Value}{w:World}(h:PS g w1 xs v w)(hg:w1.heap.size=g)(s:Sp)(ta:Option Addr)(tc:Nat)(la:Option Addr)(lc:Nat)(HL:Hid (Lists w1 s ta la))(aG:s.Fine 7)(hn:xs.length<=800000):
  Calls prog 68 #[.pointer (some ⟨g,0,none⟩),zP s ta tc la lc,.int .i64 7] w (Pens g w1 xs (s.memB 7) w):=by
 have aW:=h.later (newB w (.cells (zP s ta tc la lc) 84));have dV:=Block.new w 84 (zP s ta tc la lc);have aH:w.heap.size≠g:=by have:=h.1.1.lt;omega
 have HK0:Hid (Stays g w (w.alloc (.cells (zP s ta tc la lc) 84))):=hid (Stays.later (newB _ _));have hok:=fine_ok (m:=7) om_ aG;clear h;have hq2:s.t.length<=64/\∀n∈s.t,0<=n/\n<=1000:=hok 84 (by simp[lets])
 have lt1:=vb_ten (s.t.length:Int).toNat om_;clear hok aG;have hmb:s.memB 7=vb (s.t.length:Int).toNat++numsA s.t:=by simp[Sp.memB,lets,Sp.letB]
 rw[hmb];clear hmb;unfold Pens;have c1:=count_pen aW (s.t.length:Int) om_ om_ om_;clear aW;go_enter func68,ntmps68;go_wp2_with (first
  | (go_at_call 15;((with_reducible refine c1.mono ?_);clear c1;rintro e u1 ⟨rfl,v1,bH,hK1⟩;have bJ:=hK1 _ _ _ dV st_ty aH;have z14:=bJ.cell 14;have HS1:=hid bH;clear bH)))
 have HKn:Hid (Stays g w u1):=hid (HK0.o.trans (hK1));have HBW:=hid (show Below w1.heap.size w1 u1 by rw[hg];exact HS1.o.2.1);obtain⟨Y,hY⟩:∃Y:List Nat,Hid (xs++vb (s.t.length:Int).toNat=Y):=⟨_,hid rfl⟩;have HYL:Hid (Y.length<=800020):=hid (by rw[<-hY.o];simp only[List.length_append];omega);rw[hY.o] at HS1;go_loopw [75] (fun m wr=>∃k:Nat,k<=s.t.length/\m=.int .i64 (k:Int)/\Hid (∃vP,PS g w1 (Y++numsA (s.t.take k)) vP wr/\Stays g w wr)) (fun m _=>s.t.length - (intOf m).toNat);case atStart=>exact⟨0,Nat.zero_le _,rfl,hid ⟨v1,by simpa[numsA] using HS1.o,HKn.o⟩⟩
 case round=>
  obtain⟨k,hk,rfl,HS⟩:=hrel;obtain⟨vP,hS,hKr⟩:=HS.o;by_cases au:k<s.t.length
  ·obtain⟨b,off,p,rfl,bQ,hp,c0⟩:=int_at HL.o.t (show Below w1.heap.size w1 _ by rw[hg];exact hS.2.1) au;have i1:(k:Int)<s.t.length:=by omega
   have HTK:=hid (numsA_succ hp);have fM:=hq2.2 p (List.mem_of_getElem? hp);have l1:=numsA_len (L:=s.t.take k) (fun n hn=>hq2.2 n (List.mem_of_mem_take hn));have l2:(s.t.take k).length<=s.t.length:=by simp;omega
   have l3:=HYL.o;have cP:=count_pen hS p fM.1 om_ (by simp only[List.length_append];omega);have HKR:=hid hKr;clear hp hKr hS HS;go_wp2_with (go_at_call 15;((with_reducible refine cP.mono ?_);rintro e wq ⟨rfl,vq,kL,hKq⟩;have HSQ:=hid kL;clear kL))
   exact t128
  ·obtain rfl:k=s.t.length:=by omega
   exact t123
set_option maxRecDepth 20000 in
set_option maxHeartbeats 1600000 in
theorem pm6{g:Nat}{w1:World}{xs:List Nat}{v:Value}{w:World}(h:PS g w1 xs v w)(hg:w1.heap.size=g)(s:Sp)(ta:Option Addr)(tc:Nat)(la:Option Addr)(lc:Nat)(HL:Hid (Lists w1 s ta la))(aG:s.Fine 6)(hn:xs.length<=800000):
  Calls prog 68 #[.pointer (some ⟨g,0,none⟩),zP s ta tc la lc,.int .i64 6] w (Pens g w1 xs (s.memB 6) w):=by
 have aW:=h.later (newB w (.cells (zP s ta tc la lc) 84));have dV:=Block.new w 84 (zP s ta tc la lc);have aH:w.heap.size≠g:=by have:=h.1.1.lt;omega
 have HK0:Hid (Stays g w (w.alloc (.cells (zP s ta tc la lc) 84))):=hid (Stays.later (newB _ _));have hok:=fine_ok (m:=6) om_ aG;clear h;have hq:0<=s.a/\s.a<=1048576:=hok 97 (by simp[lets]);have la1:=vb_ten s.a.toNat om_;have hq2:s.t.length<=64/\∀n∈s.t,0<=n/\n<=1000:=hok 84 (by simp[lets])
 have lt1:=vb_ten (s.t.length:Int).toNat om_;clear hok aG;have hmb:s.memB 6=vb s.a.toNat++vb (s.t.length:Int).toNat++numsA s.t:=by simp[Sp.memB,lets,Sp.letB]
 rw[hmb];clear hmb;unfold Pens;have c1:=count_pen aW s.a om_ om_ om_;have C2:=hid (fun v w' (h:PS g w1 (xs++vb s.a.toNat) v w')=>count_pen h (s.t.length:Int) om_ om_ (by simp only[List.length_append];omega));clear aW;go_enter func68,ntmps68;go_wp2_with (first
  | (go_at_call 15;((with_reducible refine c1.mono ?_);clear c1;rintro e u1 ⟨rfl,v1,bH,hK1⟩;have bJ:=hK1 _ _ _ dV st_ty aH;have z14:=bJ.cell 14;have c2:=C2.o _ _ bH;have HS1:=hid bH;clear bH))
  | (go_at_call 15;((with_reducible refine c2.mono ?_);clear c2;rintro e u2 ⟨rfl,v2,aP,hK2⟩;have bZ:=hK2 _ _ _ bJ st_ty aH;have z14:=bZ.cell 14;have HS2:=hid aP;clear aP)))
 have HKn:Hid (Stays g w u2):=hid (HK0.o.trans (hK1.trans (hK2)));have HBW:=hid (show Below w1.heap.size w1 u2 by rw[hg];exact HS2.o.2.1);obtain⟨Y,hY⟩:∃Y:List Nat,Hid (xs++vb s.a.toNat++vb (s.t.length:Int).toNat=Y):=⟨_,hid rfl⟩;have HYL:Hid (Y.length<=800020):=hid (by rw[<-hY.o];simp only[List.length_append];omega);rw[hY.o] at HS2;go_loopw [75] (fun m wr=>∃k:Nat,k<=s.t.length/\m=.int .i64 (k:Int)/\Hid (∃vP,PS g w1 (Y++numsA (s.t.take k)) vP wr/\Stays g w wr)) (fun m _=>s.t.length - (intOf m).toNat);case atStart=>exact⟨0,Nat.zero_le _,rfl,hid ⟨v2,by simpa[numsA] using HS2.o,HKn.o⟩⟩
 case round=>
  obtain⟨k,hk,rfl,HS⟩:=hrel;obtain⟨vP,hS,hKr⟩:=HS.o;by_cases au:k<s.t.length
  ·obtain⟨b,off,p,rfl,bQ,hp,c0⟩:=int_at HL.o.t (show Below w1.heap.size w1 _ by rw[hg];exact hS.2.1) au;have i1:(k:Int)<s.t.length:=by omega
   have HTK:=hid (numsA_succ hp);have fM:=hq2.2 p (List.mem_of_getElem? hp);have l1:=numsA_len (L:=s.t.take k) (fun n hn=>hq2.2 n (List.mem_of_mem_take hn));have l2:(s.t.take k).length<=s.t.length:=by simp;omega
   have l3:=HYL.o;have cP:=count_pen hS p fM.1 om_ (by simp only[List.length_append];omega);have HKR:=hid hKr;clear hp hKr hS HS;go_wp2_with (go_at_call 15;((with_reducible refine cP.mono ?_);rintro e wq ⟨rfl,vq,kL,hKq⟩;have HSQ:=hid kL;clear kL))
   exact t128
  ·obtain rfl:k=s.t.length:=by omega
   exact t123
set_option maxRecDepth 20000 in
set_option maxHeartbeats 1600000 in
theorem pm11{g:Nat}{w1:World}{xs:List Nat}{v:Value}{w:World}(h:PS g w1 xs v w)(hg:w1.heap.size=g)(s:Sp)(ta:Option Addr)(tc:Nat)(la:Option Addr)(lc:Nat)(HL:Hid (Lists w1 s ta la))(aG:s.Fine 11)(hn:xs.length<=800000):
  Calls prog 68 #[.pointer (some ⟨g,0,none⟩),zP s ta tc la lc,.int .i64 11] w (Pens g w1 xs (s.memB 11) w):=by
 have aW:=h.later (newB w (.cells (zP s ta tc la lc) 84));have dV:=Block.new w 84 (zP s ta tc la lc);have aH:w.heap.size≠g:=by have:=h.1.1.lt;omega
 have HK0:Hid (Stays g w (w.alloc (.cells (zP s ta tc la lc) 84))):=hid (Stays.later (newB _ _));have hok:=fine_ok (m:=11) om_ aG;clear h;have hq2:s.l.length<=8/\∀f∈s.l,FieldOk f:=hok 76 (by simp[lets])
 have lt1:=vb_ten (s.l.length:Int).toNat om_;clear hok aG;have hmb:s.memB 11=vb (s.l.length:Int).toNat++fieldsA s.l:=by simp[Sp.memB,lets,Sp.letB]
 rw[hmb];clear hmb;unfold Pens;have c1:=count_pen aW (s.l.length:Int) om_ om_ om_;clear aW;go_enter func68,ntmps68;go_wp2_with (first
  | (go_at_call 15;((with_reducible refine c1.mono ?_);clear c1;rintro e u1 ⟨rfl,v1,bH,hK1⟩;have bJ:=hK1 _ _ _ dV st_ty aH;have z15:=bJ.cell 15;have HS1:=hid bH;clear bH)))
 have HKn:Hid (Stays g w u1):=hid (HK0.o.trans (hK1));obtain⟨Y,hY⟩:∃Y:List Nat,Hid (xs++vb (s.l.length:Int).toNat=Y):=⟨_,hid rfl⟩;have HYL:Hid (Y.length<=800020):=hid (by rw[<-hY.o];simp only[List.length_append];omega);rw[hY.o] at HS1;go_loopw [109] (fun m wr=>∃k:Nat,k<=s.l.length/\m=.int .i64 (k:Int)/\Hid (∃vP,PS g w1 (Y++fieldsA (s.l.take k)) vP wr/\Stays g w wr)) (fun m _=>s.l.length - (intOf m).toNat);case atStart=>exact⟨0,Nat.zero_le _,rfl,hid ⟨v1,by simpa[fieldsA] using HS1.o,HKn.o⟩⟩
 case round=>
  obtain⟨k,hk,rfl,HS⟩:=hrel;obtain⟨vP,hS,hKr⟩:=HS.o;by_cases au:k<s.l.length
  ·obtain⟨b,off,p,rfl,bQ,hp,c0,c1,c2,c3,c4⟩:=field_at HL.o.l (show Below w1.heap.size w1 _ by rw[hg];exact hS.2.1) au;have i1:(k:Int)<s.l.length:=by omega
   have HTK:=hid (fieldsA_succ hp);have fM:=hq2.2 p (List.mem_of_getElem? hp);have l1:=fieldsA_len (L:=s.l.take k) (fun n hn=>hq2.2 n (List.mem_of_mem_take hn));have l2:(s.l.take k).length<=s.l.length:=by simp;omega
   have l3:=HYL.o;have cP:=printField_any (hS.later (newB wr (.cells (zF p) 79))) p fM (by simp only[List.length_append];omega);have HKR:=hid (hKr.trans (Stays.later (newB wr (.cells (zF p) 79))));clear hp hKr hS HS;go_wp2_with (go_at_call 95;((with_reducible refine cP.mono ?_);rintro e wq ⟨rfl,vq,kL,hKq⟩;have HSQ:=hid kL;clear kL))
   exact t128
  ·obtain rfl:k=s.l.length:=by omega
   exact t123
theorem printMember_any{g:Nat}{w1:World}{xs:List Nat}{v:Value}{w:World}(h:PS g w1 xs v w)(hg:w1.heap.size=g)(s:Sp)(ta:Option Addr)(tc:Nat)(la:Option Addr)(lc:Nat)(HL:Hid (Lists w1 s ta la))(m:Nat)(hm:m<12)(aG:s.Fine m)(hn:xs.length<=800000):
  Calls prog 68 #[.pointer (some ⟨g,0,none⟩),zP s ta tc la lc,.int .i64 (m:Int)] w (Pens g w1 xs (s.memB m) w):=by
 match m,hm with
 | 0,_=>exact pm0 h hg s ta tc la lc HL aG hn
 | 1,_=>exact pm1 h hg s ta tc la lc HL aG hn
 | 2,_=>exact pm2 h hg s ta tc la lc HL aG hn
 | 3,_=>exact pm3 h hg s ta tc la lc HL aG hn
 | 4,_=>exact pm4 h hg s ta tc la lc HL aG hn
 | 5,_=>exact pm5 h hg s ta tc la lc HL aG hn
 | 6,_=>exact pm6 h hg s ta tc la lc HL aG hn
 | 7,_=>exact pm7 h hg s ta tc la lc HL aG hn
 | 8,_=>exact pm8 h hg s ta tc la lc HL aG hn
 | 9,_=>exact pm9 h hg s ta tc la lc HL aG hn
 | 10,_=>exact pm10 h hg s ta tc la lc HL aG hn
 | 11,_=>exact pm11 h hg s ta tc la lc HL aG hn
end step
namespace step
open Go.RowKit pen
open field (newB bytesOf bytesOf_length)
open schema (PS below_out take_succ_at own_low)
theorem letB_less{s:Sp}{c:UInt8}(hc:Letter c)(h:s.Ok c):(s.letB c).length<=650:=by
 rcases hc with rfl | rfl | rfl | rfl | rfl | rfl | rfl | rfl | rfl | rfl
 ·have hq:0<=s.fm/\s.fm<=200:=h;have:=vb_ten s.fm.toNat om_;show(vb s.fm.toNat).length<=650
  omega
 ·have hq:0<=s.fd/\s.fd<=255:=h;have:=vb_ten s.fd.toNat om_;show(vb s.fd.toNat).length<=650
  omega
 ·have hq:0<=s.pl/\s.pl<=8:=h;have:=vb_ten s.pl.toNat om_;show(vb s.pl.toNat).length<=650
  omega
 ·have hq:0<=s.tt/\s.tt<=255:=h;have:=vb_ten s.tt.toNat om_;show(vb s.tt.toNat).length<=650
  omega
 ·have hq:0<=s.a/\s.a<=1048576:=h;have:=vb_ten s.a.toNat om_;show(vb s.a.toNat).length<=650
  omega
 ·have hq:InOk s.a/\InOk s.b:=h;have h1:=vb_ten (zig s.a) (zig_lt _ hq.1.1 hq.1.2);have h2:=vb_ten (zig s.b) (zig_lt _ hq.2.1 hq.2.2);show(vb (zig s.a)++vb (zig s.b)).length<=650
  rw[List.length_append];omega
 ·have hq:FieldOk s.f:=h;have:=fieldA_len hq;show(fieldA s.f).length<=650
  omega
 ·have hq:InOk s.v.n/\s.v.s.size<=32:=h;have h1:=vb_ten (zig s.v.n) (zig_lt _ hq.1.1 hq.1.2);have h2:=vb_ten s.v.s.size om_;show(vb (zig s.v.n)++(vb s.v.s.size++bytesOf s.v.s)).length<=650
  rw[List.length_append,List.length_append,bytesOf_length];omega
 ·have hq:s.t.length<=64/\∀n∈s.t,0<=n/\n<=1000:=h
  have h1:=vb_ten s.t.length om_;have h2:=numsA_len hq.2;show(vb s.t.length++numsA s.t).length<=650
  rw[List.length_append];omega
 ·have hq:s.l.length<=8/\∀f∈s.l,FieldOk f:=h
  have h1:=vb_ten s.l.length om_;have h2:=fieldsA_len hq.2;show(vb s.l.length++fieldsA s.l).length<=650
  rw[List.length_append];omega
theorem letB_len{s:Sp}{c:UInt8}(hc:Letter c)(h:s.Ok c):(s.letB c).length<=660:=Nat.le_trans (letB_less hc h) om_
theorem flat_len{α:Type}(f:α->List Nat)(B:Nat):∀(L:List α),(∀x∈L,(f x).length<=B)->((L.map f).flatten).length<=B*L.length
 | [],_=>by simp
 | x :: L,h=>by
  have h1:=h x si_;have h2:=flat_len f B L (fun y hy=>h y (by simp[hy]));simp only[List.map_cons,List.flatten_cons,List.length_append,List.length_cons];have:B*(L.length+1)=B*L.length+B:=Nat.mul_succ _ _;omega
theorem memB_len{s:Sp}{m:Nat}(hm:m<12)(h:s.Fine m):(s.memB m).length<=1320:=by
 have h1:=flat_len s.letB 660 (lets m) (fun c hc=>letB_len (by
  have:∀m,m<12->∀c∈lets m,Letter c:=by decide
  exact this m hm c hc) (fine_ok hm h c hc))
 have h2:∀m,m<12->(lets m).length<=2:=by decide
 have h3:=h2 m hm;unfold Sp.memB;omega
theorem memsB_len{s:Sp}(h:∀m∈mem s.op,s.Fine m)(j:Nat):((((mem s.op).take j).map s.memB).flatten).length<=6600:=by
 have h1:=flat_len s.memB 1320 ((mem s.op).take j) (fun m hm=>memB_len (mem_lt _ m (List.mem_of_mem_take hm)) (h m (List.mem_of_mem_take hm)));have h2:=mem_len s.op;have h3:((mem s.op).take j).length<=(mem s.op).length:=by simp;omega
 omega
theorem stepB_len{s:Sp}(h:s.Right):s.stepB.length<=6610:=by
 have h1:=memsB_len h.1 (mem s.op).length;rw[List.take_of_length_le (Nat.le_refl _)] at h1;have h2:=mem_span h.2.1;have h3:=vb_ten s.op.toNat om_;rw[stepB_mem,List.length_append];omega
def stepsB(L:List Sp):List Nat:=(L.map Sp.stepB).flatten
theorem stepsB_succ{L:List Sp}{k:Nat}{x:Sp}(h:L[k]?=some x):stepsB (L.take (k+1))=stepsB (L.take k)++x.stepB:=by
 rw[take_succ_at h];simp[stepsB]
theorem memsB_succ{s:Sp}{k m:Nat}(h:(mem s.op)[k]?=some m):(((mem s.op).take (k+1)).map s.memB).flatten=(((mem s.op).take k).map s.memB).flatten++s.memB m:=by
 rw[take_succ_at h];simp
theorem stepsB_len{L:List Sp}(h:Rights L)(hl:L.length<=40)(k:Nat):(stepsB (L.take k)).length<=264400:=by
 have h1:=flat_len Sp.stepB 6610 (L.take k) (fun s hs=>stepB_len (h s (List.mem_of_mem_take hs)));have h3:(L.take k).length<=L.length:=by simp;omega
 unfold stepsB;omega
theorem MRow.stays{w w':World}{a:Option Addr}{op:Int}{g:Nat}(h:MRow w a op)(hs:Stays g w w')(hg:∀x,a=some x->x.block≠g):MRow w' a op:=by
 rcases h with h | ⟨q,rfl,hB⟩
 ·exact .inl h
 ·exact .inr ⟨q,rfl,hs _ _ _ hB mem_ty (hg _ rfl)⟩
theorem print_no(a:Option Addr)(c:Nat)(L:List St)(w:World)(h:StL w a L)(jb:L.length<=40)(hr:¬Rights (sps L)):
  Calls prog 40 #[.slice a L.length c] w fun e w'=>e=.returned (.tuple #[.slice none 0 0,.int .i64 2])/\Below w.heap.size w w':=by
 have hd:decide ((L.length:Int)>40)=false:=decide_eq_false om_;have j1:¬(40:Int)<L.length:=by omega
 have cR:=allRight_any a c L w h (by unfold maxLen;omega);rw[decide_eq_false hr] at cR;unfold field.Gives at cR;clear hr h;go_enter func40,ntmps40;go_wp2_with (go_at_call 54;((with_reducible refine cR.mono ?_);rintro e w1 ⟨rfl,ak⟩));go_ret2;exact⟨rfl,ak⟩
set_option maxRecDepth 20000 in
set_option maxHeartbeats 3200000 in
theorem print_yes(a:Option Addr)(c:Nat)(L:List St)(w:World)(h:StL w a L)(jb:L.length<=40)(hr:Rights (sps L)):
  Calls prog 40 #[.slice a L.length c] w (pen.Gives (listB (sps L)) 0 w):=by
 have hd:decide ((L.length:Int)>40)=false:=decide_eq_false om_;have j1:¬(40:Int)<L.length:=by omega
 have cR:=allRight_any a c L w h (by unfold maxLen;omega);rw[decide_eq_true hr] at cR;unfold field.Gives at cR;have HF:=hid h;have HR:=hid hr;have HLN:=hid (sps_length L);have HSB:Hid (listB (sps L)=[]++vb (L.length:Int).toNat++stepsB (sps L)):=hid (by unfold listB stepsB;rw[sps_length];simp);have ln:=vb_ten (L.length:Int).toNat om_;obtain⟨X,hX⟩:∃X:List Nat,Hid ([]++vb (L.length:Int).toNat=X):=⟨_,hid rfl⟩;have HXL:Hid (X.length<=10):=hid (by rw[<-hX.o];simp only[List.length_append,List.length_nil];omega);rw[hX.o] at HSB;rw[HSB.o];clear h hr;go_enter func40,ntmps40;go_wp2_with (first
  | (go_at_call 54;((with_reducible refine cR.mono ?_);rintro e w1 ⟨rfl,ak⟩;have hF1:=hid (HF.o.below ak)))
  | (go_at_call 14;((with_reducible refine(new_any w1).mono ?_);rintro e w2 ⟨rfl,dD,aj⟩;have aP:PS w1.heap.size w1 [] (.slice none 0 0) w2:=⟨dD,aj,aj.size⟩))
  | (go_at_call 15;((with_reducible refine(count_pen aP (L.length:Int) om_ om_ si_).mono ?_);rintro e w3 ⟨rfl,v3,cu,_⟩)))
 have HB1:=hid ak;have HSZ:=hid ak.size;clear cR ak aP dD aj;obtain⟨g,hg⟩:∃g,Hid (w1.heap.size=g):=⟨_,hid rfl⟩;rw[hg.o] at cu HSZ ⊢;rw[hX.o] at cu;have HS3:=hid cu;clear cu;go_loopw [24] (fun n wr=>∃k:Nat,k<=L.length/\n=.int .i64 (k:Int)/\Hid (∃vP,PS g w1 (X++stepsB ((sps L).take k)) vP wr)) (fun n _=>L.length - (intOf n).toNat);case atStart=>exact⟨0,Nat.zero_le _,rfl,hid ⟨v3,by simpa[stepsB] using HS3.o⟩⟩
 case round=>
  obtain⟨k,hk,rfl,HS⟩:=hrel;obtain⟨vP,hS⟩:=HS.o;by_cases au:k<L.length
  ·obtain⟨b,off,p,rfl,bQ,hp,eU,z0,z1,z2,z3,z4,z5,z6,z7,z8,z9,z10,z11,z12,z13,z14,z15⟩:=step_at hF1.o (show Below w1.heap.size w1 _ by rw[hg.o];exact hS.2.1) au;have i1:(k:Int)<L.length:=by omega
   have HTK:=hid (stepsB_succ (sps_at hp));have fM:p.s.Right:=HR.o _ (List.mem_of_getElem? (sps_at hp));have hgd:=hF1.o.each p (List.mem_of_getElem? hp);obtain⟨s,ta,tc,la,lc⟩:=p;simp only at z0 z1 z2 z3 z4 z5 z6 z7 z8 z9 z10 z11 z12 z13 z14 z15 eU HTK fM hgd;have HGD:=hid hgd;have HPR:=hid fM;have hop:=mem_span fM.2.1;have lo:=vb_ten s.op.toNat om_;have lX:=HXL.o;have lS:=stepsB_len HR.o (by rw[HLN.o];exact jb) k;have fZ:(X++stepsB ((sps L).take k)).length<=264410:=by simp only[List.length_append];omega
   have aW:=hS.later (newB wr (.cells (zP s ta tc la lc) 84));have HBK:=hid (Block.new wr 84 (zP s ta tc la lc));have aH:wr.heap.size≠g:=by have:=hS.1.1.lt;omega
   obtain⟨Y,hY⟩:∃Y:List Nat,Hid (X++stepsB ((sps L).take k)=Y):=⟨_,hid rfl⟩;rw[hY.o] at aW fZ;have c5:=count_pen aW s.op om_ om_ om_;have HYL:=hid fZ;have HOP:=hid hop;clear hp eU fM hgd hS HS lo lX lS fZ hop;have cM:=fun w'=>members_any s.op w'
   unfold Members at cM;unfold Pens at c5;go_wp2_with (first
    | (go_at_call 15;((with_reducible refine c5.mono ?_);clear c5;rintro e w5 ⟨rfl,v5,bP,hK5⟩;have jQ:=hK5 _ _ _ HBK.o st_ty aH;have y0:=jQ.cell 0;have HS5:=hid bP;have HB5:=hid jQ;clear bP jQ))
    | (go_at_call 67;((with_reducible refine(cM _).mono ?_);rintro e w6 ⟨aM,cMx,rfl,hM,aZ⟩;have HM:=hid hM;have HS6:=hid (HS5.o.later aZ);have HB6:=hid (HB5.o.later aZ);clear aZ hM)))
   clear z0 z1 z2 z3 z4 z5 z6 z7 z8 z9 z10 z11 z12 z13 z14 z15 y0 hK5;obtain⟨T,hT⟩:∃T,Hid (wr.heap.size=T):=⟨_,hid rfl⟩;rw[hT.o] at HB6 aH ⊢;obtain⟨N,hN⟩:∃N:Nat,Hid ((mem s.op).length=N):=⟨_,rfl⟩;have hN5:N<=5:=by rw[<-hN.o];exact mem_len _
   rw[hN.o];have HMG:Hid (∀x,aM=some x->mem s.op≠[]->x.block≠g):=hid (by
    rintro x rfl dH;rcases HM.o with h | ⟨q,he,hB⟩
    ·exact absurd h dH
    ·injection he with he
     subst he;intro e;have h1:=HS6.o.1.1;have e':q=g:=e;subst e';unfold Block at h1 hB;rw[h1] at hB;exact absurd (Obj.cells.inj (Option.some.inj hB)).2.1 de_)
   go_loopw [36] (fun m wq=>∃j:Nat,j<=N/\m=.int .i64 (j:Int)/\Hid (∃vP,PS g w1 (Y++vb s.op.toNat++(((mem s.op).take j).map s.memB).flatten) vP wq)/\Hid (Block wq T 84 (zP s ta tc la lc))/\Hid (MRow wq aM s.op)) (fun m _=>N - (intOf m).toNat);case atStart=>exact⟨0,Nat.zero_le _,rfl,hid ⟨v5,by simpa using HS6.o⟩,HB6,HM⟩
   case round=>
    obtain⟨j,hj,rfl,HQ,HBQ,HMQ⟩:=hrel;obtain⟨vQ,hQ⟩:=HQ.o;by_cases hjt:j<N
    ·obtain⟨b2,off2,m,rfl,jq,hm,hm12,e0⟩:=memI_cell HMQ.o.ins (Below.refl _ _) (k:=j) (by rw[hN.o];exact hjt);have i2:(j:Int)<N:=by omega
     have HXX:=hid (memsB_succ hm);have hmm:=List.mem_of_getElem? hm;have lg:=memsB_len HPR.o.1 j;have lo:=vb_ten s.op.toNat (by have:=HOP.o;omega);have lY:=HYL.o;have cP:=printMember_any hQ hg.o s ta tc la lc HGD m hm12 (HPR.o.1 m hmm) (by simp only[List.length_append];omega);have x0:=HBQ.o.cell 0;have x1:=HBQ.o.cell 1;have x2:=HBQ.o.cell 2;have x3:=HBQ.o.cell 3;have x4:=HBQ.o.cell 4;have x5:=HBQ.o.cell 5;have x6:=HBQ.o.cell 6;have x7:=HBQ.o.cell 7;have x8:=HBQ.o.cell 8;have x9:=HBQ.o.cell 9;have x10:=HBQ.o.cell 10;have x11:=HBQ.o.cell 11;have x12:=HBQ.o.cell 12;have x13:=HBQ.o.cell 13;have x14:=HBQ.o.cell 14;have x15:=HBQ.o.cell 15;have HMN:=hid (show mem s.op≠[] from fun e=>by rw[e] at hmm;simp at hmm);unfold Pens at cP;clear hm hmm lg lo lY hQ HQ;go_wp2_with (go_at_call 68;((with_reducible refine cP.mono ?_);clear cP;rintro e w7 ⟨rfl,v7,iQ,hK7⟩;have HS7:=hid iQ;clear iQ));exact⟨⟨j+1,by omega,by go_num,hid ⟨v7,by rw[HXX.o];simpa only[List.append_assoc] using HS7.o⟩,hid (hK7 _ _ _ HBQ.o st_ty aH),hid (HMQ.o.stays hK7 (fun x hx=>HMG.o x hx HMN.o))⟩,by simp[intOf];omega⟩
    ·obtain rfl:j=N:=by omega
     rw[<-hN.o,List.take_of_length_le (Nat.le_refl _)] at hQ;have HEND:Hid (∃vP,PS g w1 (X++stepsB ((sps L).take (k+1))) vP wr):=hid (by
      rw[HTK.o,stepB_mem];have h1:=hQ;rw[<-hY.o] at h1;exact⟨_,by simpa only[List.append_assoc] using h1⟩)
     clear hQ HQ;go_wp2;exact⟨⟨k+1,by omega,by go_num,HEND⟩,by simp[intOf];omega⟩
  ·obtain rfl:k=L.length:=by omega
   rw[List.take_of_length_le (by rw[HLN.o];exact Nat.le_refl _)] at hS;have cD:=done_any g g vP (X++stepsB (sps L)) wr hS.1 (by have h1:=stepsB_len HR.o (by rw[HLN.o];exact jb) L.length;rw[List.take_of_length_le (by rw[HLN.o];exact Nat.le_refl _)] at h1;have:=HXL.o;simp only[List.length_append];omega);unfold pen.Gives at cD;have HSE:=hid hS;clear hS HS;go_wp2_with (go_at_call 18;((with_reducible refine cD.mono ?_);rintro e w5 ⟨u,rfl,ho,aI⟩;have HO5:=hid ho;have HB5:=hid aI;clear ho aI));go_ret2;have hS:=HSE.o;have dW:Below g w1 w5:=hS.2.1.trans (HB5.o.mono hS.2.2);have gu:w.heap.size<=wr.heap.size:=Nat.le_trans HSZ.o hS.2.2;exact⟨u,rfl,own_low HO5.o gu,HB1.o.trans ((show Below w1.heap.size w1 w5 by rw[hg.o];exact dW).mono HB1.o.size)⟩
end step
namespace plan
open Go Go.RowKit
theorem line_any{P:Program}{l:List Oper}{Q:Exit->Act->World->Prop}{a:Act}{w:World}(i:Nat)(o:Oper)(Pr:Value->World->Prop)(hi:l[i]?=some o)
  (hv:∃q w',(execOp a.eval o).run P w=.ok (.value q) w'/\Pr q w') (h:∀q w',Pr q w'->Line P l Q (i+1) (a.put o.dst q) w') (hw:Region.wanted o (yielded l.toArray a.tmps)=true:=by kernel_rfl):Line P l Q i a w:=by
 obtain⟨q,w',h1,h2⟩:=hv;exact line_value i o q hi hw h1 (h q w' h2)
end plan
namespace step
open Go.RowKit pen
open field (newB)
open schema (eCount_le)
set_option maxRecDepth 20000 in
set_option maxHeartbeats 3200000 in
theorem parse_any(a:Option Addr)(c:Nat)(xs:List Nat)(w:World)(hr:Reads .u8 w a xs.length xs)(hx:∀c∈xs,c<256)(hl:xs.length<=140737488355328):
  Calls prog 27 #[.slice a xs.length c] w (ParsedAs xs w):=by
 obtain⟨N,e1,hN⟩:∃N q,eCount 40 (xs,0)=(N,q):=⟨_,_,rfl⟩;have hN40:N<=40:=by have:=eCount_le 40 (xs,0);rw[show((40:Nat):Int)=40 from rfl,hN] at this;exact this
 have HP:Hid (parsed xs=(if eEnd (takeSs N e1).2≠0 then([],eEnd (takeSs N e1).2) else if Rights (takeSs N e1).1 then((takeSs N e1).1,0) else([],2))):=hid (by
  have h3:readL xs=takeSs N e1:=by unfold readL;rw[hN]
  unfold parsed;rw[h3])
 have c0:=of_any a c xs w hr hx hl;have c1:=fun b w' hE=>eyeCount_any b (xs,0) w' hE 40 om_ om_
 rw[hN] at c1;clear hN hr hx hl;simp only at c1;unfold Saw at c1;go_enter func27,ntmps27;go_wp2_with (first
  | (go_at_call 48;((with_reducible refine c0.mono ?_);clear c0;rintro en w1 ⟨b,rfl,iR,hE1,hu1⟩))
  | (go_at_call 49;((with_reducible refine(c1 b w1 hE1).mono ?_);clear c1;rintro en w2 ⟨rfl,hE2,hu2⟩;have HLS:=hid (LS.start hE2))))
 have HB2:=hid (show Below w.heap.size w w2 from hu1.trans ((hu2.mono hu1.size).below (Nat.le_refl _) iR));have HBB:=hid iR;obtain⟨B,hB⟩:∃B,Hid (w2.heap.size=B):=⟨_,hid rfl⟩;rw[hB.o] at HLS;have HWB:=hid (show w.heap.size<=B by rw[<-hB.o];exact HB2.o.size);clear hu1 hu2 hE1 hE2 iR;go_loopw [5,11] (fun l m wr=>∃k:Nat,k<=N/\m=.int .i64 (k:Int)/\∃(ua:Option Addr) (uc:Nat),l=.slice ua k uc/\Hid (∃P,P.length=k/\sps P=(takeSs k e1).1/\LS 123 b B w2 P (takeSs k e1).2 ua uc wr)) (fun _ m _=>N - (intOf m).toNat);case atStart=>exact⟨0,Nat.zero_le _,rfl,none,0,rfl,hid ⟨[],rfl,rfl,HLS.o⟩⟩
 case round=>
  obtain⟨k,hk,rfl,ua,uc,rfl,HS⟩:=hrel;obtain⟨P,hPk,hPs,hS⟩:=HS.o;by_cases hlt2:k<N
  ·have i1:(k:Int)<N:=by omega
   obtain⟨p0,e4,hp⟩:∃p q,takeS (takeSs k e1).2=(p,q):=⟨_,_,rfl⟩;have HT1:Hid ((takeSs (k+1) e1).1=(takeSs k e1).1++[p0]):=hid (by rw[takeSs,hp]);have HT2:Hid ((takeSs (k+1) e1).2=e4):=hid (by rw[takeSs,hp]);have cP:=fun w' hE=>parseStep_any b (takeSs k e1).2 w' hE
   unfold TakesS at cP;rw[hp] at cP;clear hp HS HLS;have HPS:=hid hPs;have HPK:=hid hPk;clear hPs hPk;generalize (takeSs k e1).1=L at *;generalize (takeSs k e1).2=sk at *;have HSS:=hid hS;clear hS;go_upto_region 5 with fail
   refine plan.line ?_;refine plan.line_same 0 _ (.slice ua k uc) rfl ?_;refine plan.line_same 1 _ (.pointer (some ⟨b,0,none⟩)) rfl ?_;refine plan.line_call 2 _ 53 #[.pointer (some ⟨b,0,none⟩)] rfl kr_ kr_ ((cP _ HSS.o.eye).mono ?_);rintro en w3 ⟨p,rfl,mG,nN,hE3,hu3⟩;refine⟨_,rfl, ?_⟩;have cu:=HSS.o.call hE3 hu3;have hO3:=nN.low HSS.o.size;obtain⟨s,ta,tc,la,lc⟩:=p;have hN3:=newB w3 (.cells (zP s ta tc la lc) 84);have bD:=cu.later hN3;have hO4:=hO3.later hN3;have HO4:=hid hO4;have HPE:Hid (s=p0):=hid mG;refine plan.line_value (w1:=w3.alloc (.cells (zP s ta tc la lc) 84)) 3 _ (.slice (some ⟨w3.heap.size,0,none⟩) 1 1) rfl kr_ kr_ ?_;have dn:=bD.row;rw[HPK.o] at dn;refine plan.line_any 4 _ (fun q w5=>w5.ownsRow B 84 16 q (k+1) (stV (P++[⟨s,ta,tc,la,lc⟩]))/\(w3.alloc (.cells (zP s ta tc la lc) 84)).grownBy w5 (Value.slice ua k uc).ownBlock) rfl
    (exec_push_st (L:=P) (p:=⟨s,ta,tc,la,lc⟩) (g:=w3.heap.size) rfl dn (Block.new w3 84 (zP s ta tc la lc)) om_ bD.size) ?_
   rintro q w5 ⟨ho5,hg5⟩;obtain⟨qa,qc,rfl,_⟩:=ownsRow_slice ho5;have bF:=bD.push (p:=⟨s,ta,tc,la,lc⟩) (q:=qa) (qc:=qc) HO4.o (by rw[HPK.o];exact hg5) (by rw[HPK.o];exact ho5);refine plan.line_same 5 _ (.slice qa (k+1) qc) rfl ?_;refine plan.line_done de_ ?_;have HS6:=hid bF;clear bF ho5 hg5 bD cu hO3 hO4 hN3 dn mG nN hE3 hu3;walk_nrm;go_wp2;exact⟨⟨k+1,by omega,by go_num,qa,qc,rfl,hid ⟨P++[⟨s,ta,tc,la,lc⟩],by simp[HPK.o],by rw[HT1.o,<-HPS.o,<-HPE.o];simp[sps],by rw[HT2.o];exact HS6.o⟩⟩,by simp[intOf];omega⟩
  ·obtain rfl:k=N:=by omega
   have dW:w.heap.size<=b:=HBB.o;have HBW:=hid (show Below w.heap.size w wr from HB2.o.trans (hS.but.below HWB.o dW));have HLL:=hid hS;have HPK:=hid hPk;have HPS:=hid hPs;have cE:Calls prog 51 #[.pointer (some ⟨b,0,none⟩)] wr (field.Gives (.int .i64 (eEnd (takeSs k e1).2:Int)) wr):=(end_any b _ wr hS.eye).mono (by rintro e w' ⟨rfl,m,rfl⟩;exact⟨rfl,below_drewN (Below.refl _ _) m⟩);unfold field.Gives at cE;clear HS hS hPk hPs HLS;by_cases hE:eEnd (takeSs k e1).2=0
   ·rw[hE] at cE;have HP2:=HP.o;rw[if_neg (by rw[hE];simp)] at HP2;have HP2:=hid HP2;have cR:=fun w' (hb:Below wr.heap.size wr w')=>allRight_any ua uc P w' (HLL.o.list.below hb) (by have:=HPK.o;unfold maxLen;omega)
    rw[HPK.o,HPS.o] at cR;unfold field.Gives at cR;have hN0:(((0:Nat):Int) == 0)=true:=rfl;clear HP hE;by_cases bg:Rights (takeSs k e1).1
    ·have HP3:Hid (parsed xs=((takeSs k e1).1,0)):=hid (by rw[HP2.o,if_pos bg]);simp only[decide_eq_true bg] at cR;clear HP2 bg;go_wp2_with (first
      | (go_at_call 51;((with_reducible refine cE.mono ?_);rintro en w5 ⟨rfl,aI⟩))
      | (go_at_call 54;((with_reducible refine(cR _ aI).mono ?_);rintro en w6 ⟨rfl,aZ⟩)))
     go_ret2;refine⟨ua,uc,P,by rw[HPK.o,HP3.o];rfl,by rw[HP3.o];exact HPS.o,((HLL.o.upon HWB.o).after aI).after aZ,by rw[HPK.o];exact hN40,(HBW.o.trans (aI.mono HBW.o.size)).trans (aZ.mono (Nat.le_trans HBW.o.size aI.size))⟩
    ·have HP3:Hid (parsed xs=([],2)):=hid (by rw[HP2.o,if_neg bg]);simp only[decide_eq_false bg] at cR;clear HP2 bg;go_wp2_with (first
      | (go_at_call 51;((with_reducible refine cE.mono ?_);rintro en w5 ⟨rfl,aI⟩))
      | (go_at_call 54;((with_reducible refine(cR _ aI).mono ?_);rintro en w6 ⟨rfl,aZ⟩)))
     go_ret2;exact parse_none HP3.o ((HBW.o.trans (aI.mono HBW.o.size)).trans (aZ.mono (Nat.le_trans HBW.o.size aI.size)))
   ·have HP2:Hid (parsed xs=([],eEnd (takeSs k e1).2)):=hid (by rw[HP.o,if_pos hE]);have aH:((eEnd (takeSs k e1).2:Int) == 0)=false:=by rw[beq_eq_false_iff_ne];omega
    have dH:((eEnd (takeSs k e1).2:Int) != 0)=true:=by simp[hE]
    generalize eEnd (takeSs k e1).2=E at *;clear HP hE;go_wp2_with (go_at_call 51;((with_reducible refine cE.mono ?_);rintro en w5 ⟨rfl,aI⟩));go_ret2;exact parse_none HP2.o (HBW.o.trans (aI.mono HBW.o.size))
end step
end Go.Proofs.YtogfefdlffmioaaGreat
