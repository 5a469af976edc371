/- Contracts and lemmas that claims of this seat share: StepFine. Each says its own conditions. -/
import Derived.Test.YtogfefdlffmioaaGreatCmWord
import Derived.Test.YtogfefdlffmioaaGreatCmS
import Derived.Test.YtogfefdlffmioaaGreatCmX
import Derived.Test.YtogfefdlffmioaaGreatCmY
import Derived.Test.YtogfefdlffmioaaGreatCmAE
set_option linter.unusedVariables false
namespace Go.Proofs.YtogfefdlffmioaaGreat
open Go.Proofs.Tryz
theorem t121{P:Prop}(h:P:=by
 replace cW:=cW false (decide_eq_false h1);obtain rfl:false=r:=by rw[<-hr.o];exact(decide_eq_false (fun h=>h1 h.1)).symm
 clear h1
 exact t4):P:=h
theorem t20{P:Prop}(h:P:=by
 go_enter func91,ntmps91;go_wp2_with (first
  | (go_at_call 102;((with_reducible refine(cW _ br_).mono ?_);rintro e w2 ⟨rfl,aj⟩;obtain⟨⟨z0,z1,z2,z3,z4,z5,z6,z7,z8,z9,z10,z11,z12,z13,z14,z15⟩,aN⟩:=HX.o _ aj)))
 go_ret;exact⟨rfl,aN⟩):P:=h
theorem t4{P:Prop}(h:P:=by
 go_enter func91,ntmps91;go_wp2_with (first
  | (go_at_call 104;((with_reducible refine(cW _ br_).mono ?_);rintro e w2 ⟨rfl,aj⟩;obtain⟨⟨z0,z1,z2,z3,z4,z5,z6,z7,z8,z9,z10,z11,z12,z13,z14,z15⟩,aN⟩:=HX.o _ aj)))
 go_ret;exact⟨rfl,aN⟩):P:=h
namespace step
open Go.RowKit
open field (Gives newB gives_from)
open schema (below_out)
set_option maxRecDepth 20000 in
theorem fine0(s:Sp)(ta:Option Addr)(tc:Nat)(la:Option Addr)(lc:Nat)(w:World)(h:Lists w s ta la):Calls prog 91 #[zP s ta tc la lc,.int .i64 0] w (Gives (.bool (decide (s.Fine 0))) w):=by
 have HX:=hid (boxP s ta tc la lc w);have HL:=hid (h.below (newB w (.cells (zP s ta tc la lc) 84)));obtain⟨r,hr⟩:∃r:Bool,Hid (decide (s.Fine 0)=r):=⟨_,rfl⟩;rw[hr.o];unfold Gives;clear h;have cW:From 104 #[.int .i64 s.fm,.int .i64 0,.int .i64 200] (.bool r) (w.alloc (.cells (zP s ta tc la lc) 84)):=from_all _ (fun w'=>hr.o ▸ within_any s.fm 0 200 w')
 exact t4
set_option maxRecDepth 20000 in
theorem fine1(s:Sp)(ta:Option Addr)(tc:Nat)(la:Option Addr)(lc:Nat)(w:World)(h:Lists w s ta la):Calls prog 91 #[zP s ta tc la lc,.int .i64 1] w (Gives (.bool (decide (s.Fine 1))) w):=by
 have HX:=hid (boxP s ta tc la lc w);have HL:=hid (h.below (newB w (.cells (zP s ta tc la lc) 84)));obtain⟨r,hr⟩:∃r:Bool,Hid (decide (s.Fine 1)=r):=⟨_,rfl⟩;rw[hr.o];unfold Gives;clear h;have cW:From 104 #[.int .i64 s.fd,.int .i64 0,.int .i64 255] (.bool r) (w.alloc (.cells (zP s ta tc la lc) 84)):=from_all _ (fun w'=>hr.o ▸ within_any s.fd 0 255 w')
 exact t4
set_option maxRecDepth 20000 in
theorem fine2(s:Sp)(ta:Option Addr)(tc:Nat)(la:Option Addr)(lc:Nat)(w:World)(h:Lists w s ta la):Calls prog 91 #[zP s ta tc la lc,.int .i64 2] w (Gives (.bool (decide (s.Fine 2))) w):=by
 have HX:=hid (boxP s ta tc la lc w);have HL:=hid (h.below (newB w (.cells (zP s ta tc la lc) 84)));obtain⟨r,hr⟩:∃r:Bool,Hid (decide (s.Fine 2)=r):=⟨_,rfl⟩;rw[hr.o];unfold Gives;clear h;have cW:From 104 #[.int .i64 s.pl,.int .i64 0,.int .i64 8] (.bool r) (w.alloc (.cells (zP s ta tc la lc) 84)):=from_all _ (fun w'=>hr.o ▸ within_any s.pl 0 8 w')
 exact t4
set_option maxRecDepth 20000 in
theorem fine4(s:Sp)(ta:Option Addr)(tc:Nat)(la:Option Addr)(lc:Nat)(w:World)(h:Lists w s ta la):Calls prog 91 #[zP s ta tc la lc,.int .i64 4] w (Gives (.bool (decide (s.Fine 4))) w):=by
 have HX:=hid (boxP s ta tc la lc w);have HL:=hid (h.below (newB w (.cells (zP s ta tc la lc) 84)));obtain⟨r,hr⟩:∃r:Bool,Hid (decide (s.Fine 4)=r):=⟨_,rfl⟩;rw[hr.o];unfold Gives;clear h;have cW:From 104 #[.int .i64 s.a,.int .i64 2,.int .i64 1048576] (.bool r) (w.alloc (.cells (zP s ta tc la lc) 84)):=from_all _ (fun w'=>hr.o ▸ within_any s.a 2 1048576 w')
 exact t4
set_option maxRecDepth 20000 in
theorem fine3(s:Sp)(ta:Option Addr)(tc:Nat)(la:Option Addr)(lc:Nat)(w:World)(h:Lists w s ta la):Calls prog 91 #[zP s ta tc la lc,.int .i64 3] w (Gives (.bool (decide (s.Fine 3))) w):=by
 have HX:=hid (boxP s ta tc la lc w);have HL:=hid (h.below (newB w (.cells (zP s ta tc la lc) 84)));obtain⟨r,hr⟩:∃r:Bool,Hid (decide (s.Fine 3)=r):=⟨_,rfl⟩;rw[hr.o];unfold Gives;clear h;have cW:=fun v (hv:decide (0<=s.tt/\s.tt<=255)=v)=>from_all (w.alloc (.cells (zP s ta tc la lc) 84)) (fun w'=>hv ▸ within_any s.tt 0 255 w')
 by_cases h1:0<=s.tt/\s.tt<=255
 ·replace cW:=cW true (decide_eq_true h1);by_cases h2:s.tt=s.fd
  ·obtain rfl:false=r:=by rw[<-hr.o];exact(decide_eq_false (fun h=>h.2 h2)).symm
   have d2:(s.tt != s.fd)=false:=by simp[h2]
   have d3:(s.tt == s.fd)=true:=by simp[h2]
   clear h1 h2
   exact t4
  ·obtain rfl:true=r:=by rw[<-hr.o];exact(decide_eq_true ⟨h1,h2⟩).symm
   have d2:(s.tt != s.fd)=true:=by simp[h2]
   have d3:(s.tt == s.fd)=false:=by simp[h2]
   clear h1 h2
   exact t4
 ·exact t121
set_option maxRecDepth 20000 in
theorem fine5(s:Sp)(ta:Option Addr)(tc:Nat)(la:Option Addr)(lc:Nat)(w:World)(h:Lists w s ta la):Calls prog 91 #[zP s ta tc la lc,.int .i64 5] w (Gives (.bool (decide (s.Fine 5))) w):=by
 have HX:=hid (boxP s ta tc la lc w);have HL:=hid (h.below (newB w (.cells (zP s ta tc la lc) 84)));obtain⟨r,hr⟩:∃r:Bool,Hid (decide (s.Fine 5)=r):=⟨_,rfl⟩;rw[hr.o];unfold Gives;clear h;have cW:=fun v (hv:decide (-1048576<=s.a/\s.a<=1048576)=v)=>from_all (w.alloc (.cells (zP s ta tc la lc) 84)) (fun w'=>hv ▸ within_any s.a (-1048576) 1048576 w')
 have cV:=fun v (hv:decide (-1099511627776<=s.b/\s.b<=1099511627776)=v)=>from_all (w.alloc (.cells (zP s ta tc la lc) 84)) (fun w'=>hv ▸ within_any s.b (-1099511627776) 1099511627776 w')
 by_cases h1: -1048576<=s.a/\s.a<=1048576
 ·replace cW:=cW true (decide_eq_true h1);by_cases h2:s.a=0
  ·obtain rfl:false=r:=by rw[<-hr.o];exact(decide_eq_false (fun h=>h.1.2 h2)).symm
   have d2:(s.a != 0)=false:=by simp[h2]
   have d3:(s.a == 0)=true:=by simp[h2]
   clear h1 h2
   exact t4
  ·have d2:(s.a != 0)=true:=by simp[h2]
   have d3:(s.a == 0)=false:=by simp[h2]
   replace cV:=cV r (by rw[<-hr.o];exact decide_eq_decide.2 ⟨fun h=>⟨⟨h1,h2⟩,h⟩,fun h=>h.2⟩);clear h1 h2;go_enter func91,ntmps91;go_wp2_with (first
    | (go_at_call 104;((with_reducible refine(cW _ br_).mono ?_);rintro e w2 ⟨rfl,aj⟩;obtain⟨⟨z0,z1,z2,z3,z4,z5,z6,z7,z8,z9,z10,z11,z12,z13,z14,z15⟩,aN⟩:=HX.o _ aj))
    | (go_at_call 104;((with_reducible refine(cV _ br_).mono ?_);rintro e w2 ⟨rfl,aj⟩;obtain⟨⟨z0,z1,z2,z3,z4,z5,z6,z7,z8,z9,z10,z11,z12,z13,z14,z15⟩,aN⟩:=HX.o _ aj)))
   go_ret;exact⟨rfl,aN⟩
 ·replace cW:=cW false (decide_eq_false h1);obtain rfl:false=r:=by rw[<-hr.o];exact(decide_eq_false (fun h=>h1 h.1.1)).symm
  clear h1
  exact t4
set_option maxRecDepth 20000 in
theorem fine6(s:Sp)(ta:Option Addr)(tc:Nat)(la:Option Addr)(lc:Nat)(w:World)(h:Lists w s ta la):Calls prog 91 #[zP s ta tc la lc,.int .i64 6] w (Gives (.bool (decide (s.Fine 6))) w):=by
 have HX:=hid (boxP s ta tc la lc w);have HL:=hid (h.below (newB w (.cells (zP s ta tc la lc) 84)));obtain⟨r,hr⟩:∃r:Bool,Hid (decide (s.Fine 6)=r):=⟨_,rfl⟩;rw[hr.o];unfold Gives;clear h;have cW:=fun v (hv:decide (1<=s.a/\s.a<=1000)=v)=>from_all (w.alloc (.cells (zP s ta tc la lc) 84)) (fun w'=>hv ▸ within_any s.a 1 1000 w')
 by_cases h1:1<=s.a/\s.a<=1000
 ·replace cW:=cW true (decide_eq_true h1);have cT:From 105 #[.slice ta s.t.length tc,.int .i64 s.a] (.bool r) (w.alloc (.cells (zP s ta tc la lc) 84)):=from_in _ (fun w' hb=>by
   have e:decide (Table s.t s.a)=r:=by rw[<-hr.o];exact decide_eq_decide.2 ⟨fun h=>⟨h1,h⟩,fun h=>h.2⟩
   exact e ▸ fineTable_any ta tc s.t s.a h1.1 h1.2 w' ((HL.o.below hb).t) HL.o.mt)
  clear h1;go_enter func91,ntmps91;go_wp2_with (first
   | (go_at_call 104;((with_reducible refine(cW _ br_).mono ?_);rintro e w2 ⟨rfl,aj⟩;obtain⟨⟨z0,z1,z2,z3,z4,z5,z6,z7,z8,z9,z10,z11,z12,z13,z14,z15⟩,aN⟩:=HX.o _ aj))
   | (go_at_call 105;((with_reducible refine(cT _ br_).mono ?_);rintro e w2 ⟨rfl,aj⟩;obtain⟨⟨z0,z1,z2,z3,z4,z5,z6,z7,z8,z9,z10,z11,z12,z13,z14,z15⟩,aN⟩:=HX.o _ aj)))
  go_ret;exact⟨rfl,aN⟩
 ·exact t121
set_option maxRecDepth 20000 in
theorem fine7(s:Sp)(ta:Option Addr)(tc:Nat)(la:Option Addr)(lc:Nat)(w:World)(h:Lists w s ta la):Calls prog 91 #[zP s ta tc la lc,.int .i64 7] w (Gives (.bool (decide (s.Fine 7))) w):=by
 have HX:=hid (boxP s ta tc la lc w);have HL:=hid (h.below (newB w (.cells (zP s ta tc la lc) 84)));obtain⟨r,hr⟩:∃r:Bool,Hid (decide (s.Fine 7)=r):=⟨_,rfl⟩;rw[hr.o];unfold Gives;clear h;have cT:From 105 #[.slice ta s.t.length tc,.int .i64 1000] (.bool r) (w.alloc (.cells (zP s ta tc la lc) 84)):=from_in _ (fun w' hb=>hr.o ▸ fineTable_any ta tc s.t 1000 om_ om_ w' ((HL.o.below hb).t) HL.o.mt);go_enter func91,ntmps91;go_wp2_with (first
  | (go_at_call 105;((with_reducible refine(cT _ br_).mono ?_);rintro e w2 ⟨rfl,aj⟩;obtain⟨⟨z0,z1,z2,z3,z4,z5,z6,z7,z8,z9,z10,z11,z12,z13,z14,z15⟩,aN⟩:=HX.o _ aj)))
 go_ret;exact⟨rfl,aN⟩
set_option maxRecDepth 20000 in
theorem fine8(s:Sp)(ta:Option Addr)(tc:Nat)(la:Option Addr)(lc:Nat)(w:World)(h:Lists w s ta la):Calls prog 91 #[zP s ta tc la lc,.int .i64 8] w (Gives (.bool (decide (s.Fine 8))) w):=by
 have HX:=hid (boxP s ta tc la lc w);have HL:=hid (h.below (newB w (.cells (zP s ta tc la lc) 84)));obtain⟨r,hr⟩:∃r:Bool,Hid (decide (s.Fine 8)=r):=⟨_,rfl⟩;rw[hr.o];unfold Gives;clear h;have cW:=fun v (hv:decide s.f.Right=v)=>from_all (w.alloc (.cells (zP s ta tc la lc) 84)) (fun w'=>hv ▸ field.right_any s.f w')
 by_cases h1:s.f.Right
 ·replace cW:=cW true (decide_eq_true h1);by_cases h2:s.f.id=s.fd
  ·obtain rfl:true=r:=by rw[<-hr.o];exact(decide_eq_true ⟨h1,h2⟩).symm
   have d3:(s.f.id == s.fd)=true:=by simp[h2]
   clear h1 h2
   exact t20
  ·obtain rfl:false=r:=by rw[<-hr.o];exact(decide_eq_false (fun h=>h2 h.2)).symm
   have d3:(s.f.id == s.fd)=false:=by simp[h2]
   clear h1 h2
   exact t20
 ·replace cW:=cW false (decide_eq_false h1);obtain rfl:false=r:=by rw[<-hr.o];exact(decide_eq_false (fun h=>h1 h.1)).symm
  clear h1
  exact t20
set_option maxRecDepth 20000 in
theorem fine9(s:Sp)(ta:Option Addr)(tc:Nat)(la:Option Addr)(lc:Nat)(w:World)(h:Lists w s ta la):Calls prog 91 #[zP s ta tc la lc,.int .i64 9] w (Gives (.bool (decide (s.Fine 9))) w):=by
 have HX:=hid (boxP s ta tc la lc w);have HL:=hid (h.below (newB w (.cells (zP s ta tc la lc) 84)));obtain⟨r,hr⟩:∃r:Bool,Hid (decide (s.Fine 9)=r):=⟨_,rfl⟩;rw[hr.o];unfold Gives;clear h;have cH:From 106 #[zF s.f,zV s.v] (.bool r) (w.alloc (.cells (zP s ta tc la lc) 84)):=from_all _ (fun w'=>hr.o ▸ field.has_any s.f s.v w');go_enter func91,ntmps91;go_wp2_with (first
  | (go_at_call 106;((with_reducible refine(cH _ br_).mono ?_);rintro e w2 ⟨rfl,aj⟩;obtain⟨⟨z0,z1,z2,z3,z4,z5,z6,z7,z8,z9,z10,z11,z12,z13,z14,z15⟩,aN⟩:=HX.o _ aj)))
 go_ret;exact⟨rfl,aN⟩
set_option maxRecDepth 20000 in
theorem fine10(s:Sp)(ta:Option Addr)(tc:Nat)(la:Option Addr)(lc:Nat)(w:World)(h:Lists w s ta la):Calls prog 91 #[zP s ta tc la lc,.int .i64 10] w (Gives (.bool (decide (s.Fine 10))) w):=by
 have HX:=hid (boxP s ta tc la lc w);have HL:=hid (h.below (newB w (.cells (zP s ta tc la lc) 84)));obtain⟨r,hr⟩:∃r:Bool,Hid (decide (s.Fine 10)=r):=⟨_,rfl⟩;rw[hr.o];unfold Gives;clear h;have cW:=fun v (hv:decide (-1099511627776<=s.v.n/\s.v.n<=1099511627776)=v)=>from_all (w.alloc (.cells (zP s ta tc la lc) 84)) (fun w'=>hv ▸ within_any s.v.n (-1099511627776) 1099511627776 w')
 by_cases h1: -1099511627776<=s.v.n/\s.v.n<=1099511627776
 ·replace cW:=cW true (decide_eq_true h1);by_cases h2:s.v.s.size<=32
  ·obtain rfl:true=r:=by rw[<-hr.o];exact(decide_eq_true ⟨h1,h2⟩).symm
   have d3:decide ((s.v.s.size:Int)<=32)=true:=decide_eq_true om_;clear h1 h2
   exact t4
  ·obtain rfl:false=r:=by rw[<-hr.o];exact(decide_eq_false (fun h=>h2 h.2)).symm
   have d3:decide ((s.v.s.size:Int)<=32)=false:=decide_eq_false om_;clear h1 h2
   exact t4
 ·exact t121
set_option maxRecDepth 20000 in
theorem fine11(s:Sp)(ta:Option Addr)(tc:Nat)(la:Option Addr)(lc:Nat)(w:World)(h:Lists w s ta la):Calls prog 91 #[zP s ta tc la lc,.int .i64 11] w (Gives (.bool (decide (s.Fine 11))) w):=by
 have HX:=hid (boxP s ta tc la lc w);have HL:=hid (h.below (newB w (.cells (zP s ta tc la lc) 84)));obtain⟨r,hr⟩:∃r:Bool,Hid (decide (s.Fine 11)=r):=⟨_,rfl⟩;rw[hr.o];unfold Gives;clear h;have cS:From 62 #[zS s.fm la s.l.length lc] (.bool r) (w.alloc (.cells (zP s ta tc la lc) 84)):=from_in _ (fun w' hb=>hr.o ▸ schema.fine_any s.fm la lc s.l w' ((HL.o.below hb).l) HL.o.ml);go_enter func91,ntmps91;go_wp2_with (first
  | (go_at_call 62;((with_reducible refine(cS _ br_).mono ?_);rintro e w2 ⟨rfl,aj⟩;obtain⟨⟨z0,z1,z2,z3,z4,z5,z6,z7,z8,z9,z10,z11,z12,z13,z14,z15⟩,aN⟩:=HX.o _ aj)))
 go_ret;exact⟨rfl,aN⟩
theorem fine_any(s:Sp)(ta:Option Addr)(tc:Nat)(la:Option Addr)(lc:Nat)(m:Nat)(hm:m<12)(w:World)(h:Lists w s ta la):Calls prog 91 #[zP s ta tc la lc,.int .i64 (m:Int)] w (Gives (.bool (decide (s.Fine m))) w):=by
 match m,hm with
 | 0,_=>exact fine0 s ta tc la lc w h
 | 1,_=>exact fine1 s ta tc la lc w h
 | 2,_=>exact fine2 s ta tc la lc w h
 | 3,_=>exact fine3 s ta tc la lc w h
 | 4,_=>exact fine4 s ta tc la lc w h
 | 5,_=>exact fine5 s ta tc la lc w h
 | 6,_=>exact fine6 s ta tc la lc w h
 | 7,_=>exact fine7 s ta tc la lc w h
 | 8,_=>exact fine8 s ta tc la lc w h
 | 9,_=>exact fine9 s ta tc la lc w h
 | 10,_=>exact fine10 s ta tc la lc w h
 | 11,_=>exact fine11 s ta tc la lc w h
end step
end Go.Proofs.YtogfefdlffmioaaGreat
