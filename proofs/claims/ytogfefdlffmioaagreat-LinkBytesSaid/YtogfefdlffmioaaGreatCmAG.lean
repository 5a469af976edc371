/- Contracts and lemmas that claims of this seat share: StepClear. Each says its own conditions. -/
import Derived.Test.YtogfefdlffmioaaGreatCmWord
import Derived.Test.YtogfefdlffmioaaGreatCmI
import Derived.Test.YtogfefdlffmioaaGreatCmAE
set_option linter.unusedVariables false
namespace Go.Proofs.YtogfefdlffmioaaGreat
open Go.Proofs.Tryz
theorem t124{P:Prop}(h:P:=by
 replace hB:=hB.setCell 12 (.int .i64 0);replace hW:=below_setCells hW h.low 12 [.int .i64 0];replace hB:=hB.setCell 13 (.string ⟨#[]⟩);replace hW:=below_setCells hW h.low 13 [.string ⟨#[]⟩]
 exact t15):P:=h
theorem t47{P:Prop}(h:P:=by
 replace hB:=hB.setCell 14 (.slice none 0 0);replace hW:=below_setCells hW h.low 14 [.slice none 0 0];exact ret0 rfl rfl ⟨rfl,none,0,la,lc,⟨hB,⟨.inl rfl,hL.l,Nat.zero_le _,hL.ml⟩,h.low,hW⟩⟩):P:=h
theorem t15{P:Prop}(h:P:=by
 exact ret0 rfl rfl ⟨rfl,ta,tc,la,lc,⟨hB,⟨hL.t,hL.l,hL.mt,hL.ml⟩,h.low,hW⟩⟩):P:=h
namespace step
open Go.RowKit
open field (Gives newB gives_from)
open schema (below_out)
open pen (ret0)
structure BoxAt (w0:World) (B:Nat) (s:Sp) (ta:Option Addr) (tc:Nat) (la:Option Addr) (lc:Nat) (w:World):Prop where
 f:Block w B 84 (zP s ta tc la lc)
 lists:Lists w0 s ta la
 low:w0.heap.size<=B
 below:Below w0.heap.size w0 w
theorem BoxAt.later{w0 w w':World}{B:Nat}{s:Sp}{ta la:Option Addr}{tc lc:Nat}(h:BoxAt w0 B s ta tc la lc w)(hb:Below w.heap.size w w'):BoxAt w0 B s ta tc la lc w':=
 ⟨h.f.later hb,h.lists,h.low,h.below.trans (hb.mono h.below.size)⟩
theorem BoxAt.now{w0 w:World}{B:Nat}{s:Sp}{ta la:Option Addr}{tc lc:Nat}(h:BoxAt w0 B s ta tc la lc w):Lists w s ta la:=h.lists.below h.below
def Cleared(w0:World)(B:Nat)(s:Sp)(e:Ending)(w':World):Prop:=e=.returned (.tuple #[])/\∃ta tc la lc,BoxAt w0 B s ta tc la lc w'
set_option maxRecDepth 20000 in
theorem clear0{w0:World}(B:Nat)(s:Sp)(ta:Option Addr)(tc:Nat)(la:Option Addr)(lc:Nat)(w:World)(h:BoxAt w0 B s ta tc la lc w):Calls prog 92 #[.pointer (some ⟨B,0,none⟩),.int .i64 0] w (Cleared w0 B (s.clear 0)):=by
 have HF:=hid h;have hf:=h.f;have c1:=hf.cell 1;have f1:=hf.frozen 1;clear hf h;go_enter func92,ntmps92;go_wp2;have h:=HF.o;have hL:=h.lists;have hB:=h.f;have hW:=h.below;replace hB:=hB.setCell 1 (.int .i64 0);replace hW:=below_setCells hW h.low 1 [.int .i64 0]
 exact t15
set_option maxRecDepth 20000 in
theorem clear1{w0:World}(B:Nat)(s:Sp)(ta:Option Addr)(tc:Nat)(la:Option Addr)(lc:Nat)(w:World)(h:BoxAt w0 B s ta tc la lc w):Calls prog 92 #[.pointer (some ⟨B,0,none⟩),.int .i64 1] w (Cleared w0 B (s.clear 1)):=by
 have HF:=hid h;have hf:=h.f;have c2:=hf.cell 2;have f2:=hf.frozen 2;clear hf h;go_enter func92,ntmps92;go_wp2;have h:=HF.o;have hL:=h.lists;have hB:=h.f;have hW:=h.below;replace hB:=hB.setCell 2 (.int .i64 0);replace hW:=below_setCells hW h.low 2 [.int .i64 0]
 exact t15
set_option maxRecDepth 20000 in
theorem clear2{w0:World}(B:Nat)(s:Sp)(ta:Option Addr)(tc:Nat)(la:Option Addr)(lc:Nat)(w:World)(h:BoxAt w0 B s ta tc la lc w):Calls prog 92 #[.pointer (some ⟨B,0,none⟩),.int .i64 2] w (Cleared w0 B (s.clear 2)):=by
 have HF:=hid h;have hf:=h.f;have c3:=hf.cell 3;have f3:=hf.frozen 3;clear hf h;go_enter func92,ntmps92;go_wp2;have h:=HF.o;have hL:=h.lists;have hB:=h.f;have hW:=h.below;replace hB:=hB.setCell 3 (.int .i64 0);replace hW:=below_setCells hW h.low 3 [.int .i64 0]
 exact t15
set_option maxRecDepth 20000 in
theorem clear3{w0:World}(B:Nat)(s:Sp)(ta:Option Addr)(tc:Nat)(la:Option Addr)(lc:Nat)(w:World)(h:BoxAt w0 B s ta tc la lc w):Calls prog 92 #[.pointer (some ⟨B,0,none⟩),.int .i64 3] w (Cleared w0 B (s.clear 3)):=by
 have HF:=hid h;have hf:=h.f;have c4:=hf.cell 4;have f4:=hf.frozen 4;clear hf h;go_enter func92,ntmps92;go_wp2;have h:=HF.o;have hL:=h.lists;have hB:=h.f;have hW:=h.below;replace hB:=hB.setCell 4 (.int .i64 0);replace hW:=below_setCells hW h.low 4 [.int .i64 0]
 exact t15
set_option maxRecDepth 20000 in
theorem clear4{w0:World}(B:Nat)(s:Sp)(ta:Option Addr)(tc:Nat)(la:Option Addr)(lc:Nat)(w:World)(h:BoxAt w0 B s ta tc la lc w):Calls prog 92 #[.pointer (some ⟨B,0,none⟩),.int .i64 4] w (Cleared w0 B (s.clear 4)):=by
 have HF:=hid h;have hf:=h.f;have c5:=hf.cell 5;have f5:=hf.frozen 5;clear hf h;go_enter func92,ntmps92;go_wp2;have h:=HF.o;have hL:=h.lists;have hB:=h.f;have hW:=h.below;replace hB:=hB.setCell 5 (.int .i64 0);replace hW:=below_setCells hW h.low 5 [.int .i64 0]
 exact t15
set_option maxRecDepth 20000 in
theorem clear5{w0:World}(B:Nat)(s:Sp)(ta:Option Addr)(tc:Nat)(la:Option Addr)(lc:Nat)(w:World)(h:BoxAt w0 B s ta tc la lc w):Calls prog 92 #[.pointer (some ⟨B,0,none⟩),.int .i64 5] w (Cleared w0 B (s.clear 5)):=by
 have HF:=hid h;have hf:=h.f;have c5:=hf.cell 5;have f5:=hf.frozen 5;have c6:=hf.cell 6;have f6:=hf.frozen 6;clear hf h;go_enter func92,ntmps92;go_wp2;have h:=HF.o;have hL:=h.lists;have hB:=h.f;have hW:=h.below;replace hB:=hB.setCell 5 (.int .i64 0);replace hW:=below_setCells hW h.low 5 [.int .i64 0];replace hB:=hB.setCell 6 (.int .i64 0);replace hW:=below_setCells hW h.low 6 [.int .i64 0]
 exact t15
set_option maxRecDepth 20000 in
theorem clear6{w0:World}(B:Nat)(s:Sp)(ta:Option Addr)(tc:Nat)(la:Option Addr)(lc:Nat)(w:World)(h:BoxAt w0 B s ta tc la lc w):Calls prog 92 #[.pointer (some ⟨B,0,none⟩),.int .i64 6] w (Cleared w0 B (s.clear 6)):=by
 have HF:=hid h;have hf:=h.f;have c5:=hf.cell 5;have f5:=hf.frozen 5;have c14:=hf.cell 14;have f14:=hf.frozen 14;clear hf h;go_enter func92,ntmps92;go_wp2;have h:=HF.o;have hL:=h.lists;have hB:=h.f;have hW:=h.below;replace hB:=hB.setCell 5 (.int .i64 0);replace hW:=below_setCells hW h.low 5 [.int .i64 0]
 exact t47
set_option maxRecDepth 20000 in
theorem clear7{w0:World}(B:Nat)(s:Sp)(ta:Option Addr)(tc:Nat)(la:Option Addr)(lc:Nat)(w:World)(h:BoxAt w0 B s ta tc la lc w):Calls prog 92 #[.pointer (some ⟨B,0,none⟩),.int .i64 7] w (Cleared w0 B (s.clear 7)):=by
 have HF:=hid h;have hf:=h.f;have c14:=hf.cell 14;have f14:=hf.frozen 14;clear hf h;go_enter func92,ntmps92;go_wp2;have h:=HF.o;have hL:=h.lists;have hB:=h.f;have hW:=h.below
 exact t47
set_option maxRecDepth 20000 in
theorem clear8{w0:World}(B:Nat)(s:Sp)(ta:Option Addr)(tc:Nat)(la:Option Addr)(lc:Nat)(w:World)(h:BoxAt w0 B s ta tc la lc w):Calls prog 92 #[.pointer (some ⟨B,0,none⟩),.int .i64 8] w (Cleared w0 B (s.clear 8)):=by
 have HF:=hid h;have hf:=h.f;have c7:=hf.cell 7;have f7:=hf.frozen 7;have c8:=hf.cell 8;have f8:=hf.frozen 8;have c9:=hf.cell 9;have f9:=hf.frozen 9;have c10:=hf.cell 10;have f10:=hf.frozen 10;have c11:=hf.cell 11;have f11:=hf.frozen 11;clear hf h;go_enter func92,ntmps92;go_wp2;have h:=HF.o;have hL:=h.lists;have hB:=h.f;have hW:=h.below;replace hB:=hB.setCell 7 (.int .i64 0);replace hW:=below_setCells hW h.low 7 [.int .i64 0];replace hB:=hB.setCell 8 (.int .i64 0);replace hW:=below_setCells hW h.low 8 [.int .i64 0];replace hB:=hB.setCell 9 (.int .i64 0);replace hW:=below_setCells hW h.low 9 [.int .i64 0];replace hB:=hB.setCell 10 (.int .i64 0);replace hW:=below_setCells hW h.low 10 [.int .i64 0];replace hB:=hB.setCell 11 (.int .i64 0);replace hW:=below_setCells hW h.low 11 [.int .i64 0]
 exact t15
set_option maxRecDepth 20000 in
theorem clear9{w0:World}(B:Nat)(s:Sp)(ta:Option Addr)(tc:Nat)(la:Option Addr)(lc:Nat)(w:World)(h:BoxAt w0 B s ta tc la lc w):Calls prog 92 #[.pointer (some ⟨B,0,none⟩),.int .i64 9] w (Cleared w0 B (s.clear 9)):=by
 have HF:=hid h;have hf:=h.f;have c7:=hf.cell 7;have f7:=hf.frozen 7;have c8:=hf.cell 8;have f8:=hf.frozen 8;have c9:=hf.cell 9;have f9:=hf.frozen 9;have c10:=hf.cell 10;have f10:=hf.frozen 10;have c11:=hf.cell 11;have f11:=hf.frozen 11;have c12:=hf.cell 12;have f12:=hf.frozen 12;have c13:=hf.cell 13;have f13:=hf.frozen 13;clear hf h;go_enter func92,ntmps92;go_wp2;have h:=HF.o;have hL:=h.lists;have hB:=h.f;have hW:=h.below;replace hB:=hB.setCell 7 (.int .i64 0);replace hW:=below_setCells hW h.low 7 [.int .i64 0];replace hB:=hB.setCell 8 (.int .i64 0);replace hW:=below_setCells hW h.low 8 [.int .i64 0];replace hB:=hB.setCell 9 (.int .i64 0);replace hW:=below_setCells hW h.low 9 [.int .i64 0];replace hB:=hB.setCell 10 (.int .i64 0);replace hW:=below_setCells hW h.low 10 [.int .i64 0];replace hB:=hB.setCell 11 (.int .i64 0);replace hW:=below_setCells hW h.low 11 [.int .i64 0]
 exact t124
set_option maxRecDepth 20000 in
theorem clear10{w0:World}(B:Nat)(s:Sp)(ta:Option Addr)(tc:Nat)(la:Option Addr)(lc:Nat)(w:World)(h:BoxAt w0 B s ta tc la lc w):Calls prog 92 #[.pointer (some ⟨B,0,none⟩),.int .i64 10] w (Cleared w0 B (s.clear 10)):=by
 have HF:=hid h;have hf:=h.f;have c12:=hf.cell 12;have f12:=hf.frozen 12;have c13:=hf.cell 13;have f13:=hf.frozen 13;clear hf h;go_enter func92,ntmps92;go_wp2;have h:=HF.o;have hL:=h.lists;have hB:=h.f;have hW:=h.below
 exact t124
set_option maxRecDepth 20000 in
theorem clear11{w0:World}(B:Nat)(s:Sp)(ta:Option Addr)(tc:Nat)(la:Option Addr)(lc:Nat)(w:World)(h:BoxAt w0 B s ta tc la lc w):Calls prog 92 #[.pointer (some ⟨B,0,none⟩),.int .i64 11] w (Cleared w0 B (s.clear 11)):=by
 have HF:=hid h;have hf:=h.f;have c15:=hf.cell 15;have f15:=hf.frozen 15;clear hf h;go_enter func92,ntmps92;go_wp2;have h:=HF.o;have hL:=h.lists;have hB:=h.f;have hW:=h.below;replace hB:=hB.setCell 15 (.slice none 0 0);replace hW:=below_setCells hW h.low 15 [.slice none 0 0];exact ret0 rfl rfl ⟨rfl,ta,tc,none,0,⟨hB,⟨hL.t,.inl rfl,hL.mt,Nat.zero_le _⟩,h.low,hW⟩⟩
theorem clear_any{w0:World}(B:Nat)(s:Sp)(ta:Option Addr)(tc:Nat)(la:Option Addr)(lc:Nat)(m:Nat)(hm:m<12)(w:World)(h:BoxAt w0 B s ta tc la lc w):Calls prog 92 #[.pointer (some ⟨B,0,none⟩),.int .i64 (m:Int)] w (Cleared w0 B (s.clear m)):=by
 match m,hm with
 | 0,_=>exact clear0 B s ta tc la lc w h
 | 1,_=>exact clear1 B s ta tc la lc w h
 | 2,_=>exact clear2 B s ta tc la lc w h
 | 3,_=>exact clear3 B s ta tc la lc w h
 | 4,_=>exact clear4 B s ta tc la lc w h
 | 5,_=>exact clear5 B s ta tc la lc w h
 | 6,_=>exact clear6 B s ta tc la lc w h
 | 7,_=>exact clear7 B s ta tc la lc w h
 | 8,_=>exact clear8 B s ta tc la lc w h
 | 9,_=>exact clear9 B s ta tc la lc w h
 | 10,_=>exact clear10 B s ta tc la lc w h
 | 11,_=>exact clear11 B s ta tc la lc w h
end step
end Go.Proofs.YtogfefdlffmioaaGreat
