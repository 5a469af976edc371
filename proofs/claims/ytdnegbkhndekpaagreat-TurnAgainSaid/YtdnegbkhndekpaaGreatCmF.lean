/- Contracts and lemmas that claims of this seat share: StepClear, SchemaAt, SchemaForm. Each says its own conditions. -/
import Derived.Test.YtdnegbkhndekpaaGreatCmWord
import Derived.Deep.RegionHeld3
import Derived.Handy
import Derived.Test.YtdnegbkhndekpaaGreatCmC
import Derived.Test.YtdnegbkhndekpaaGreatCmA
import Derived.Test.YtdnegbkhndekpaaGreatCmB
set_option linter.unusedVariables false
namespace Go.Proofs.YtdnegbkhndekpaaGreat
open Go.Proofs.Tryz
theorem t153{P:Prop}(h:P:=by
 replace hB:=hB.setCell 12 (.int .i64 0);replace hW:=below_setCells hW h.low 12 [.int .i64 0];replace hB:=hB.setCell 13 (.string ⟨#[]⟩);replace hW:=below_setCells hW h.low 13 [.string ⟨#[]⟩]
 exact t28):P:=h
theorem t72{P:Prop}(h:P:=by
 replace hB:=hB.setCell 14 (.slice none 0 0);replace hW:=below_setCells hW h.low 14 [.slice none 0 0];exact tN rfl rfl ⟨rfl,none,0,la,lc,⟨hB,⟨.inl rfl,hL.l,Nat.zero_le _,hL.ml⟩,h.low,hW⟩⟩):P:=h
theorem t28{P:Prop}(h:P:=by
 exact tN rfl rfl ⟨rfl,ta,tc,la,lc,⟨hB,⟨hL.t,hL.l,hL.mt,hL.ml⟩,h.low,hW⟩⟩):P:=h
namespace step
open Go.RowKit
open field (Gives aC aj)
open schema (aY)
open pen (tN)
structure BoxAt (w0:World) (B:Nat) (s:Sp) (ta:Option Addr) (tc:Nat) (la:Option Addr) (lc:Nat) (w:World):Prop where
 f:Block w B 32 (zP s ta tc la lc)
 lists:Lists w0 s ta la
 low:w0.heap.size<=B
 below:Below w0.heap.size w0 w
theorem BoxAt.later {w0 w w':World} {B:Nat} {s:Sp} {ta la:Option Addr} {tc lc:Nat} (h:BoxAt w0 B s ta tc la lc w) (hb:Below w.heap.size w w'):BoxAt w0 B s ta tc la lc w':=
 ⟨h.f.later hb,h.lists,h.low,h.below.trans (hb.mono h.below.size)⟩
def Cleared (w0:World) (B:Nat) (s:Sp) (e:Ending) (w':World):Prop:=e=.returned (.tuple #[])/\∃ta tc la lc,BoxAt w0 B s ta tc la lc w'
set_option maxRecDepth 20000 in
theorem JW {w0:World} (B:Nat) (s:Sp) (ta:Option Addr) (tc:Nat) (la:Option Addr) (lc:Nat) (w:World) (h:BoxAt w0 B s ta tc la lc w):Calls prog 114 #[.pointer (some ⟨B,0,none⟩),.int .i64 0] w (Cleared w0 B (s.clear 0)):=by
 have HF:=hid h;have hf:=h.f;have c1:=hf.cell 1;have f1:=hf.frozen 1;clear hf h;go_enter func114,ntmps114;go_wp2;have h:=HF.o;have hL:=h.lists;have hB:=h.f;have hW:=h.below;replace hB:=hB.setCell 1 (.int .i64 0);replace hW:=below_setCells hW h.low 1 [.int .i64 0]
 exact t28
set_option maxRecDepth 20000 in
theorem JS {w0:World} (B:Nat) (s:Sp) (ta:Option Addr) (tc:Nat) (la:Option Addr) (lc:Nat) (w:World) (h:BoxAt w0 B s ta tc la lc w):Calls prog 114 #[.pointer (some ⟨B,0,none⟩),.int .i64 1] w (Cleared w0 B (s.clear 1)):=by
 have HF:=hid h;have hf:=h.f;have c2:=hf.cell 2;have f2:=hf.frozen 2;clear hf h;go_enter func114,ntmps114;go_wp2;have h:=HF.o;have hL:=h.lists;have hB:=h.f;have hW:=h.below;replace hB:=hB.setCell 2 (.int .i64 0);replace hW:=below_setCells hW h.low 2 [.int .i64 0]
 exact t28
set_option maxRecDepth 20000 in
theorem JQ {w0:World} (B:Nat) (s:Sp) (ta:Option Addr) (tc:Nat) (la:Option Addr) (lc:Nat) (w:World) (h:BoxAt w0 B s ta tc la lc w):Calls prog 114 #[.pointer (some ⟨B,0,none⟩),.int .i64 2] w (Cleared w0 B (s.clear 2)):=by
 have HF:=hid h;have hf:=h.f;have c3:=hf.cell 3;have f3:=hf.frozen 3;clear hf h;go_enter func114,ntmps114;go_wp2;have h:=HF.o;have hL:=h.lists;have hB:=h.f;have hW:=h.below;replace hB:=hB.setCell 3 (.int .i64 0);replace hW:=below_setCells hW h.low 3 [.int .i64 0]
 exact t28
set_option maxRecDepth 20000 in
theorem KD {w0:World} (B:Nat) (s:Sp) (ta:Option Addr) (tc:Nat) (la:Option Addr) (lc:Nat) (w:World) (h:BoxAt w0 B s ta tc la lc w):Calls prog 114 #[.pointer (some ⟨B,0,none⟩),.int .i64 3] w (Cleared w0 B (s.clear 3)):=by
 have HF:=hid h;have hf:=h.f;have c4:=hf.cell 4;have f4:=hf.frozen 4;clear hf h;go_enter func114,ntmps114;go_wp2;have h:=HF.o;have hL:=h.lists;have hB:=h.f;have hW:=h.below;replace hB:=hB.setCell 4 (.int .i64 0);replace hW:=below_setCells hW h.low 4 [.int .i64 0]
 exact t28
set_option maxRecDepth 20000 in
theorem Kz {w0:World} (B:Nat) (s:Sp) (ta:Option Addr) (tc:Nat) (la:Option Addr) (lc:Nat) (w:World) (h:BoxAt w0 B s ta tc la lc w):Calls prog 114 #[.pointer (some ⟨B,0,none⟩),.int .i64 4] w (Cleared w0 B (s.clear 4)):=by
 have HF:=hid h;have hf:=h.f;have c5:=hf.cell 5;have f5:=hf.frozen 5;clear hf h;go_enter func114,ntmps114;go_wp2;have h:=HF.o;have hL:=h.lists;have hB:=h.f;have hW:=h.below;replace hB:=hB.setCell 5 (.int .i64 0);replace hW:=below_setCells hW h.low 5 [.int .i64 0]
 exact t28
set_option maxRecDepth 20000 in
theorem KE {w0:World} (B:Nat) (s:Sp) (ta:Option Addr) (tc:Nat) (la:Option Addr) (lc:Nat) (w:World) (h:BoxAt w0 B s ta tc la lc w):Calls prog 114 #[.pointer (some ⟨B,0,none⟩),.int .i64 5] w (Cleared w0 B (s.clear 5)):=by
 have HF:=hid h;have hf:=h.f;have c5:=hf.cell 5;have f5:=hf.frozen 5;have c6:=hf.cell 6;have f6:=hf.frozen 6;clear hf h;go_enter func114,ntmps114;go_wp2;have h:=HF.o;have hL:=h.lists;have hB:=h.f;have hW:=h.below;replace hB:=hB.setCell 5 (.int .i64 0);replace hW:=below_setCells hW h.low 5 [.int .i64 0];replace hB:=hB.setCell 6 (.int .i64 0);replace hW:=below_setCells hW h.low 6 [.int .i64 0]
 exact t28
set_option maxRecDepth 20000 in
theorem JO {w0:World} (B:Nat) (s:Sp) (ta:Option Addr) (tc:Nat) (la:Option Addr) (lc:Nat) (w:World) (h:BoxAt w0 B s ta tc la lc w):Calls prog 114 #[.pointer (some ⟨B,0,none⟩),.int .i64 6] w (Cleared w0 B (s.clear 6)):=by
 have HF:=hid h;have hf:=h.f;have c5:=hf.cell 5;have f5:=hf.frozen 5;have c14:=hf.cell 14;have f14:=hf.frozen 14;clear hf h;go_enter func114,ntmps114;go_wp2;have h:=HF.o;have hL:=h.lists;have hB:=h.f;have hW:=h.below;replace hB:=hB.setCell 5 (.int .i64 0);replace hW:=below_setCells hW h.low 5 [.int .i64 0]
 exact t72
set_option maxRecDepth 20000 in
theorem JV {w0:World} (B:Nat) (s:Sp) (ta:Option Addr) (tc:Nat) (la:Option Addr) (lc:Nat) (w:World) (h:BoxAt w0 B s ta tc la lc w):Calls prog 114 #[.pointer (some ⟨B,0,none⟩),.int .i64 7] w (Cleared w0 B (s.clear 7)):=by
 have HF:=hid h;have hf:=h.f;have c14:=hf.cell 14;have f14:=hf.frozen 14;clear hf h;go_enter func114,ntmps114;go_wp2;have h:=HF.o;have hL:=h.lists;have hB:=h.f;have hW:=h.below
 exact t72
set_option maxRecDepth 20000 in
theorem KA {w0:World} (B:Nat) (s:Sp) (ta:Option Addr) (tc:Nat) (la:Option Addr) (lc:Nat) (w:World) (h:BoxAt w0 B s ta tc la lc w):Calls prog 114 #[.pointer (some ⟨B,0,none⟩),.int .i64 8] w (Cleared w0 B (s.clear 8)):=by
 have HF:=hid h;have hf:=h.f;have c7:=hf.cell 7;have f7:=hf.frozen 7;have c8:=hf.cell 8;have f8:=hf.frozen 8;have c9:=hf.cell 9;have f9:=hf.frozen 9;have c10:=hf.cell 10;have f10:=hf.frozen 10;have c11:=hf.cell 11;have f11:=hf.frozen 11;clear hf h;go_enter func114,ntmps114;go_wp2;have h:=HF.o;have hL:=h.lists;have hB:=h.f;have hW:=h.below;replace hB:=hB.setCell 7 (.int .i64 0);replace hW:=below_setCells hW h.low 7 [.int .i64 0];replace hB:=hB.setCell 8 (.int .i64 0);replace hW:=below_setCells hW h.low 8 [.int .i64 0];replace hB:=hB.setCell 9 (.int .i64 0);replace hW:=below_setCells hW h.low 9 [.int .i64 0];replace hB:=hB.setCell 10 (.int .i64 0);replace hW:=below_setCells hW h.low 10 [.int .i64 0];replace hB:=hB.setCell 11 (.int .i64 0);replace hW:=below_setCells hW h.low 11 [.int .i64 0]
 exact t28
set_option maxRecDepth 20000 in
theorem JG {w0:World} (B:Nat) (s:Sp) (ta:Option Addr) (tc:Nat) (la:Option Addr) (lc:Nat) (w:World) (h:BoxAt w0 B s ta tc la lc w):Calls prog 114 #[.pointer (some ⟨B,0,none⟩),.int .i64 9] w (Cleared w0 B (s.clear 9)):=by
 have HF:=hid h;have hf:=h.f;have c7:=hf.cell 7;have f7:=hf.frozen 7;have c8:=hf.cell 8;have f8:=hf.frozen 8;have c9:=hf.cell 9;have f9:=hf.frozen 9;have c10:=hf.cell 10;have f10:=hf.frozen 10;have c11:=hf.cell 11;have f11:=hf.frozen 11;have c12:=hf.cell 12;have f12:=hf.frozen 12;have c13:=hf.cell 13;have f13:=hf.frozen 13;clear hf h;go_enter func114,ntmps114;go_wp2;have h:=HF.o;have hL:=h.lists;have hB:=h.f;have hW:=h.below;replace hB:=hB.setCell 7 (.int .i64 0);replace hW:=below_setCells hW h.low 7 [.int .i64 0];replace hB:=hB.setCell 8 (.int .i64 0);replace hW:=below_setCells hW h.low 8 [.int .i64 0];replace hB:=hB.setCell 9 (.int .i64 0);replace hW:=below_setCells hW h.low 9 [.int .i64 0];replace hB:=hB.setCell 10 (.int .i64 0);replace hW:=below_setCells hW h.low 10 [.int .i64 0];replace hB:=hB.setCell 11 (.int .i64 0);replace hW:=below_setCells hW h.low 11 [.int .i64 0]
 exact t153
set_option maxRecDepth 20000 in
theorem IK {w0:World} (B:Nat) (s:Sp) (ta:Option Addr) (tc:Nat) (la:Option Addr) (lc:Nat) (w:World) (h:BoxAt w0 B s ta tc la lc w):Calls prog 114 #[.pointer (some ⟨B,0,none⟩),.int .i64 10] w (Cleared w0 B (s.clear 10)):=by
 have HF:=hid h;have hf:=h.f;have c12:=hf.cell 12;have f12:=hf.frozen 12;have c13:=hf.cell 13;have f13:=hf.frozen 13;clear hf h;go_enter func114,ntmps114;go_wp2;have h:=HF.o;have hL:=h.lists;have hB:=h.f;have hW:=h.below
 exact t153
set_option maxRecDepth 20000 in
theorem Ip {w0:World} (B:Nat) (s:Sp) (ta:Option Addr) (tc:Nat) (la:Option Addr) (lc:Nat) (w:World) (h:BoxAt w0 B s ta tc la lc w):Calls prog 114 #[.pointer (some ⟨B,0,none⟩),.int .i64 11] w (Cleared w0 B (s.clear 11)):=by
 have HF:=hid h;have hf:=h.f;have c15:=hf.cell 15;have f15:=hf.frozen 15;clear hf h;go_enter func114,ntmps114;go_wp2;have h:=HF.o;have hL:=h.lists;have hB:=h.f;have hW:=h.below;replace hB:=hB.setCell 15 (.slice none 0 0);replace hW:=below_setCells hW h.low 15 [.slice none 0 0];exact tN rfl rfl ⟨rfl,ta,tc,none,0,⟨hB,⟨hL.t,.inl rfl,hL.mt,Nat.zero_le _⟩,h.low,hW⟩⟩
theorem clear_any {w0:World} (B:Nat) (s:Sp) (ta:Option Addr) (tc:Nat) (la:Option Addr) (lc:Nat) (m:Nat) (hm:m<12) (w:World) (h:BoxAt w0 B s ta tc la lc w):Calls prog 114 #[.pointer (some ⟨B,0,none⟩),.int .i64 (m:Int)] w (Cleared w0 B (s.clear m)):=by
 match m,hm with
 | 0,_=>exact JW B s ta tc la lc w h
 | 1,_=>exact JS B s ta tc la lc w h
 | 2,_=>exact JQ B s ta tc la lc w h
 | 3,_=>exact KD B s ta tc la lc w h
 | 4,_=>exact Kz B s ta tc la lc w h
 | 5,_=>exact KE B s ta tc la lc w h
 | 6,_=>exact JO B s ta tc la lc w h
 | 7,_=>exact JV B s ta tc la lc w h
 | 8,_=>exact KA B s ta tc la lc w h
 | 9,_=>exact JG B s ta tc la lc w h
 | 10,_=>exact IK B s ta tc la lc w h
 | 11,_=>exact Ip B s ta tc la lc w h
end step
theorem t86{P:Prop}(h:P:=by
 go_ret;exact ⟨rfl,HB.o.trans (hb2.mono HB.o.size)⟩):P:=h
theorem t69{P:Prop}(h:P:=by
 exact ⟨⟨k+1,by omega,by go_num,hid (HNX.o HX.o),hid (HB.o.trans (hb2.mono HB.o.size))⟩,by simp [intOf];omega⟩):P:=h
namespace schema
open Go.RowKit
open field (Gives aC aj)
theorem hmf (fn:Fn) (first cap:Array Value) (w:World):(Instr.makeFunc fn first cap).run prog w=.ok (.func fn first cap) w:=rfl
theorem BM (p:field.Fd) (x:Int) (b:Nat) (w:World) (hc:w.cell? ⟨b,0,none⟩=some (.int .i64 x)) (hb:b<w.heap.size):
  Calls prog 93 #[zF p,.pointer (some ⟨b,0,none⟩)] w (Gives (.bool (p.id == x)) w):=by
 have HN:=hid (aC w (.cells (zF p) 26));obtain ⟨i,k,lo,hi,m⟩:=p;simp only at HN ⊢;obtain ⟨r,hr⟩:∃r:Bool,Hid ((i == x)=r):=⟨_,rfl⟩;rw [hr.o];unfold Gives;have hne:w.heap.size≠b:=by omega
 go_enter func93,ntmps93;go_wp2;go_ret;exact ⟨bP hr.o,HN.o⟩
theorem wO (a:Option Addr) (cap:Nat) (L:List field.Fd) (x:Int) (g:Nat) (w:World) (h:field.Fds w a L) (hL:L.length<=maxLen) (hc:w.cell? ⟨g,0,none⟩=some (.int .i64 x)) (hg:g<w.heap.size):
  Calls prog 92 #[.slice a L.length cap,.func (.func 93) #[] #[.pointer (some ⟨g,0,none⟩)]] w (Gives (.int .i64 (ai (ids L) x)) w):=by
 have hml:(L.length:Int)<=9223372036854775807:=by unfold maxLen at hL;omega
 have HF:=hid h;have HC:=hid hc;obtain ⟨r,hr⟩:∃r:Int,Hid (ai (ids L) x=r):=⟨_,rfl⟩;rw [hr.o];unfold Gives;clear h hL hc;go_enter func92,ntmps92;go_wp2;go_loopw [8] (fun n wr=>∃k:Nat,k<=L.length/\n=.int .i64 (k:Int)/\Hid (x∉(ids L).take k)/\Hid (Below w.heap.size w wr)) (fun n _=>L.length - (intOf n).toNat);case atStart=>exact ⟨0,Nat.zero_le _,rfl,hid si_,hid (Below.refl _ _)⟩
 case round=>
  obtain ⟨k,hk,rfl,HNO,HB⟩:=hrel;by_cases hlt:k<L.length
  ·obtain ⟨b,off,p,rfl,hbl,hp,c0,c1,c2,c3,c4⟩:=di HF.o HB.o hlt;have i1:(k:Int)<L.length:=by omega
   have HHIT:=hid (fun e=>kE HNO.o ((wH hp).trans (congrArg some e)));have HNX:=hid (fun e=>jo HNO.o (wH hp) e);have cs:=BM p x g wr (by rw [HB.o.cell (p:=⟨g,0,none⟩) hg];exact HC.o) (Nat.lt_of_lt_of_le hg HB.o.size);clear hp;by_cases hx:p.id=x
   ·rw [show (p.id == x)=true from beq_iff_eq.2 hx] at cs;obtain rfl:(k:Int)=r:=by rw [<-hr.o];exact (HHIT.o hx).symm
    clear hx;go_wp2_with (go_at_call 93;((with_reducible refine cs.mono ?_);rintro e w2 ⟨rfl,hb2⟩))
    exact t86
   ·rw [show (p.id == x)=false from beq_eq_false_iff_ne.2 hx] at cs;have HX:=hid hx;clear hx;go_wp2_with (go_at_call 93;((with_reducible refine cs.mono ?_);rintro e w2 ⟨rfl,hb2⟩))
    exact t69
  ·obtain rfl:k=L.length:=by omega
   obtain rfl: -1=r:=by rw [<-hr.o];have:=HNO.o;rw [List.take_of_length_le (by rw [jI];exact Nat.le_refl _)] at this;exact (kG this).symm
   go_wp2;go_ret;exact ⟨rfl,HB.o⟩
theorem rF (i:Int) (a:Option Addr) (cap:Nat) (L:List field.Fd) (x:Int) (w:World) (h:field.Fds w a L) (hL:L.length<=maxLen):
  Calls prog 50 #[zS i a L.length cap,.int .i64 x] w (Gives (.int .i64 (ai (ids L) x)) w):=by
 have h1:=aC w (.cells (zS i a L.length cap) 57);have h2:=aC (w.alloc (.cells (zS i a L.length cap) 57)) (.cells #[.int .i64 x] 3);have cI:=wO a cap L x (w.heap.size+1) ((w.alloc (.cells (zS i a L.length cap) 57)).alloc (.cells #[.int .i64 x] 3)) ((h.below h1).below h2) hL si_ si_;have HB:=hid (h1.trans (h2.mono h1.size));clear h h1 h2;generalize ai (ids L) x=r at *;unfold Gives;go_enter func50,ntmps50;go_wp2_with (go_at_call 92;((with_reducible refine cI.mono ?_);rintro e w2 ⟨rfl,hb2⟩))
 exact t86
end schema
namespace schema
open Go.RowKit
open field (Gives aC aj)
def ng (F:List Fm):List Int:=F.map Fm.id
theorem sO {F:List Fm} {k:Nat} {p:Fm} (h:F[k]?=some p):(ng F)[k]?=some p.id:=by simp [ng,h]
theorem uI (F:List Fm):(ng F).length=F.length:=List.length_map _
theorem iJ (F:List Fm):ng F=(forms F).map (·.1):=by simp [ng,forms,Fm.p,Function.comp_def]
theorem Dx (i:Int) (q:Option Addr) (L:List field.Fd) (qc:Nat) (x:Int) (b:Nat) (w:World) (hc:w.cell? ⟨b,0,none⟩=some (.int .i64 x)) (hb:b<w.heap.size):
  Calls prog 58 #[zS i q L.length qc,.pointer (some ⟨b,0,none⟩)] w (Gives (.bool (i == x)) w):=by
 have HN:=hid (aC w (.cells (zS i q L.length qc) 57));obtain ⟨r,hr⟩:∃r:Bool,Hid ((i == x)=r):=⟨_,rfl⟩;rw [hr.o];unfold Gives;have hne:w.heap.size≠b:=by omega
 go_enter func58,ntmps58;go_wp2;go_ret;exact ⟨bP hr.o,HN.o⟩
theorem qR (a:Option Addr) (cap:Nat) (L:List Fm) (x:Int) (g:Nat) (w:World) (h:FmL w a L) (hL:L.length<=maxLen) (hc:w.cell? ⟨g,0,none⟩=some (.int .i64 x)) (hg:g<w.heap.size):
  Calls prog 57 #[.slice a L.length cap,.func (.func 58) #[] #[.pointer (some ⟨g,0,none⟩)]] w (Gives (.int .i64 (ai (ng L) x)) w):=by
 have hml:(L.length:Int)<=9223372036854775807:=by unfold maxLen at hL;omega
 have HF:=hid h;have HC:=hid hc;obtain ⟨r,hr⟩:∃r:Int,Hid (ai (ng L) x=r):=⟨_,rfl⟩;rw [hr.o];unfold Gives;clear h hL hc;go_enter func57,ntmps57;go_wp2;go_loopw [8] (fun n wr=>∃k:Nat,k<=L.length/\n=.int .i64 (k:Int)/\Hid (x∉(ng L).take k)/\Hid (Below w.heap.size w wr)) (fun n _=>L.length - (intOf n).toNat);case atStart=>exact ⟨0,Nat.zero_le _,rfl,hid si_,hid (Below.refl _ _)⟩
 case round=>
  obtain ⟨k,hk,rfl,HNO,HB⟩:=hrel;by_cases hlt:k<L.length
  ·obtain ⟨b,off,p,rfl,hbl,hp,c0,c1,_,_⟩:=dQ HF.o HB.o hlt;have i1:(k:Int)<L.length:=by omega
   have HHIT:=hid (fun e=>kE HNO.o ((sO hp).trans (congrArg some e)));have HNX:=hid (fun e=>jo HNO.o (sO hp) e);have cs:=Dx p.id p.f p.fL p.fCap x g wr (by rw [HB.o.cell (p:=⟨g,0,none⟩) hg];exact HC.o) (Nat.lt_of_lt_of_le hg HB.o.size);clear hp;by_cases hx:p.id=x
   ·rw [show (p.id == x)=true from beq_iff_eq.2 hx] at cs;obtain rfl:(k:Int)=r:=by rw [<-hr.o];exact (HHIT.o hx).symm
    clear hx;go_wp2_with (go_at_call 58;((with_reducible refine cs.mono ?_);rintro e w2 ⟨rfl,hb2⟩))
    exact t86
   ·rw [show (p.id == x)=false from beq_eq_false_iff_ne.2 hx] at cs;have HX:=hid hx;clear hx;go_wp2_with (go_at_call 58;((with_reducible refine cs.mono ?_);rintro e w2 ⟨rfl,hb2⟩))
    exact t69
  ·obtain rfl:k=L.length:=by omega
   obtain rfl: -1=r:=by rw [<-hr.o];have:=HNO.o;rw [List.take_of_length_le (by rw [uI];exact Nat.le_refl _)] at this;exact (kG this).symm
   go_wp2;go_ret;exact ⟨rfl,HB.o⟩
theorem Ea (W:World) (a:Option Addr) (n c:Nat):(binOp .eql 30 (.slice a n c) (.slice none 0 0)).run prog W=.ok (.bool a.isNone) W:=by
 have h:=run_equal_slice_nil (P:=prog) W 30 26 a n c underlying30;simp [binOp,h,Result.andThen]
theorem yO {w:World} {g:Nat} {t:TypeId} {x y:Value} {a:Option Addr} {L:List field.Fd} (h:field.Fds w a L) (hB:Block w g t [x,y]) (o:Nat) (u:Value):field.Fds (w.setCell ⟨g,o,none⟩ u) a L:=by
 by_cases h0:L=[]
 ·exact .inl h0
 ·rcases h with h | ⟨b,off,ha,hlt,hc⟩
  ·exact absurd h h0
  ·have hne:b≠g:=by
    rintro rfl;obtain ⟨p,hp⟩:∃p,L[0]?=some p:=by
     cases L with
     | nil=>exact absurd rfl h0
     | cons p L=>exact ⟨p,rfl⟩
    have h4:=(hc 0 p hp).2.2.2.2;rw [hB.cell] at h4;have:=(List.getElem?_eq_some_iff.1 h4).1;simp at this;omega
   refine .inr ⟨b,off,ha,Nat.lt_of_lt_of_le hlt si_,fun i p hp=> ?_⟩
   have hs:∀j,(w.setCell ⟨g,o,none⟩ u).cell? ⟨b,j,none⟩=w.cell? ⟨b,j,none⟩:=fun j=>World.cell?_setCell_other _ _ _ _ (by intro h;cases h;exact hne rfl)
   rw [hs,hs,hs,hs,hs]
   exact hc i p hp
theorem au {fn:Func} {p u:Tmp} {ty:TypeId} {tmps:Array Value} {P:Program} {w:World} {b o:Nat} {cs:List Value} {d:TypeDesc} (h:fn.results=#[.cell p ty,.tmp u])
  (hp:tmps.getD p undef=.pointer (some ⟨b,o,none⟩)) (hc:w.rangeAt b o cs) (hu:P.underlying ty=some d) (hd:d.isRow=true) (hi:(P.info? ty).map (·.size)=some cs.length):
  (results fn tmps).run P w=.ok (.tuple #[.agg cs.toArray,tmps.getD u undef]) w:=by
 exact t63
def W3 (v:Int) (a:Option Addr) (F:List Fm) (c:Nat) (x:Int) (w:World):World:=((w.alloc (.cells (zS v a F.length c) 24)).alloc (.cells #[.int .i64 x] 3)).alloc (.cells #[.int .i64 0,.slice none 0 0] 57)
theorem W3.all (v:Int) (a:Option Addr) (F:List Fm) (c:Nat) (x:Int) (w w':World) (hb:Below (W3 v a F c x w).heap.size (W3 v a F c x w) w'):w'.cell? ⟨w.heap.size,0,none⟩=some (.int .i64 v)/\w'.cell? ⟨w.heap.size,1,none⟩=some (.slice a F.length c)/\w'.cell? ⟨w.heap.size+1,0,none⟩=some (.int .i64 x)/\Block w' (w.heap.size+2) 57 [.int .i64 0,.slice none 0 0]/\Below w.heap.size w w':=by
 have h1:Below ((w.alloc (.cells (zS v a F.length c) 24)).alloc (.cells #[.int .i64 x] 3)).heap.size ((w.alloc (.cells (zS v a F.length c) 24)).alloc (.cells #[.int .i64 x] 3)) w':=aY hb;obtain ⟨c0,c1,h2⟩:=boxS v a F c w w' (aY h1);refine ⟨c0,c1, ?_, ?_,h2⟩
 ·have hB:=((Block.new (w.alloc (.cells (zS v a F.length c) 24)) 3 [.int .i64 x])).later h1;have:=hB.cell 0;simpa using this
 ·have hB:=(Block.new ((w.alloc (.cells (zS v a F.length c) 24)).alloc (.cells #[.int .i64 x] 3)) 57 [.int .i64 0,.slice none 0 0]).later hb;simpa using hB
theorem W3.forms (v:Int) (a:Option Addr) (F:List Fm) (c:Nat) (x:Int) (w:World):Below w.heap.size w (W3 v a F c x w):=(W3.all v a F c x w _ (Below.refl _ _)).2.2.2.2
theorem Jg (v:Int) (a:Option Addr) (c:Nat) (F:List Fm) (x:Int) (w:World) (h:FmL w a F) (hF:F.length<=maxLen) (hx:x∉ng F):
  Calls prog 28 #[zS v a F.length c,.int .i64 x] w (Gives (.tuple #[.agg #[.int .i64 0,.slice none 0 0],.bool false]) w):=by
 have HX:=hid (W3.all v a F c x w);have h0:=W3.all v a F c x w _ (Below.refl _ _);have hsz:(W3 v a F c x w).heap.size=w.heap.size+3:=by simp [W3]
 have cI:=qR a c F x (w.heap.size+1) (W3 v a F c x w) (h.below (W3.forms v a F c x w)) hF h0.2.2.1 om_;rw [kG hx] at cI;clear h hx h0 hsz;unfold W3 at HX cI;unfold Gives;go_enter func28,ntmps28;go_wp2_with (go_at_call 57;((with_reducible refine cI.mono ?_);rintro e w2 ⟨rfl,hb2⟩;obtain ⟨z0,z1,z2,hblk,hbo⟩:=HX.o _ hb2;have r0:=hblk.cell 0;have r1:=hblk.cell 1;have f0:=hblk.frozen 0;have f1:=hblk.frozen 1));have hB:=(hblk.setCell 0 (.int .i64 0)).setCell 1 (.slice none 0 0);refine bodyPost_ret (au (b:=w.heap.size+2) (o:=0) rfl rfl hB.whole underlying57 rfl (vN _ _)) rfl ?_;exact ⟨rfl,below_setCells (below_setCells hbo om_ 0 [.int .i64 0]) om_ 1 [.slice none 0 0]⟩
end schema
end Go.Proofs.YtdnegbkhndekpaaGreat
