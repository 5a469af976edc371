/- Contracts and lemmas that claims of this seat share: SchemaRefIx, StepClear, FieldsSame. Each says its own conditions. -/
import Derived.Test.YtogkgbnpodojjaaGreatCmWord
import Derived.Laws.StructEq
import Derived.Test.YtogkgbnpodojjaaGreatCmF
import Derived.Test.YtogkgbnpodojjaaGreatCmJ
import Derived.Test.YtogkgbnpodojjaaGreatCmL
set_option linter.unusedVariables false
namespace Go.Proofs.YtogkgbnpodojjaaGreat
open Go.Proofs.Tryz
namespace schema
open Go.RowKit
open field (Gives ak aj)
end schema
theorem t125{P:Prop}(h:P:=by
 replace hB:=hB.setCell 12 (.int .i64 0);replace hW:=below_setCells hW h.low 12 [.int .i64 0];replace hB:=hB.setCell 13 (.string ⟨#[]⟩);replace hW:=below_setCells hW h.low 13 [.string ⟨#[]⟩]
 exact t21):P:=h
theorem t57{P:Prop}(h:P:=by
 replace hB:=hB.setCell 14 (.slice none 0 0);replace hW:=below_setCells hW h.low 14 [.slice none 0 0];exact qY rfl rfl ⟨rfl,none,0,la,lc,⟨hB,⟨.inl rfl,hL.l,Nat.zero_le _,hL.ml⟩,h.low,hW⟩⟩):P:=h
theorem t21{P:Prop}(h:P:=by
 exact qY rfl rfl ⟨rfl,ta,tc,la,lc,⟨hB,⟨hL.t,hL.l,hL.mt,hL.ml⟩,h.low,hW⟩⟩):P:=h
namespace step
open Go.RowKit
open field (Gives ak aj)
open schema (aP)
open pen (qY)
structure BoxAt (w0:World) (B:Nat) (s:Sp) (ta:Option Addr) (tc:Nat) (la:Option Addr) (lc:Nat) (w:World):Prop where
 f:Block w B 57 (zP s ta tc la lc)
 lists:Lists w0 s ta la
 low:w0.heap.size<=B
 below:Below w0.heap.size w0 w
theorem BoxAt.later {w0 w w':World} {B:Nat} {s:Sp} {ta la:Option Addr} {tc lc:Nat} (h:BoxAt w0 B s ta tc la lc w) (hb:Below w.heap.size w w'):BoxAt w0 B s ta tc la lc w':=
 ⟨h.f.later hb,h.lists,h.low,h.below.trans (hb.mono h.below.size)⟩
theorem BoxAt.now {w0 w:World} {B:Nat} {s:Sp} {ta la:Option Addr} {tc lc:Nat} (h:BoxAt w0 B s ta tc la lc w):Lists w s ta la:=h.lists.below h.below
def Cleared (w0:World) (B:Nat) (s:Sp) (e:Ending) (w':World):Prop:=e=.returned (.tuple #[])/\∃ta tc la lc,BoxAt w0 B s ta tc la lc w'
set_option maxRecDepth 20000 in
theorem JP {w0:World} (B:Nat) (s:Sp) (ta:Option Addr) (tc:Nat) (la:Option Addr) (lc:Nat) (w:World) (h:BoxAt w0 B s ta tc la lc w):Calls prog 187 #[.pointer (some ⟨B,0,none⟩),.int .i64 0] w (Cleared w0 B (s.clear 0)):=by
 have HF:=hid h;have hf:=h.f;have c1:=hf.cell 1;have f1:=hf.frozen 1;clear hf h;go_enter func187,ntmps187;go_wp2;have h:=HF.o;have hL:=h.lists;have hB:=h.f;have hW:=h.below;replace hB:=hB.setCell 1 (.int .i64 0);replace hW:=below_setCells hW h.low 1 [.int .i64 0]
 exact t21
set_option maxRecDepth 20000 in
theorem JQ {w0:World} (B:Nat) (s:Sp) (ta:Option Addr) (tc:Nat) (la:Option Addr) (lc:Nat) (w:World) (h:BoxAt w0 B s ta tc la lc w):Calls prog 187 #[.pointer (some ⟨B,0,none⟩),.int .i64 1] w (Cleared w0 B (s.clear 1)):=by
 have HF:=hid h;have hf:=h.f;have c2:=hf.cell 2;have f2:=hf.frozen 2;clear hf h;go_enter func187,ntmps187;go_wp2;have h:=HF.o;have hL:=h.lists;have hB:=h.f;have hW:=h.below;replace hB:=hB.setCell 2 (.int .i64 0);replace hW:=below_setCells hW h.low 2 [.int .i64 0]
 exact t21
set_option maxRecDepth 20000 in
theorem JR {w0:World} (B:Nat) (s:Sp) (ta:Option Addr) (tc:Nat) (la:Option Addr) (lc:Nat) (w:World) (h:BoxAt w0 B s ta tc la lc w):Calls prog 187 #[.pointer (some ⟨B,0,none⟩),.int .i64 2] w (Cleared w0 B (s.clear 2)):=by
 have HF:=hid h;have hf:=h.f;have c3:=hf.cell 3;have f3:=hf.frozen 3;clear hf h;go_enter func187,ntmps187;go_wp2;have h:=HF.o;have hL:=h.lists;have hB:=h.f;have hW:=h.below;replace hB:=hB.setCell 3 (.int .i64 0);replace hW:=below_setCells hW h.low 3 [.int .i64 0]
 exact t21
set_option maxRecDepth 20000 in
theorem JS {w0:World} (B:Nat) (s:Sp) (ta:Option Addr) (tc:Nat) (la:Option Addr) (lc:Nat) (w:World) (h:BoxAt w0 B s ta tc la lc w):Calls prog 187 #[.pointer (some ⟨B,0,none⟩),.int .i64 3] w (Cleared w0 B (s.clear 3)):=by
 have HF:=hid h;have hf:=h.f;have c4:=hf.cell 4;have f4:=hf.frozen 4;clear hf h;go_enter func187,ntmps187;go_wp2;have h:=HF.o;have hL:=h.lists;have hB:=h.f;have hW:=h.below;replace hB:=hB.setCell 4 (.int .i64 0);replace hW:=below_setCells hW h.low 4 [.int .i64 0]
 exact t21
set_option maxRecDepth 20000 in
theorem JU {w0:World} (B:Nat) (s:Sp) (ta:Option Addr) (tc:Nat) (la:Option Addr) (lc:Nat) (w:World) (h:BoxAt w0 B s ta tc la lc w):Calls prog 187 #[.pointer (some ⟨B,0,none⟩),.int .i64 4] w (Cleared w0 B (s.clear 4)):=by
 have HF:=hid h;have hf:=h.f;have c5:=hf.cell 5;have f5:=hf.frozen 5;clear hf h;go_enter func187,ntmps187;go_wp2;have h:=HF.o;have hL:=h.lists;have hB:=h.f;have hW:=h.below;replace hB:=hB.setCell 5 (.int .i64 0);replace hW:=below_setCells hW h.low 5 [.int .i64 0]
 exact t21
set_option maxRecDepth 20000 in
theorem JV {w0:World} (B:Nat) (s:Sp) (ta:Option Addr) (tc:Nat) (la:Option Addr) (lc:Nat) (w:World) (h:BoxAt w0 B s ta tc la lc w):Calls prog 187 #[.pointer (some ⟨B,0,none⟩),.int .i64 5] w (Cleared w0 B (s.clear 5)):=by
 have HF:=hid h;have hf:=h.f;have c5:=hf.cell 5;have f5:=hf.frozen 5;have c6:=hf.cell 6;have f6:=hf.frozen 6;clear hf h;go_enter func187,ntmps187;go_wp2;have h:=HF.o;have hL:=h.lists;have hB:=h.f;have hW:=h.below;replace hB:=hB.setCell 5 (.int .i64 0);replace hW:=below_setCells hW h.low 5 [.int .i64 0];replace hB:=hB.setCell 6 (.int .i64 0);replace hW:=below_setCells hW h.low 6 [.int .i64 0]
 exact t21
set_option maxRecDepth 20000 in
theorem JW {w0:World} (B:Nat) (s:Sp) (ta:Option Addr) (tc:Nat) (la:Option Addr) (lc:Nat) (w:World) (h:BoxAt w0 B s ta tc la lc w):Calls prog 187 #[.pointer (some ⟨B,0,none⟩),.int .i64 6] w (Cleared w0 B (s.clear 6)):=by
 have HF:=hid h;have hf:=h.f;have c5:=hf.cell 5;have f5:=hf.frozen 5;have c14:=hf.cell 14;have f14:=hf.frozen 14;clear hf h;go_enter func187,ntmps187;go_wp2;have h:=HF.o;have hL:=h.lists;have hB:=h.f;have hW:=h.below;replace hB:=hB.setCell 5 (.int .i64 0);replace hW:=below_setCells hW h.low 5 [.int .i64 0]
 exact t57
set_option maxRecDepth 20000 in
theorem JX {w0:World} (B:Nat) (s:Sp) (ta:Option Addr) (tc:Nat) (la:Option Addr) (lc:Nat) (w:World) (h:BoxAt w0 B s ta tc la lc w):Calls prog 187 #[.pointer (some ⟨B,0,none⟩),.int .i64 7] w (Cleared w0 B (s.clear 7)):=by
 have HF:=hid h;have hf:=h.f;have c14:=hf.cell 14;have f14:=hf.frozen 14;clear hf h;go_enter func187,ntmps187;go_wp2;have h:=HF.o;have hL:=h.lists;have hB:=h.f;have hW:=h.below
 exact t57
set_option maxRecDepth 20000 in
theorem JY {w0:World} (B:Nat) (s:Sp) (ta:Option Addr) (tc:Nat) (la:Option Addr) (lc:Nat) (w:World) (h:BoxAt w0 B s ta tc la lc w):Calls prog 187 #[.pointer (some ⟨B,0,none⟩),.int .i64 8] w (Cleared w0 B (s.clear 8)):=by
 have HF:=hid h;have hf:=h.f;have c7:=hf.cell 7;have f7:=hf.frozen 7;have c8:=hf.cell 8;have f8:=hf.frozen 8;have c9:=hf.cell 9;have f9:=hf.frozen 9;have c10:=hf.cell 10;have f10:=hf.frozen 10;have c11:=hf.cell 11;have f11:=hf.frozen 11;clear hf h;go_enter func187,ntmps187;go_wp2;have h:=HF.o;have hL:=h.lists;have hB:=h.f;have hW:=h.below;replace hB:=hB.setCell 7 (.int .i64 0);replace hW:=below_setCells hW h.low 7 [.int .i64 0];replace hB:=hB.setCell 8 (.int .i64 0);replace hW:=below_setCells hW h.low 8 [.int .i64 0];replace hB:=hB.setCell 9 (.int .i64 0);replace hW:=below_setCells hW h.low 9 [.int .i64 0];replace hB:=hB.setCell 10 (.int .i64 0);replace hW:=below_setCells hW h.low 10 [.int .i64 0];replace hB:=hB.setCell 11 (.int .i64 0);replace hW:=below_setCells hW h.low 11 [.int .i64 0]
 exact t21
set_option maxRecDepth 20000 in
theorem JZ {w0:World} (B:Nat) (s:Sp) (ta:Option Addr) (tc:Nat) (la:Option Addr) (lc:Nat) (w:World) (h:BoxAt w0 B s ta tc la lc w):Calls prog 187 #[.pointer (some ⟨B,0,none⟩),.int .i64 9] w (Cleared w0 B (s.clear 9)):=by
 have HF:=hid h;have hf:=h.f;have c7:=hf.cell 7;have f7:=hf.frozen 7;have c8:=hf.cell 8;have f8:=hf.frozen 8;have c9:=hf.cell 9;have f9:=hf.frozen 9;have c10:=hf.cell 10;have f10:=hf.frozen 10;have c11:=hf.cell 11;have f11:=hf.frozen 11;have c12:=hf.cell 12;have f12:=hf.frozen 12;have c13:=hf.cell 13;have f13:=hf.frozen 13;clear hf h;go_enter func187,ntmps187;go_wp2;have h:=HF.o;have hL:=h.lists;have hB:=h.f;have hW:=h.below;replace hB:=hB.setCell 7 (.int .i64 0);replace hW:=below_setCells hW h.low 7 [.int .i64 0];replace hB:=hB.setCell 8 (.int .i64 0);replace hW:=below_setCells hW h.low 8 [.int .i64 0];replace hB:=hB.setCell 9 (.int .i64 0);replace hW:=below_setCells hW h.low 9 [.int .i64 0];replace hB:=hB.setCell 10 (.int .i64 0);replace hW:=below_setCells hW h.low 10 [.int .i64 0];replace hB:=hB.setCell 11 (.int .i64 0);replace hW:=below_setCells hW h.low 11 [.int .i64 0]
 exact t125
set_option maxRecDepth 20000 in
theorem Iw {w0:World} (B:Nat) (s:Sp) (ta:Option Addr) (tc:Nat) (la:Option Addr) (lc:Nat) (w:World) (h:BoxAt w0 B s ta tc la lc w):Calls prog 187 #[.pointer (some ⟨B,0,none⟩),.int .i64 10] w (Cleared w0 B (s.clear 10)):=by
 have HF:=hid h;have hf:=h.f;have c12:=hf.cell 12;have f12:=hf.frozen 12;have c13:=hf.cell 13;have f13:=hf.frozen 13;clear hf h;go_enter func187,ntmps187;go_wp2;have h:=HF.o;have hL:=h.lists;have hB:=h.f;have hW:=h.below
 exact t125
set_option maxRecDepth 20000 in
theorem Iy {w0:World} (B:Nat) (s:Sp) (ta:Option Addr) (tc:Nat) (la:Option Addr) (lc:Nat) (w:World) (h:BoxAt w0 B s ta tc la lc w):Calls prog 187 #[.pointer (some ⟨B,0,none⟩),.int .i64 11] w (Cleared w0 B (s.clear 11)):=by
 have HF:=hid h;have hf:=h.f;have c15:=hf.cell 15;have f15:=hf.frozen 15;clear hf h;go_enter func187,ntmps187;go_wp2;have h:=HF.o;have hL:=h.lists;have hB:=h.f;have hW:=h.below;replace hB:=hB.setCell 15 (.slice none 0 0);replace hW:=below_setCells hW h.low 15 [.slice none 0 0];exact qY rfl rfl ⟨rfl,ta,tc,none,0,⟨hB,⟨hL.t,.inl rfl,hL.mt,Nat.zero_le _⟩,h.low,hW⟩⟩
theorem clear_any {w0:World} (B:Nat) (s:Sp) (ta:Option Addr) (tc:Nat) (la:Option Addr) (lc:Nat) (m:Nat) (hm:m<12) (w:World) (h:BoxAt w0 B s ta tc la lc w):Calls prog 187 #[.pointer (some ⟨B,0,none⟩),.int .i64 (m:Int)] w (Cleared w0 B (s.clear m)):=by
 match m,hm with
 | 0,_=>exact JP B s ta tc la lc w h
 | 1,_=>exact JQ B s ta tc la lc w h
 | 2,_=>exact JR B s ta tc la lc w h
 | 3,_=>exact JS B s ta tc la lc w h
 | 4,_=>exact JU B s ta tc la lc w h
 | 5,_=>exact JV B s ta tc la lc w h
 | 6,_=>exact JW B s ta tc la lc w h
 | 7,_=>exact JX B s ta tc la lc w h
 | 8,_=>exact JY B s ta tc la lc w h
 | 9,_=>exact JZ B s ta tc la lc w h
 | 10,_=>exact Iw B s ta tc la lc w h
 | 11,_=>exact Iy B s ta tc la lc w h
end step
theorem t104{P:Prop}(h:P:=by
 clear hpq;go_wp2;go_quiet (fail);go_wp2;go_ret;exact ⟨rfl,below_drewN HB.o _⟩):P:=h
theorem t70{P:Prop}(h:P:=by
 clear hpq;go_wp2;go_quiet (fail);go_wp2;exact ⟨⟨k+1,by omega,by go_num,hid (HS.o.2 ⟨HEQ.o,HPQ.o⟩),hid (below_drewN HB.o _)⟩,by simp [intOf];omega⟩):P:=h
theorem t46{P:Prop}(h:P:=by
 obtain rfl:k=L.length:=by omega
 obtain rfl:true=r:=by
  rw [<-hr.o];have:=HEQ.o;rw [List.take_of_length_le (Nat.le_refl _),List.take_of_length_le (by rw [HLEN.o];exact Nat.le_refl _)] at this;exact (decide_eq_true this).symm
 go_wp2;go_ret;exact ⟨rfl,HB.o⟩):P:=h
theorem t40{P:Prop}(h:P:=by
 go_simp;obtain ⟨i,k,lo,hi,m⟩:=p;obtain ⟨i',k',lo',hi',m'⟩:=q;simp only [field.Fd.mk.injEq];by_cases h1:i=i'
 ·by_cases h2:k=k'
  ·by_cases h3:lo=lo'
   ·by_cases h4:hi=hi'
    ·by_cases h5:m=m' <;> simp [h1,h2,h3,h4,h5]
    ·simp [h1,h2,h3,h4]
   ·simp [h1,h2,h3]
  ·simp [h1,h2]
 ·simp [h1]):P:=h
namespace schema
open Go.RowKit
open field (Gives ak aj)
theorem BZ (p q:field.Fd) (w:World):(binOp .neq 52 (zF p) (zF q)).run prog w=.ok (.bool (!decide (p=q))) w:=by
 rw [run_neq_struct,show (10000:Nat)=9999+1 from rfl,run_equalIn_struct w 9999 52 _ _ kr_ Tryz.stoodInHeld52]
 exact t40
theorem jE {α:Type} {L M:List α} {k:Nat} {p q:α} (hp:L[k]?=some p) (hq:M[k]?=some q):L.take (k+1)=M.take (k+1)↔L.take k=M.take k/\p=q:=by
 rw [aH hp,aH hq];have h1:=(List.getElem?_eq_some_iff.1 hp).1;have h2:=(List.getElem?_eq_some_iff.1 hq).1;constructor
 ·intro h;have:=List.append_inj' h rfl;exact ⟨this.1,by simpa using this.2⟩
 ·rintro ⟨h,rfl⟩;rw [h]
theorem oQ (a:Option Addr) (ca:Nat) (L:List field.Fd) (b:Option Addr) (cb:Nat) (M:List field.Fd) (w:World) (h:field.Fds w a L) (h':field.Fds w b M) (hL:L.length<=maxLen) (hM:M.length<=maxLen):
  Calls prog 219 #[.slice a L.length ca,.slice b M.length cb] w (Gives (.bool (decide (L=M))) w):=by
 have hml:(L.length:Int)<=9223372036854775807:=by unfold maxLen at hL;omega
 have hmm:(M.length:Int)<=9223372036854775807:=by unfold maxLen at hM;omega
 have HF:=hid h;have HG:=hid h';obtain ⟨r,hr⟩:∃r:Bool,Hid (decide (L=M)=r):=⟨_,rfl⟩;rw [hr.o];unfold Gives;clear h h' hL hM;by_cases hlen:L.length=M.length
 ·have HLEN:=hid hlen;rw [<-hlen];clear hlen hmm;go_enter func219,ntmps219;go_wp2;go_loopw [13] (fun n wr=>∃k:Nat,k<=L.length/\n=.int .i64 (k:Int)/\Hid (L.take k=M.take k)/\Hid (Below w.heap.size w wr)) (fun n _=>L.length - (intOf n).toNat);case atStart=>exact ⟨0,Nat.zero_le _,rfl,hid rfl,hid (Below.refl _ _)⟩
  case round=>
   obtain ⟨k,hk,rfl,HEQ,HB⟩:=hrel;by_cases hlt:k<L.length
   ·obtain ⟨g,off,p,rfl,hbl,hp,c0,c1,c2,c3,c4⟩:=eP HF.o HB.o hlt;obtain ⟨g',off',q,rfl,hbl',hq,d0,d1,d2,d3,d4⟩:=eP HG.o HB.o (k:=k) (by rw [<-HLEN.o];exact hlt);have i1:(k:Int)<L.length:=by omega
    have HS:=hid (jE hp hq);have hne:=fun W=>BZ p q W
    have HNE:=hid (fun (hpq:¬p=q)=>show ¬L=M from fun e=>by rw [e] at hp;exact hpq (Option.some.inj (hp.symm.trans hq)));clear hp hq;by_cases hpq:p=q
    ·rw [decide_eq_true hpq] at hne;have HPQ:=hid hpq
     exact t70
    ·rw [decide_eq_false hpq] at hne;obtain rfl:false=r:=by rw [<-hr.o];exact (decide_eq_false (HNE.o hpq)).symm
     exact t104
   ·exact t46
 ·obtain rfl:false=r:=by rw [<-hr.o];exact (decide_eq_false (fun e=>hlen (by rw [e]))).symm
  have hd:((L.length:Int) == (M.length:Int))=false:=by rw [beq_eq_false_iff_ne];omega
  clear hlen;go_enter func219,ntmps219;go_wp2;go_ret;exact ⟨rfl,Below.refl _ _⟩
end schema
end Go.Proofs.YtogkgbnpodojjaaGreat
