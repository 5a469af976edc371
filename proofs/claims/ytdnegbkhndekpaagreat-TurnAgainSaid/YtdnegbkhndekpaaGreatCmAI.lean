/- Contracts and lemmas that claims of this seat share: TurnGreat, TurnLawKit. Each says its own conditions. -/
import Derived.Test.YtdnegbkhndekpaaGreatCmWord
import Derived.Test.YtdnegbkhndekpaaGreatCmC
import Derived.Test.YtdnegbkhndekpaaGreatCmN
import Derived.Test.YtdnegbkhndekpaaGreatCmZ
import Derived.Test.YtdnegbkhndekpaaGreatCmV
import Derived.Test.YtdnegbkhndekpaaGreatCmAH
set_option linter.unusedVariables false
namespace Go.Proofs.YtdnegbkhndekpaaGreat
open Go.Proofs.Tryz
namespace turn
open Go Go.RowKit schema
open field (Gives aC Va)
open step (Sp Lists St StL Sts sps kz)
def iM (F:List schema.Form) (s:Sp) (V:List Va):Bool:=mY F || (decide (kz [s]) || decide (40<V.length))
theorem tX {w:World} {a:Option Addr} {F:List Fm} {s:Sp} {V:List Va} (h:FmL w a F) (hg:iM (forms F) s V=false):typing.Small w F/\s.l.length<=40/\V.length<=40:=by
 unfold iM at hg;simp only [Bool.or_eq_false_iff,decide_eq_false_iff_not] at hg;obtain ⟨h1,h2⟩:=typing.Ig (L:=[⟨s,none,0,none,0⟩]) h (by rw [hg.1];simpa [sps] using hg.2.1);exact ⟨h1,h2 ⟨s,none,0,none,0⟩ si_,by have:=hg.2.2;omega⟩
set_option maxRecDepth 20000 in
theorem gu (v:Int) (sa:Option Addr) (sc:Nat) (F:List Fm) (s:Sp) (ta:Option Addr) (tc:Nat) (la:Option Addr) (lc:Nat) (j:Int) (b:Option Addr) (d:Nat) (V:List Va) (w:World) (h:FmL w sa F) (hF:F.length<=maxLen) (hl:Lists w s ta la) (hV:V.length<=maxLen):
  Calls prog 6 #[.agg #[.int .i64 v,.slice sa F.length sc,.int .i64 s.op,.int .i64 s.fm,.int .i64 s.fd,.int .i64 s.pl,.int .i64 s.tt,.int .i64 s.a,.int .i64 s.b,.int .i64 s.f.id,.int .i64 s.f.kind,.int .i64 s.f.lo,.int .i64 s.f.hi,.int .i64 s.f.most,.int .i64 s.v.n,.string s.v.s,.slice ta s.t.length tc,.slice la s.l.length lc,.int .i64 j,.slice b V.length d]] w (Gives (.bool (iM (forms F) s V)) w):=by
 have hml:(F.length:Int)<=9223372036854775807:=by unfold maxLen at hF;omega
 have hmv:(V.length:Int)<=9223372036854775807:=by unfold maxLen at hV;omega
 obtain ⟨W0,hW,bW,hsz,hBX⟩:=aU w [(37,[.int .i64 v,.slice sa F.length sc,.int .i64 s.op,.int .i64 s.fm,.int .i64 s.fd,.int .i64 s.pl,.int .i64 s.tt,.int .i64 s.a,.int .i64 s.b,.int .i64 s.f.id,.int .i64 s.f.kind,.int .i64 s.f.lo,.int .i64 s.f.hi,.int .i64 s.f.most,.int .i64 s.v.n,.string s.v.s,.slice ta s.t.length tc,.slice la s.l.length lc,.int .i64 j,.slice b V.length d])];simp only [boxes] at hW;have HF:=hid (h.below bW);have HL:=hid (aF F);have hl0:=hl.below bW;have bR:=aC W0 (.cells (zP s ta tc la lc) 32);have hSL:StL (W0.alloc (.cells (zP s ta tc la lc) 32)) (some ⟨W0.heap.size,0,none⟩) [⟨s,ta,tc,la,lc⟩]:=⟨typing.GK ⟨s,ta,tc,la,lc⟩ W0 32,fun p hp=>by rw [List.mem_singleton.1 hp];exact hl0.below bR⟩;have cG:Calls prog 17 #[.slice (some ⟨W0.heap.size,0,none⟩) 1 1] (W0.alloc (.cells (zP s ta tc la lc) 32)) (Gives (.bool (decide (kz [s]))) (W0.alloc (.cells (zP s ta tc la lc) 32))):=step.gu (some ⟨W0.heap.size,0,none⟩) 1 [⟨s,ta,tc,la,lc⟩] _ hSL (by unfold maxLen;simp);obtain ⟨g,hg⟩:∃g:Bool,Hid (decide (kz [s])=g):=⟨_,hid rfl⟩;rw [hg.o] at cG;obtain ⟨z,hz⟩:∃z:Bool,Hid (decide (40<V.length)=z):=⟨_,hid rfl⟩;unfold iM;rw [hg.o,hz.o];obtain ⟨r,hr⟩:∃r:Bool,Hid ((mY (forms F) || (g || z))=r):=⟨_,hid rfl⟩;rw [hr.o];have HBR:=hid bR;have HBW:=hid bW;unfold Gives at cG ⊢;clear h hF hl hV hl0 hSL bR bW;go_enter func6,ntmps6;go_wp2;rw [hW.o];go_loopw [3] (fun n wr=>∃k:Nat,k<=F.length/\k<=41/\n=.int .i64 (k:Int)/\W0=wr/\Hid (((forms F).take k).any big=false)) (fun n _=>41 - (intOf n).toNat);case atStart=>exact ⟨0,Nat.zero_le _,Nat.zero_le _,rfl,rfl,hid si_⟩
 case round=>
  obtain ⟨k,hk,hk2,rfl,rfl,hno⟩:=hrel;obtain ⟨⟨k0,_⟩,hbo⟩:=hBX.o _ (Below.refl _ _);have HBO:=hid hbo;have z1:=k0.cell 1;have z19:=k0.cell 19;clear hbo k0;by_cases h1:k<F.length
  ·by_cases h2:k<41
   ·obtain ⟨b,off,p,rfl,hbl,hp,c0,c1,_,hfl⟩:=dQ HF.o (Below.refl _ _) h1;have i1:(k:Int)<F.length:=by omega
    have i2:(k:Int)<41:=by omega
    have hpl:(p.fL.length:Int)<=9223372036854775807:=by unfold maxLen at hfl;omega
    have hstep:((forms F).take (k+1)).any big=(((forms F).take k).any big || big p.p):=by
     rw [aT (dR hp)];simp
    rw [hno.o,Bool.false_or] at hstep;have HST:=hid hstep;have HBG:Hid (big p.p=true->mY (forms F)=true):=hid fun hb=>by
     unfold mY;rw [show ((forms F).take 41).any big=true from ?_,Bool.true_or];rw [List.any_eq_true];exact ⟨p.p,List.mem_of_getElem? (i:=k) (by rw [List.getElem?_take,if_pos h2];exact dR hp),hb⟩
    clear hstep hp c0;by_cases h3:40<p.fL.length
    ·obtain rfl:true=r:=by rw [<-hr.o,HBG.o (by unfold big;exact decide_eq_true h3)];rfl
     have hd:decide ((p.fL.length:Int)>40)=true:=decide_eq_true om_;go_wp2;go_ret;exact ⟨rfl,HBO.o⟩
    ·have HNO:=hid (show big p.p=false by unfold big;exact decide_eq_false h3);have hd:decide ((p.fL.length:Int)>40)=false:=decide_eq_false om_;clear h3;go_wp2;exact ⟨⟨k+1,by omega,by omega,by go_num,trivial,hid (by rw [HST.o];exact HNO.o)⟩,by simp [intOf];omega⟩
   ·obtain rfl:k=41:=by omega
    obtain rfl:true=r:=by rw [<-hr.o];unfold mY;rw [show decide (40<(forms F).length)=true from decide_eq_true (by rw [aF];omega),Bool.or_true];rfl
    have hd:decide ((F.length:Int)>40)=true:=decide_eq_true om_;have i1:(41:Int)<F.length:=by omega
    go_wp2;go_ret;exact ⟨rfl,HBO.o⟩
  ·obtain rfl:k=F.length:=by omega
   have hgb:mY (forms F)=decide (40<F.length):=by
    unfold mY;have:=hno.o;rw [List.take_of_length_le (by rw [aF];exact Nat.le_refl _)] at this;rw [List.take_of_length_le (by rw [aF];exact hk2),this,Bool.false_or,aF]
   by_cases h4:40<F.length
   ·obtain rfl:true=r:=by rw [<-hr.o,hgb,decide_eq_true h4];rfl
    have hd:decide ((F.length:Int)>40)=true:=decide_eq_true om_;have i3:(40:Int)<F.length:=by omega
    clear h4 hgb;go_wp2;go_ret;exact ⟨rfl,HBO.o⟩
   ·have hr2:(g || z)=r:=by rw [<-hr.o,hgb,decide_eq_false h4];rfl
    have hd:decide ((F.length:Int)>40)=false:=decide_eq_false om_;have i3:¬(40:Int)<F.length:=by omega
    have hzd:decide ((V.length:Int)>40)=z:=by rw [<-hz.o];exact decide_eq_decide.2 om_
    have HR2:=hid hr2;have HZD:=hid hzd;clear h4 hgb hr2 hzd;obtain ⟨⟨k0,_⟩,_⟩:=hBX.o _ (Below.refl _ _);have z2:W0.cell? ⟨w.heap.size,2,none⟩=some (.int .i64 s.op):=k0.cell 2;have z3:W0.cell? ⟨w.heap.size,3,none⟩=some (.int .i64 s.fm):=k0.cell 3;have z4:W0.cell? ⟨w.heap.size,4,none⟩=some (.int .i64 s.fd):=k0.cell 4;have z5:W0.cell? ⟨w.heap.size,5,none⟩=some (.int .i64 s.pl):=k0.cell 5;have z6:W0.cell? ⟨w.heap.size,6,none⟩=some (.int .i64 s.tt):=k0.cell 6;have z7:W0.cell? ⟨w.heap.size,7,none⟩=some (.int .i64 s.a):=k0.cell 7;have z8:W0.cell? ⟨w.heap.size,8,none⟩=some (.int .i64 s.b):=k0.cell 8;have z9:W0.cell? ⟨w.heap.size,9,none⟩=some (.int .i64 s.f.id):=k0.cell 9;have z10:W0.cell? ⟨w.heap.size,10,none⟩=some (.int .i64 s.f.kind):=k0.cell 10;have z11:W0.cell? ⟨w.heap.size,11,none⟩=some (.int .i64 s.f.lo):=k0.cell 11;have z12:W0.cell? ⟨w.heap.size,12,none⟩=some (.int .i64 s.f.hi):=k0.cell 12;have z13:W0.cell? ⟨w.heap.size,13,none⟩=some (.int .i64 s.f.most):=k0.cell 13;have z14:W0.cell? ⟨w.heap.size,14,none⟩=some (.int .i64 s.v.n):=k0.cell 14;have z15:W0.cell? ⟨w.heap.size,15,none⟩=some (.string s.v.s):=k0.cell 15;have z16:W0.cell? ⟨w.heap.size,16,none⟩=some (.slice ta s.t.length tc):=k0.cell 16;have z17:W0.cell? ⟨w.heap.size,17,none⟩=some (.slice la s.l.length lc):=k0.cell 17;clear k0;cases g
    ·have hzz:=HR2.o;simp only [Bool.false_or] at hzz;subst hzz;have hzd:=HZD.o;go_wp2_with (first
      | (go_at_call 17;((with_reducible refine cG.mono ?_);rintro e w2 ⟨rfl,hb2⟩;obtain ⟨⟨k0,_⟩,hbw⟩:=hBX.o _ (HBR.o.trans (hb2.mono HBR.o.size));have z20:=k0.cell 19;have HBZ:=hid hbw;clear k0 hbw)))
     go_ret;exact ⟨rfl,HBZ.o⟩
    ·have hzz:=HR2.o;simp only [Bool.true_or] at hzz;subst hzz;go_wp2_with (first
      | (go_at_call 17;((with_reducible refine cG.mono ?_);rintro e w2 ⟨rfl,hb2⟩;obtain ⟨⟨k0,_⟩,hbw⟩:=hBX.o _ (HBR.o.trans (hb2.mono HBR.o.size));have HBZ:=hid hbw;clear k0 hbw)))
     go_ret;exact ⟨rfl,HBZ.o⟩
end turn
namespace turn
open Go Go.RowKit schema
open field (Gives aC Va)
open step (Sp Lists)
theorem iL:Hid ((prog.info? 37).map (·.size)=some 20):=by show _=_;kernel_rfl
theorem bJ {w:World} {B:Nat} {t:TypeId} {v:Int} {sa:Option Addr} {sc n m:Nat} {s:Sp} {ta:Option Addr} {tc:Nat} {la:Option Addr} {lc:Nat} {j:Int} {b:Option Addr} {d:Nat} (h:Block w B t [.int .i64 v,.slice sa n sc,.int .i64 s.op,.int .i64 s.fm,.int .i64 s.fd,.int .i64 s.pl,.int .i64 s.tt,.int .i64 s.a,.int .i64 s.b,.int .i64 s.f.id,.int .i64 s.f.kind,.int .i64 s.f.lo,.int .i64 s.f.hi,.int .i64 s.f.most,.int .i64 s.v.n,.string s.v.s,.slice ta s.t.length tc,.slice la s.l.length lc,.int .i64 j,.slice b m d]):w.rangeAt B 2 (zP s ta tc la lc):=
 h.range 2 _ (fun n x hn=>by
  have hn2:n<16:=(List.getElem?_eq_some_iff.1 hn).1;match n,hn2 with
  | 0,_=>exact hn
  | 1,_=>exact hn
  | 2,_=>exact hn
  | 3,_=>exact hn
  | 4,_=>exact hn
  | 5,_=>exact hn
  | 6,_=>exact hn
  | 7,_=>exact hn
  | 8,_=>exact hn
  | 9,_=>exact hn
  | 10,_=>exact hn
  | 11,_=>exact hn
  | 12,_=>exact hn
  | 13,_=>exact hn
  | 14,_=>exact hn
  | 15,_=>exact hn)
theorem l9 {B:Nat} {w:World} {x:Option Addr} {c n:Nat} {V:List Va} (h:Own B w (.slice x n c) V):field.Vas w x V:=by
 obtain ⟨y,d,hu,_,hv⟩:=h.slice;obtain ⟨rfl,_,_⟩:=Value.slice.inj hu;exact hv
theorem DC (s:Sp) (k:Nat) (V:List Va):(fwd s k V).length<=V.length+2:=by
 have hc:(cutV V k).length<=V.length:=by unfold cutV;simp only [List.length_append,List.length_take,List.length_drop];omega
 have hp:∀(U:List Va) (n:Nat) (y:Va),(iO U n y).length=U.length+1:=fun U n y=>by unfold iO;simp only [List.length_append,List.length_take,List.length_drop,List.length_cons,List.length_nil];omega
 have hh:(dw s (V.getD k step.va0)).length<=2:=by unfold dw;(repeat' split) <;> simp
 unfold fwd;split
 ·rw [hp];omega
 split
 ·rw [hp];omega
 ·by_cases hk:k<V.length
  ·exact t161
  ·exact t161
theorem wX (v:Int) (F:List schema.Form) (s:Sp) (j:Int) (V:List Va):(onR v F s j V).V.length<=V.length+2:=by
 have:=DC s (atI F s).toNat V;unfold onR
 (repeat' split) <;> simp_all <;> omega
theorem BA {F:List schema.Form} {s:Sp} {V:List Va} (hg:iM F s V=false):s.t.length<=1000000:=by
 unfold iM at hg;simp only [Bool.or_eq_false_iff,decide_eq_false_iff_not] at hg;have:=((step.ul hg.2.1).2 s si_).1;omega
theorem Gf (F:List schema.Form) (x:Int):(typing.named F x=none/\ai (F.map (·.1)) x= -1)\/∃p,∃j:Nat,typing.named F x=some p/\ai (F.map (·.1)) x=(j:Int)/\F[j]?=some p:=by
 cases hn:typing.named F x with
 | none=>exact .inl ⟨rfl,typing.nP (typing.lM hn)⟩
 | some p=>
  refine .inr ⟨p,(F.map (·.1)).idxOf x,rfl, ?_, ?_⟩
  ·have:=typing.cZ hn;unfold ai;rw [if_pos (this.2 ▸ List.mem_map_of_mem this.1)]
  ·unfold typing.named at hn;induction F with
   | nil=>simp at hn
   | cons q r ih=>
    rw [List.find?_cons] at hn;by_cases hq:q.1=x
    ·simp [hq] at hn;subst hn;simp [hq]
    ·have hb:(q.1 == x)=false:=by simpa using hq
     rw [hb] at hn;have:=ih hn;rw [List.map_cons,List.idxOf_cons,hb];exact this
theorem nN {G:List Fm} {j:Int} {V:List Va} (h:iG (forms G) j V):∃(kk:Nat) (p:Fm),G[kk]?=some p/\kk<G.length/\ai (ng G) j=(kk:Int)/\record.Has p.id p.fL j V:=by
 rcases Gf (forms G) j with ⟨hn,_⟩ | ⟨P,kk,hn,hk,hp⟩
 ·obtain ⟨L,q,_⟩:=h;rw [hn] at q;cases q
 ·obtain ⟨p,hpp,rfl⟩:∃p,G[kk]?=some p/\p.p=P:=by
   unfold forms at hp;rw [List.getElem?_map,Option.map_eq_some_iff] at hp;exact hp
  rw [<-iJ] at hk
  have hid_:p.id=j:=(typing.cZ hn).2
  have hn2:typing.named (forms G) j=some (j,p.fL):=by rw [hn,<-hid_];rfl
  exact ⟨kk,p,hpp,(List.getElem?_eq_some_iff.1 hpp).1,hk,by rw [hid_];exact (jH hn2 V).1 h⟩
theorem FW (v:Int) (F:List schema.Form) (s:Sp) (j:Int) (V:List Va):(onR v F s j V).lost.size<=maxLen:=by
 have h0:(⟨#[]⟩:ByteArray).size<=maxLen:=by unfold maxLen;decide
 unfold onR;split
 ·exact h0
 split
 ·exact h0
 rename_i _ hr;split
 ·exact h0
 split
 ·obtain ⟨L,hn,hh⟩:=Classical.not_not.1 hr;rw [bZ hn];show (strOf (record.eY L V)).size<=_
  rw [field.oz];have:=record.wF L V;have:=record.nC hh.1;unfold maxLen;omega
 ·show (if s.op=2 then _ else _:ByteArray).size<=_
  split
  ·rw [field.oz];have:=record.vK (kU F s) (V.getD (atI F s).toNat step.va0);have:=(kU F s).size_le;unfold maxLen;omega
  ·exact h0
end turn
end Go.Proofs.YtdnegbkhndekpaaGreat
