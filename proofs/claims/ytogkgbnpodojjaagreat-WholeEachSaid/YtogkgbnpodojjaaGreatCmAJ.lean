/- Contracts and lemmas that claims of this seat share: ItemFilterMain, ItemFilterSide, ItemMains, RecordRS, TurnOnD, SchemaBig. Each says its own conditions. -/
import Derived.Test.YtogkgbnpodojjaaGreatCmWord
import Derived.Test.YtogkgbnpodojjaaGreatCmF
import Derived.Test.YtogkgbnpodojjaaGreatCmJ
import Derived.Test.YtogkgbnpodojjaaGreatCmAD
import Derived.Test.YtogkgbnpodojjaaGreatCmAG
import Derived.Test.YtogkgbnpodojjaaGreatCmAH
set_option linter.unusedVariables false
namespace Go.Proofs.YtogkgbnpodojjaaGreat
open Go.Proofs.Tryz
theorem t76{P:Prop}(h:P:=by
 exact ⟨⟨k+1,by omega,by go_num,hid (by rw [HNO.o si_];exact HR.o.later (HN.o.trans (hb2.mono HN.o.size)))⟩,by simp [intOf];omega⟩):P:=h
theorem t54{P:Prop}(h:P:=by
 obtain rfl:k=L.length:=by omega
 have hF:=HR.o;rw [List.take_of_length_le (Nat.le_refl _),hR.o] at hF;obtain ⟨a9,c9,rfl,_⟩:=hF.form;have HF9:=hid hF;clear hF;go_wp2;go_ret;exact ⟨a9,c9,rfl,HF9.o.1,HF9.o.2⟩):P:=h
namespace item
open Go.RowKit
theorem Dq (k:Nat) (w:World):Calls prog 73 #[.int .u32 (k:Int)] w (Gives (.bool (decide (k<16777216))) w):=by
 unfold Gives;go_enter func73,ntmps73;go_wp2;go_ret;exact ⟨by simp <;> omega,Below.refl _ _⟩
theorem zJ (a:Option Addr) (c:Nat) (L:List It) (w:World) (h:Its w a L) (hL:L.length<=4294967296):
  Calls prog 71 #[.slice a L.length c,.func (.func 73) #[] #[]] w (Lists (L.filter (fun p=>decide (p.key<16777216))) w):=by
 have hml:(L.length:Int)<=9223372036854775807:=by omega
 have HF:=hid h;have HL:=hid hL;obtain ⟨R,hR⟩:∃R,Hid (L.filter (fun p=>decide (p.key<16777216))=R):=⟨_,rfl⟩;rw [hR.o];unfold Lists;clear h hL;go_enter func71,ntmps71;go_wp2;go_loopw [5,10] (fun v n wr=>∃k:Nat,k<=L.length/\n=.int .i64 (k:Int)/\Hid (Row w ((L.take k).filter (fun p=>decide (p.key<16777216))) v wr)) (fun _ n _=>L.length - (intOf n).toNat);case atStart=>exact ⟨0,Nat.zero_le _,rfl,hid (Row.nil w)⟩
 case round=>
  obtain ⟨k,hk,rfl,HR⟩:=hrel;by_cases hlt:k<L.length
  ·obtain ⟨b,off,p,rfl,hbl,hp,c0,c1⟩:=qj HF.o HR.o.2 hlt;have i1:(k:Int)<L.length:=by omega
   have HN:=hid (ak wr (.cells #[.int .u32 (p.key:Nat),.string p.data] 43));have HB1:=hid (HR.o.2.trans (HN.o.mono HR.o.2.size));have HX:=hid (fun (w':World) hb=>(Block.new wr 43 [.int .u32 (p.key:Nat),.string p.data]).later (w':=w') hb);have cK:=Dq p.key (wr.alloc (.cells #[.int .u32 (p.key:Nat),.string p.data] 43));have HYES:=hid (fun (hf:(fun p=>decide (p.key<16777216)) p=true)=>lQ (f:=fun p=>decide (p.key<16777216)) hp hf);have HNO:=hid (fun (hf:(fun p=>decide (p.key<16777216)) p=false)=>nR (f:=fun p=>decide (p.key<16777216)) hp hf);have HSM:Hid (((L.take k).filter (fun p=>decide (p.key<16777216))).length<=8589934592):=by
    show _<=_
    have:=List.length_filter_le (fun p=>decide (p.key<16777216)) (L.take k);rw [List.length_take] at this;have:=HL.o;omega
   unfold Gives at cK;obtain ⟨t,ht⟩:∃t:Bool,(decide (p.key<16777216))=t:=⟨_,rfl⟩;simp only [ht] at cK HYES HNO;clear hp ht;cases t
   ·go_wp2_with (go_at_call 73;((with_reducible refine cK.mono ?_);rintro e w2 ⟨rfl,hb2⟩))
    exact t76
   ·go_wp2_with (first
     | (go_at_call 73;((with_reducible refine cK.mono ?_);rintro e w2 ⟨rfl,hb2⟩;have k0:=HX.o _ hb2;have z0:=k0.cell 0;have z1:=k0.cell 1;have HR2:=hid (HR.o.later (HN.o.trans (hb2.mono HN.o.size)));clear k0 hb2))
     | (at_builtin;refine lG rfl _ _ rfl _ p _ rfl rfl HR2 HSM ?_;intro v3 w3 HR3;skip))
    exact ⟨⟨k+1,by omega,by go_num,hid (by rw [HYES.o si_];exact HR3.o)⟩,by simp [intOf];omega⟩
  ·exact t54
end item
namespace item
open Go.RowKit
theorem IQ (k:Nat) (w:World):Calls prog 72 #[.int .u32 (k:Int)] w (Gives (.bool (!(decide (k<16777216)))) w):=by
 have cM:=Dq k w;unfold Gives at cM ⊢;go_enter func72,ntmps72;go_wp2_with (go_at_call 73;((with_reducible refine cM.mono ?_);rintro e w1 ⟨rfl,hb1⟩));go_ret;exact ⟨rfl,hb1⟩
theorem zK (a:Option Addr) (c:Nat) (L:List It) (w:World) (h:Its w a L) (hL:L.length<=4294967296):
  Calls prog 71 #[.slice a L.length c,.func (.func 72) #[] #[]] w (Lists (L.filter (fun p=> !(decide (p.key<16777216)))) w):=by
 have hml:(L.length:Int)<=9223372036854775807:=by omega
 have HF:=hid h;have HL:=hid hL;obtain ⟨R,hR⟩:∃R,Hid (L.filter (fun p=> !(decide (p.key<16777216)))=R):=⟨_,rfl⟩;rw [hR.o];unfold Lists;clear h hL;go_enter func71,ntmps71;go_wp2;go_loopw [5,10] (fun v n wr=>∃k:Nat,k<=L.length/\n=.int .i64 (k:Int)/\Hid (Row w ((L.take k).filter (fun p=> !(decide (p.key<16777216)))) v wr)) (fun _ n _=>L.length - (intOf n).toNat);case atStart=>exact ⟨0,Nat.zero_le _,rfl,hid (Row.nil w)⟩
 case round=>
  obtain ⟨k,hk,rfl,HR⟩:=hrel;by_cases hlt:k<L.length
  ·obtain ⟨b,off,p,rfl,hbl,hp,c0,c1⟩:=qj HF.o HR.o.2 hlt;have i1:(k:Int)<L.length:=by omega
   have HN:=hid (ak wr (.cells #[.int .u32 (p.key:Nat),.string p.data] 43));have HB1:=hid (HR.o.2.trans (HN.o.mono HR.o.2.size));have HX:=hid (fun (w':World) hb=>(Block.new wr 43 [.int .u32 (p.key:Nat),.string p.data]).later (w':=w') hb);have cK:=IQ p.key (wr.alloc (.cells #[.int .u32 (p.key:Nat),.string p.data] 43));have HYES:=hid (fun (hf:(fun p=> !(decide (p.key<16777216))) p=true)=>lQ (f:=fun p=> !(decide (p.key<16777216))) hp hf);have HNO:=hid (fun (hf:(fun p=> !(decide (p.key<16777216))) p=false)=>nR (f:=fun p=> !(decide (p.key<16777216))) hp hf);have HSM:Hid (((L.take k).filter (fun p=> !(decide (p.key<16777216)))).length<=8589934592):=by
    show _<=_
    have:=List.length_filter_le (fun p=> !(decide (p.key<16777216))) (L.take k);rw [List.length_take] at this;have:=HL.o;omega
   unfold Gives at cK;obtain ⟨t,ht⟩:∃t:Bool,(!(decide (p.key<16777216)))=t:=⟨_,rfl⟩;simp only [ht] at cK HYES HNO;clear hp ht;cases t
   ·go_wp2_with (go_at_call 72;((with_reducible refine cK.mono ?_);rintro e w2 ⟨rfl,hb2⟩))
    exact t76
   ·go_wp2_with (first
     | (go_at_call 72;((with_reducible refine cK.mono ?_);rintro e w2 ⟨rfl,hb2⟩;have k0:=HX.o _ hb2;have z0:=k0.cell 0;have z1:=k0.cell 1;have HR2:=hid (HR.o.later (HN.o.trans (hb2.mono HN.o.size)));clear k0 hb2))
     | (at_builtin;refine lG rfl _ _ rfl _ p _ rfl rfl HR2 HSM ?_;intro v3 w3 HR3;skip))
    exact ⟨⟨k+1,by omega,by go_num,hid (by rw [HYES.o si_];exact HR3.o)⟩,by simp [intOf];omega⟩
  ·exact t54
end item
theorem t60{P:Prop}(h:P:=by
 go_wp2_with (go_at_call 71;((with_reducible refine cF.mono ?_);rintro e w1 ⟨x,xc,rfl,ho,hb⟩;have HO:=hid ho;have HB:=hid hb;clear ho hb));go_ret;exact ⟨x,xc,rfl,HO.o,HB.o⟩):P:=h
namespace item
open Go.RowKit
theorem ED (a:Option Addr) (c:Nat) (L:List It) (w:World) (h:Its w a L) (hL:L.length<=4294967296):Calls prog 51 #[.slice a L.length c] w (Lists (bK L) w):=by
 have cF:=zJ a c L w h hL;unfold bK;generalize L.filter (fun p=>decide (p.key<16777216))=R at *;unfold Lists at *;clear h;go_enter func51,ntmps51
 exact t60
theorem ET (a:Option Addr) (c:Nat) (L:List It) (w:World) (h:Its w a L) (hL:L.length<=4294967296):Calls prog 39 #[.slice a L.length c] w (Lists (sides L) w):=by
 have cF:=zK a c L w h hL;unfold sides;generalize L.filter (fun p=> !(decide (p.key<16777216)))=R at *;unfold Lists at *;clear h;go_enter func39,ntmps39
 exact t60
end item
namespace record
open Go.RowKit
open field (Va Gives ak aj)
open schema (aW aP eP Fine Bv gQ aH fdC dX iI jX aG ax dI)
def WMR (i:Int) (a:Option Addr) (L:List field.Fd) (c:Nat) (w:World):World:=(w.alloc (.cells (zS i a L.length c) 49)).alloc (.cells #[.int .i64 0,.slice none 0 0] 66)
theorem WMR.all (i:Int) (a:Option Addr) (L:List field.Fd) (c:Nat) (w w':World) (hb:Below (WMR i a L c w).heap.size (WMR i a L c w) w'):
  w'.cell? ⟨w.heap.size,0,none⟩=some (.int .i64 i)/\w'.cell? ⟨w.heap.size,1,none⟩=some (.slice a L.length c)/\Block w' (w.heap.size+1) 66 [.int .i64 0,.slice none 0 0]/\Below w.heap.size w w':=by
 obtain ⟨h1,h2,h3⟩:=Bv i a L c w w' (aP hb);have hB:=(Block.new (w.alloc (.cells (zS i a L.length c) 49)) 66 [.int .i64 0,.slice none 0 0]).later hb;exact ⟨h1,h2,by simpa using hB,h3⟩
theorem RS.Jm {i:Int} {w0:World} {F n:Nat} {V:List Va} {a:Option Addr} {c:Nat} {wr w:World} {R:Nat} {v0 v1:Value} (hS:RS i w0 F V n (.slice a n c) wr) (hR:Block wr R 66 [v0,v1]) (hlt:R<F) (hw:w.heap.size<=R) (hb:Below w.heap.size w wr):
  Block ((wr.setCell ⟨R,0,none⟩ (.int .i64 i)).setCell ⟨R,1,none⟩ (.slice a n c)) R 66 (zS i a V.length c)/\((wr.setCell ⟨R,0,none⟩ (.int .i64 i)).setCell ⟨R,1,none⟩ (.slice a n c)).ownsRow w.heap.size 54 2 (.slice a V.length c) V.length (vaV V)/\
   Below w.heap.size w ((wr.setCell ⟨R,0,none⟩ (.int .i64 i)).setCell ⟨R,1,none⟩ (.slice a n c)):=by
 have hn:=hS.len;subst hn;have hB:=(hR.setCell 0 (.int .i64 i)).setCell 1 (.slice a V.length c);have hbR:=((But.refl wr.heap.size R wr).setCell 0 (.int .i64 i)).setCell 1 (.slice a V.length c);have hrow:=bT (w':=(wr.setCell ⟨R,0,none⟩ (.int .i64 i)).setCell ⟨R,1,none⟩ (.slice a V.length c)) hS.row (fun g hg=>by
  have h1:=World.ownsRow.lt hS.row g hg;exact hbR.2.2.2.2 g h1.2 om_)
 exact ⟨hB,aW hrow om_,below_setCells (below_setCells hb hw 0 [.int .i64 i]) hw 1 [.slice a V.length c]⟩
theorem RS.done {i:Int} {w0:World} {F n:Nat} {V:List Va} {a:Option Addr} {c:Nat} {wr w:World} {R:Nat} {v0 v1:Value} (hS:RS i w0 F V n (.slice a n c) wr) (hR:Block wr R 66 [v0,v1]) (hlt:R<F) (hw:w.heap.size<=R) (hb:Below w.heap.size w wr):
  Block ((wr.setCell ⟨R,0,none⟩ (.int .i64 i)).setCell ⟨R,1,none⟩ (.slice a n c)) R 66 (zS i a V.length c)/\field.Vas ((wr.setCell ⟨R,0,none⟩ (.int .i64 i)).setCell ⟨R,1,none⟩ (.slice a n c)) a V/\
   Below w.heap.size w ((wr.setCell ⟨R,0,none⟩ (.int .i64 i)).setCell ⟨R,1,none⟩ (.slice a n c)):=
 have k:=RS.Jm hS hR hlt hw hb
 ⟨k.1,(tC k.2.1).1,k.2.2⟩
end record
namespace turn
open Go Go.RowKit schema typing
open record (Has aY dJ)
open field (Va)
open step (Sp va0 fd0)
def OnD (r:Dn) (w:World) (e:Ending) (w':World):Prop:=
 ∃x c,e=.returned (.tuple #[.agg #[.int .i64 r.j,.slice x r.V.length c,.bool r.gone,.bool r.has,.string r.lost],.int .i64 r.e])/\Own w.heap.size w' (.slice x r.V.length c) r.V/\Below w.heap.size w w'
theorem OnD.zero {e:Int} {w w':World} (hb:Below w.heap.size w w'):OnD ⟨0,[],false,false,⟨#[]⟩,e⟩ w (.returned (.tuple #[.agg #[.int .i64 0,.slice none 0 0,.bool false,.bool false,.string ⟨#[]⟩],.int .i64 e])) w':=⟨none,0,rfl,World.ownsRow_nil _ _ _ _,hb⟩
theorem GU {v:Int} {F:List schema.Form} {s:Sp} {j:Int} {V:List Va} (h:(on v F s).2.2=0) (hr:fH F j V) (hj:j=s.fm):
  (s.op=10/\onR v F s j V=⟨0,[],true,true,strOf (dJ (fieldsOf F j) V),0⟩/\Has j (fieldsOf F j) j V)\/
  (∃k y,Can s (fieldsOf F j) V k y/\onR v F s j V=⟨j,fwd s k V,false,decide (s.op=2),if s.op=2 then strOf (((fieldsOf F j).getD k fd0).bZ y) else ⟨#[]⟩,0⟩):=by
 obtain ⟨L,hn,hh⟩:=hr;have hf:=aZ hn;have hr:fH F j V:=⟨L,hn,hh⟩;by_cases h10:s.op=10
 ·refine .inl ⟨h10, ?_,by rw [hf];exact hh⟩;unfold onR;rw [if_neg (by simpa using h),if_neg (by simpa using hr),if_neg (by simpa using hj),if_pos h10]
 ·have h9:s.op≠9:=fun e=>by have:=xJ h e;rw [<-hj,hn] at this;cases this
  obtain ⟨L',hF⟩:=Dk h h9 h10;have hL:L'=L:=by have:=hF.here;rw [<-hj,hn] at this;cases this;rfl
  subst hL;obtain ⟨k,C,hk,ho⟩:=JO h hF h9 h10 hh.2.2;refine .inr ⟨k,_,by rw [hf];exact C, ?_⟩;unfold onR;rw [if_neg (by simpa using h),if_neg (by simpa using hr),if_neg (by simpa using hj),if_neg h10,hk,hf];by_cases h2:s.op=2
  ·rw [if_pos h2,if_pos h2,ho h2]
  ·rw [if_neg h2,if_neg h2]
theorem uU {w W:World} {R:Nat} {t:TypeId} {cs vs:List Value} {n:Nat} (hk:Block W R t cs) (hc:cs.length=n) (hv:vs.length=n) (hb:Below w.heap.size w W) (hR:w.heap.size<=R):
  W.there R 0 n/\Block (W.setCells R 0 vs) R t vs/\Below w.heap.size w (W.setCells R 0 vs):=by
 refine ⟨hk.there 0 n om_, ?_,below_setCells hb hR 0 vs⟩;have h:=hk.setCells (vs:=vs) (o:=0);rwa [dS _ _ om_] at h
theorem Ep:Hid ((prog.info? 57).map (·.size)=some 16):=by show _=_;kernel_rfl
end turn
namespace schema
open Go.RowKit
open field (Gives ak)
def big (p:Form):Bool:=decide (40<p.2.length)
def kW (P:List Form):Bool:=(P.take 41).any big || decide (40<P.length)
theorem Eg {P:List Form} (h:kW P=false):P.length<=40/\∀p∈P,p.2.length<=40:=by
 unfold kW at h;rw [Bool.or_eq_false_iff] at h;have h1:P.length<=40:=by have:=h.2;simp at this;omega
 refine ⟨h1,fun p hp=> ?_⟩;have h2:=h.1;rw [List.take_of_length_le om_,List.any_eq_false] at h2;have:=h2 p hp;unfold big at this;simp at this;omega
end schema
end Go.Proofs.YtogkgbnpodojjaaGreat
