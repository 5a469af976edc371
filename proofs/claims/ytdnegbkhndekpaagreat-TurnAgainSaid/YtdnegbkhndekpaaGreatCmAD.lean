/- Contracts and lemmas that claims of this seat share: TurnSmall. Each says its own conditions. -/
import Derived.Test.YtdnegbkhndekpaaGreatCmWord
import Derived.Lib.ConvBytes
import Derived.Conc.WalkWords
import Derived.Test.YtdnegbkhndekpaaGreatCmC
import Derived.Test.YtdnegbkhndekpaaGreatCmG
import Derived.Test.YtdnegbkhndekpaaGreatCmE
import Derived.Test.YtdnegbkhndekpaaGreatCmF
import Derived.Test.YtdnegbkhndekpaaGreatCmZ
import Derived.Test.YtdnegbkhndekpaaGreatCmB
import Derived.Test.YtdnegbkhndekpaaGreatCmU
import Derived.Test.YtdnegbkhndekpaaGreatCmT
set_option linter.unusedVariables false
namespace Go.Proofs.YtdnegbkhndekpaaGreat
open Go.Proofs.Tryz
theorem t20{P:Prop}(h:P:=by
 go_enter func40,ntmps40;go_wp2_with (first
  | (go_at_call 61;((with_reducible refine cT.mono ?_);rintro e w4 ⟨rfl,hb4⟩;have hb5:=HBB.o.trans (hb4.mono HBB.o.size);have hN:=aC w4 (.cells #[.int .i64 tn,.string (strOf ts)] 28);obtain ⟨-,k1,hbw⟩:=HW.o _ (hb5.trans (hN.mono hb5.size));have r0:=k1.cell 0;have r1:=k1.cell 1;have g0:=k1.frozen 0;have g1:=k1.frozen 1;have hne:w4.heap.size≠w.heap.size+1:=(by have:=hb5.size;simp at this;omega);have hne2:=hne.symm;clear hb4 hb5 hN)))
 have hB:=(k1.setCell 0 (.int .i64 0)).setCell 1 (.string ⟨#[]⟩);refine bodyPost_ret (au (b:=w.heap.size+1) (o:=0) rfl rfl hB.whole underlying28 rfl (fQ _ _)) rfl ?_;exact ⟨rfl,below_setCells (below_setCells hbw om_ 0 [.int .i64 0]) om_ 1 [.string ⟨#[]⟩]⟩):P:=h
namespace turn
open Go Go.RowKit schema
open field (Va Fd Gives aC aj take_any jC dI bytesOf bytesOf_length jG W2 two lq gK fQ val_one jZ)
open step (Sp Lists va0 fd0 Ins)
theorem GH (x a:Int):(x.tdiv a).natAbs<=x.natAbs:=by rw [Int.natAbs_tdiv];exact Nat.div_le_self _ _
theorem yR {w:World} {g b o q:Nat} {vs:List Value} (h:b≠g):(w.setCells g o vs).cell? ⟨b,q,none⟩=w.cell? ⟨b,q,none⟩:=by
 unfold World.cell?;rw [show (w.setCells g o vs).heap[b]?=w.heap[b]? from fO g vs o w b h]
theorem Gy {o:Oper} {a:Act} {w:World} {x y:Operand} {t:TypeId} {n m:Int} (ho:o.op=.binOp .rem 3 x y t) (hm:m≠0) (hx:a.eval x=.int .i64 n:=by kernel_rfl) (hy:a.eval y=.int .i64 m:=by kernel_rfl):(execOp a.eval o).run prog w=.ok (.value (.int .i64 (n.tmod m))) w:=by
 exact t44
theorem AU {o:Oper} {a:Act} {w:World} {x y:Operand} {t:TypeId} {n m:Int} (ho:o.op=.binOp .eql 3 x y t) (hm:(n == m)=false) (hx:a.eval x=.int .i64 n:=by kernel_rfl) (hy:a.eval y=.int .i64 m:=by kernel_rfl):(execOp a.eval o).run prog w=.ok (.value (.bool false)) w:=by
 exact t44
theorem IX (n x:Int) (b:Nat) (w:World) (hc:w.cell? ⟨b,0,none⟩=some (.int .i64 x)):Calls prog 111 #[.int .i64 n,.pointer (some ⟨b,0,none⟩)] w (Gives (.bool (n == x)) w):=by
 obtain ⟨r,hr⟩:∃r:Bool,Hid ((n == x)=r):=⟨_,rfl⟩;rw [hr.o];unfold Gives;go_enter func111,ntmps111;go_wp2;go_ret;exact ⟨bP hr.o,Below.refl _ _⟩
theorem Ci (a:Option Addr) (cap:Nat) (L:List Int) (x:Int) (g:Nat) (w:World) (h:Ins w a L) (hL:L.length<=maxLen) (hc:w.cell? ⟨g,0,none⟩=some (.int .i64 x)) (hg:g<w.heap.size):
  Calls prog 110 #[.slice a L.length cap,.func (.func 111) #[] #[.pointer (some ⟨g,0,none⟩)]] w (Gives (.int .i64 (ai L x)) w):=by
 have hml:(L.length:Int)<=9223372036854775807:=by unfold maxLen at hL;omega
 have HF:=hid h;have HC:=hid hc;obtain ⟨r,hr⟩:∃r:Int,Hid (ai L x=r):=⟨_,rfl⟩;rw [hr.o];unfold Gives;clear h hL hc;go_enter func110,ntmps110;go_wp2;go_loopw [8] (fun n wr=>∃k:Nat,k<=L.length/\n=.int .i64 (k:Int)/\Hid (x∉L.take k)/\Hid (Below w.heap.size w wr)) (fun n _=>L.length - (intOf n).toNat);case atStart=>exact ⟨0,Nat.zero_le _,rfl,hid si_,hid (Below.refl _ _)⟩
 case round=>
  obtain ⟨k,hk,rfl,HNO,HB⟩:=hrel;by_cases hlt:k<L.length
  ·obtain ⟨b,off,p,rfl,hbl,hp,c0⟩:=(HF.o.below HB.o).at hlt;have i1:(k:Int)<L.length:=by omega
   have HHIT:=hid (fun e=>kE HNO.o (hp.trans (congrArg some e)));have HNX:=hid (fun e=>jo HNO.o hp e);have cs:=IX p x g wr (by rw [HB.o.cell (p:=⟨g,0,none⟩) hg];exact HC.o);clear hp;by_cases hx:p=x
   ·rw [show (p == x)=true from beq_iff_eq.2 hx] at cs;obtain rfl:(k:Int)=r:=by rw [<-hr.o];exact (HHIT.o hx).symm
    clear hx;go_wp2_with (go_at_call 111;((with_reducible refine cs.mono ?_);rintro e w2 ⟨rfl,hb2⟩))
    exact t86
   ·rw [show (p == x)=false from beq_eq_false_iff_ne.2 hx] at cs;have HX:=hid hx;clear hx;go_wp2_with (go_at_call 111;((with_reducible refine cs.mono ?_);rintro e w2 ⟨rfl,hb2⟩))
    exact t69
  ·obtain rfl:k=L.length:=by omega
   obtain rfl: -1=r:=by rw [<-hr.o];have:=HNO.o;rw [List.take_of_length_le (Nat.le_refl _)] at this;exact (kG this).symm
   go_wp2;go_ret;exact ⟨rfl,HB.o⟩
theorem rD (r:Sp) (ta:Option Addr) (tc:Nat) (la:Option Addr) (lc:Nat) (X:List (TypeId×List Value)) (w:World):
  ∃W,Hid (boxes w ((32,zP r ta tc la lc) :: X)=W)/\Below w.heap.size w W/\Hid (∀w',Below W.heap.size W w'->Boxed w' w.heap.size ((32,zP r ta tc la lc) :: X)/\Below w.heap.size w w'):=by
 obtain ⟨W,h1,h2,_,h3⟩:=aU w ((32,zP r ta tc la lc) :: X);exact ⟨W,h1,h2,h3⟩
set_option maxRecDepth 20000 in
theorem zO (r:Sp) (ta:Option Addr) (tc:Nat) (la:Option Addr) (lc:Nat) (n:Int) (w:World) (hl:Lists w r ta la):
  Calls prog 74 #[zP r ta tc la lc,.int .i64 n] w (Gives (.tuple #[.agg #[.int .i64 (ai r.t n),.string ⟨#[]⟩],.bool (decide (0<=ai r.t n))]) w):=by
 obtain ⟨W3,hW3,hbw,hBX⟩:=rD r ta tc la lc [(3,[.int .i64 n]),(28,[.int .i64 0,.string ⟨#[]⟩])] w;simp only [boxes] at hW3;obtain ⟨⟨k0,k1,k2,_⟩,_⟩:=hBX.o W3 (Below.refl _ _);have cI:=Ci ta tc r.t n (w.heap.size+1) W3 (hl.t.below hbw) hl.mt (k1.cell 0) k1.lt;have s14:=k0.cell 14;rw [<-hW3.o] at cI s14;obtain ⟨q,hq⟩:∃q,Hid (ai r.t n=q):=⟨_,rfl⟩;obtain ⟨u,hu⟩:∃u:Bool,Hid (decide (0<=q)=u):=⟨_,rfl⟩;have hu2:decide (q≥0)=u:=hu.o;rw [hq.o] at cI ⊢;rw [hu.o];unfold Gives at cI ⊢;clear hl k0 k1 k2 hbw hq hu;go_enter func74,ntmps74;go_wp2_with (first
  | (go_at_call 110;((with_reducible refine cI.mono ?_);rintro e w4 ⟨rfl,hb4⟩;rw [hW3.o] at hb4;obtain ⟨⟨k0,k1,k2,_⟩,hbw4⟩:=hBX.o w4 hb4;have e0:=k2.cell 0;have e1:=k2.cell 1;have g0:=k2.frozen 0;have g1:=k2.frozen 1;have K2:=hid k2;have HB4:=hid hbw4;clear k0 k1 k2 hb4 hbw4)))
 have hB:=(K2.o.setCell 0 (.int .i64 q)).setCell 1 (.string ⟨#[]⟩);refine bodyPost_ret (au (b:=w.heap.size+1+1) (o:=0) rfl rfl hB.whole underlying28 rfl (fQ _ _)) rfl ?_;exact ⟨rfl,below_setCells (below_setCells HB4.o om_ 0 [.int .i64 q]) om_ 1 [.string ⟨#[]⟩]⟩
set_option maxRecDepth 20000 in
theorem CJ (r:Sp) (ta:Option Addr) (tc:Nat) (la:Option Addr) (lc:Nat) (n m:Int) (w:World) (h1: -4611686018427387904<=r.a*n/\r.a*n<=4611686018427387904) (h2: -1099511627776<=m/\m<=1099511627776):
  Calls prog 75 #[zP r ta tc la lc,.int .i64 n,.int .i64 m] w (Gives (.tuple #[.agg #[.int .i64 (r.a*n+m),.string ⟨#[]⟩],.bool (decide (r.f.Has (vn (r.a*n+m))))]) w):=by
 obtain ⟨W3,hW3,hbw,hBX⟩:=rD r ta tc la lc [(28,[.int .i64 0,.string ⟨#[]⟩]),(28,[.int .i64 (r.a*n+m),.string ⟨#[]⟩])] w;simp only [boxes] at hW3;have w1:IntKind.i64.wrap (r.a*n)=r.a*n:=IntWalk.i64_in _ om_;have w2:IntKind.i64.wrap (r.a*n+m)=r.a*n+m:=IntWalk.i64_in _ om_;obtain ⟨u,hu⟩:∃u:Bool,Hid (decide (r.f.Has (vn (r.a*n+m)))=u):=⟨_,rfl⟩;have cH:∀W,Calls prog 72 #[zF r.f,.agg #[.int .i64 (r.a*n+m),.string ⟨#[]⟩]] W (Gives (.bool u) W):=fun W=>by have q:=dI r.f (vn (r.a*n+m)) W;rw [hu.o] at q;exact q
 rw [hu.o];unfold Gives at cH ⊢;clear h1 h2 hu;have hbd:=aI (Below.refl W3.heap.size W3);obtain ⟨⟨k0,k1,k2,_⟩,_⟩:=hBX.o W3.drew hbd;have x0:=k2.cell 0;have x1:=k2.cell 1;have s7:=k0.cell 7;have s8:=k0.cell 8;have s9:=k0.cell 9;have s10:=k0.cell 10;have s11:=k0.cell 11;have HBD:=hid hbd;clear hbd k0 k1 k2 hbw;go_enter func75,ntmps75;go_wp2;rw [hW3.o];go_region_held3 (fun w'=>w'.cell? ⟨w.heap.size+1+1,0,none⟩=some (.int .i64 (r.a*n+m))/\w'.cell? ⟨w.heap.size+1+1,1,none⟩=some (.string ⟨#[]⟩)/\w'.cell? ⟨w.heap.size,7,none⟩=some (.int .i64 r.f.id)/\w'.cell? ⟨w.heap.size,8,none⟩=some (.int .i64 r.f.kind)/\w'.cell? ⟨w.heap.size,9,none⟩=some (.int .i64 r.f.lo)/\w'.cell? ⟨w.heap.size,10,none⟩=some (.int .i64 r.f.hi)/\w'.cell? ⟨w.heap.size,11,none⟩=some (.int .i64 r.f.most)) (first | assumption | go_keep) (first
  | (go_at_call 72;(with_reducible refine (cH _).mono ?_);rintro e w4 ⟨rfl,hb4⟩;have hb5:=HBD.o.trans (hb4.mono HBD.o.size);obtain ⟨⟨k0,k1,k2,_⟩,hbw4⟩:=hBX.o w4 hb5;have x0:=k2.cell 0;have x1:=k2.cell 1;have s7:=k0.cell 7;have s8:=k0.cell 8;have s9:=k0.cell 9;have s10:=k0.cell 10;have s11:=k0.cell 11;have r0:=k1.cell 0;have r1:=k1.cell 1;have g0:=k1.frozen 0;have g1:=k1.frozen 1))
 go_wp2;have hB:=(k1.setCell 0 (.int .i64 (r.a*n+m))).setCell 1 (.string ⟨#[]⟩);refine bodyPost_ret (au (b:=w.heap.size+1) (o:=0) rfl rfl hB.whole underlying28 rfl (fQ _ _)) rfl ?_;exact ⟨rfl,below_setCells (below_setCells hbw4 om_ 0 [.int .i64 (r.a*n+m)]) om_ 1 [.string ⟨#[]⟩]⟩
set_option maxRecDepth 20000 in
theorem zo (r:Sp) (ta:Option Addr) (tc:Nat) (la:Option Addr) (lc:Nat) (n:Int) (w:World) (ha:r.a≠0) (h1: -4611686018427387904<=n - r.b/\n - r.b<=4611686018427387904):
  Calls prog 73 #[zP r ta tc la lc,.int .i64 n] w (Gives (.tuple #[.agg #[.int .i64 ((n - r.b).tdiv r.a),.string ⟨#[]⟩],.bool (decide ((n - r.b).tmod r.a=0/\r.f.Has (vn ((n - r.b).tdiv r.a))))]) w):=by
 obtain ⟨W3,hW3,hbw,hBX⟩:=rD r ta tc la lc [(28,[.int .i64 0,.string ⟨#[]⟩]),(28,[.int .i64 ((n - r.b).tdiv r.a),.string ⟨#[]⟩])] w;simp only [boxes] at hW3;have w1:IntKind.i64.wrap (n - r.b)=n - r.b:=IntWalk.i64_in _ om_;have hab:=GH (n - r.b) r.a;have w2:IntKind.i64.wrap ((n - r.b).tdiv r.a)=(n - r.b).tdiv r.a:=IntWalk.i64_in _ om_;have w3:wrap64 ((n - r.b).tdiv r.a)=(n - r.b).tdiv r.a:=by unfold wrap64;omega
 obtain ⟨u,hu⟩:∃u:Bool,Hid (decide (r.f.Has (vn ((n - r.b).tdiv r.a)))=u):=⟨_,rfl⟩;have cH:∀W,Calls prog 72 #[zF r.f,.agg #[.int .i64 ((n - r.b).tdiv r.a),.string ⟨#[]⟩]] W (Gives (.bool u) W):=fun W=>by have q:=dI r.f (vn ((n - r.b).tdiv r.a)) W;rw [hu.o] at q;exact q
 rw [show decide ((n - r.b).tmod r.a=0/\r.f.Has (vn ((n - r.b).tdiv r.a)))=(decide ((n - r.b).tmod r.a=0) && u) by rw [Bool.decide_and,hu.o]];unfold Gives at cH ⊢;have hbd:=aI (Below.refl W3.heap.size W3);have HBD:=hid hbd;obtain ⟨⟨q0,_⟩,_⟩:=hBX.o W3 (Below.refl _ _);clear h1 hbw hab hu q0;by_cases hm:(n - r.b).tmod r.a=0
 ·have e1:((n - r.b).tmod r.a == 0)=true:=by simp [hm]
  rw [show (decide ((n - r.b).tmod r.a=0) && u)=u by simp [hm]];clear hm;obtain ⟨⟨k0,k1,k2,_⟩,_⟩:=hBX.o W3.drew hbd;have x0:=k2.cell 0;have x1:=k2.cell 1;have s5:=k0.cell 5;have s7:=k0.cell 7;have s8:=k0.cell 8;have s9:=k0.cell 9;have s10:=k0.cell 10;have s11:=k0.cell 11;clear hbd k0 k1 k2;go_enter func73,ntmps73;go_wp2;rw [hW3.o];go_region_held3 (fun w'=>w'.cell? ⟨w.heap.size+1+1,0,none⟩=some (.int .i64 ((n - r.b).tdiv r.a))/\w'.cell? ⟨w.heap.size+1+1,1,none⟩=some (.string ⟨#[]⟩)/\w'.cell? ⟨w.heap.size,5,none⟩=some (.int .i64 r.a)/\w'.cell? ⟨w.heap.size,7,none⟩=some (.int .i64 r.f.id)/\w'.cell? ⟨w.heap.size,8,none⟩=some (.int .i64 r.f.kind)/\w'.cell? ⟨w.heap.size,9,none⟩=some (.int .i64 r.f.lo)/\w'.cell? ⟨w.heap.size,10,none⟩=some (.int .i64 r.f.hi)/\w'.cell? ⟨w.heap.size,11,none⟩=some (.int .i64 r.f.most)) (first | assumption | go_keep) (first
   | (go_at_call 72;(with_reducible refine (cH _).mono ?_);rintro e w4 ⟨rfl,hb4⟩;have hb5:=HBD.o.trans (hb4.mono HBD.o.size);obtain ⟨⟨k0,k1,k2,_⟩,hbw4⟩:=hBX.o w4 hb5;have x0:=k2.cell 0;have x1:=k2.cell 1;have s5:=k0.cell 5;have s7:=k0.cell 7;have s8:=k0.cell 8;have s9:=k0.cell 9;have s10:=k0.cell 10;have s11:=k0.cell 11;have r0:=k1.cell 0;have r1:=k1.cell 1;have g0:=k1.frozen 0;have g1:=k1.frozen 1))
  go_wp2;have hB:=(k1.setCell 0 (.int .i64 ((n - r.b).tdiv r.a))).setCell 1 (.string ⟨#[]⟩);refine bodyPost_ret (au (b:=w.heap.size+1) (o:=0) rfl rfl hB.whole underlying28 rfl (fQ _ _)) rfl ?_;exact ⟨rfl,below_setCells (below_setCells hbw4 om_ 0 [.int .i64 ((n - r.b).tdiv r.a)]) om_ 1 [.string ⟨#[]⟩]⟩
 ·have e1:((n - r.b).tmod r.a == 0)=false:=by simp [hm]
  rw [show (decide ((n - r.b).tmod r.a=0) && u)=false by simp [hm]];clear hm cH;obtain ⟨⟨k0,k1,k2,_⟩,hbw3⟩:=hBX.o W3.drew hbd;have HBW:=hid hbw3;have K1:=hid k1;have hS:W3.drew.rangeAt (w.heap.size+1+1) 0 [.int .i64 ((n - r.b).tdiv r.a),.string ⟨#[]⟩]/\W3.drew.cell? ⟨w.heap.size,5,none⟩=some (.int .i64 r.a):=⟨k2.whole,k0.cell 5⟩;clear hbd k0 k1 k2 hbw3;go_enter func73,ntmps73;go_wp2;rw [hW3.o];refine plan.bD (S:=fun w'=>w'.rangeAt (w.heap.size+1+1) 0 [.int .i64 ((n - r.b).tdiv r.a),.string ⟨#[]⟩]/\w'.cell? ⟨w.heap.size,5,none⟩=some (.int .i64 r.a)) ?_;refine plan.af 0 _ (.agg #[.int .i64 ((n - r.b).tdiv r.a),.string ⟨#[]⟩]) rfl (fun w' hS'=>ak (cs:=[.int .i64 ((n - r.b).tdiv r.a),.string ⟨#[]⟩]) (b:=w.heap.size+1+1) (off:=0) rfl hS'.1 underlying28 rfl iD.o) hS ?_;refine plan.af 1 _ (.int .i64 (n - r.b)) rfl (fun w' hS'=>kr_) hS ?_;refine plan.af 2 _ (.pointer (some ⟨w.heap.size,5,none⟩)) rfl (fun w' hS'=>kr_) hS ?_;refine plan.af 3 _ (.int .i64 r.a) rfl (fun w' hS'=>ah (ad:=⟨w.heap.size,5,none⟩) rfl kr_ hS'.2 isAgg3) hS ?_;refine plan.af 4 _ (.int .i64 ((n - r.b).tmod r.a)) rfl (fun w' hS'=>Gy rfl ha) hS ?_;refine plan.af 5 _ (.bool false) rfl (fun w' hS'=>AU rfl e1) hS ?_;refine plan.af 6 _ (.bool false) rfl (fun w' hS'=>kr_) hS ?_;refine plan.lJ 7 _ rfl hS ?_;refine plan.lJ 8 _ rfl hS ?_;refine plan.lJ 9 _ rfl hS ?_;refine plan.lJ 10 _ rfl hS ?_;refine plan.af 11 _ (.bool false) rfl (fun w' hS'=>kr_) hS ?_;obtain ⟨w4,hW4⟩:∃q,Hid (W3.drew.setCells (w.heap.size+1) 0 [.int .i64 ((n - r.b).tdiv r.a),.string ⟨#[]⟩]=q):=⟨_,hid rfl⟩;have hS4:w4.rangeAt (w.heap.size+1+1) 0 [.int .i64 ((n - r.b).tdiv r.a),.string ⟨#[]⟩]/\w4.cell? ⟨w.heap.size,5,none⟩=some (.int .i64 r.a):=by rw [<-hW4.o];exact ⟨fun i v hv=>(yR si_).trans (hS.1 i v hv),(yR si_).trans hS.2⟩
  refine plan.thenS (w1:=w4) 12 _ rfl rfl rfl (by rw [<-hW4.o];exact plan.lX (cells:=#[.int .i64 ((n - r.b).tdiv r.a),.string ⟨#[]⟩]) rfl K1.o rfl (gK _ _) (val_one _ _)) hS4 ?_;refine plan.bI (w1:=w4) 13 _ (.bool false) rfl rfl hS4 ?_;refine plan.gm ?_;have hB:=K1.o.setCells (vs:=[.int .i64 ((n - r.b).tdiv r.a),.string ⟨#[]⟩]) (o:=0);rw [fZ _ _ (by rfl),hW4.o] at hB;have hb4:Below w.heap.size w w4:=by rw [<-hW4.o];exact below_setCells HBW.o om_ 0 _
  clear hS hS4 hW4;walk_nrm;go_wp2;refine bodyPost_ret (au (b:=w.heap.size+1) (o:=0) rfl rfl hB.whole underlying28 rfl (fQ _ _)) rfl ?_;exact ⟨rfl,hb4⟩
set_option maxRecDepth 20000 in
theorem qE (f:field.Fd) (lost:ByteArray) (hs:lost.size<=maxLen) (z:Va) (E:Int) (hz:(z,E)=if (f.take (bytesOf lost)).e=0/\(f.take (bytesOf lost)).c=(bytesOf lost).length then (⟨(f.take (bytesOf lost)).n,strOf (f.take (bytesOf lost)).s⟩,0) else (va0,12)) (w:World):
  Calls prog 40 #[zF f,.string lost] w (Gives (.tuple #[zV z,.int .i64 E]) w):=by
 have HW:=hid (W2.all f w);have hcv:(convert 9 68 (.string lost)).run prog (W2 f w)=.ok (.slice (some ⟨(W2 f w).heap.size,0,none⟩) lost.size (grownCap (W2 f w) lost.size 0 5)) (Lib.bytesWorld (W2 f w) 5 lost):=Lib.run_convert_string_bytes _ _ _ _ _ underlying9 underlying68 underlying5;have hbb:Below (W2 f w).heap.size (W2 f w) (Lib.bytesWorld (W2 f w) 5 lost):=⟨rfl,rfl,rfl,by rw [Lib.bytesWorld_size];omega,fun k hk=>Lib.bytesWorld_at_old (W2 f w) _ _ k hk⟩;have hrd:Reads .u8 (Lib.bytesWorld (W2 f w) 5 lost) (some ⟨(W2 f w).heap.size,0,none⟩) lost.size (bytesOf lost):=by
  refine ⟨by rw [bytesOf_length],.inr ⟨_,_,rfl,by rw [Lib.bytesWorld_size];omega,fun i hi=> ?_⟩⟩;rw [Nat.zero_add,Lib.bytesWorld_cell _ _ _ _ hi];have hi':i<lost.data.toList.length:=by rw [Array.length_toList];exact hi
  simp [bytesOf,List.getD_eq_getElem?_getD,List.getElem?_eq_getElem hi']
 have cT:=take_any f (some ⟨(W2 f w).heap.size,0,none⟩) lost.size (grownCap (W2 f w) lost.size 0 5) (bytesOf lost) (Lib.bytesWorld (W2 f w) 5 lost) hrd (jG lost) (grownCap_ge _ _ _ _) (by have:=grownCap_le_maxLen (W2 f w) lost.size 0 5 hs;unfold maxLen at this;omega);obtain ⟨W3,hW3⟩:∃q,Hid (Lib.bytesWorld (W2 f w) 5 lost=q):=⟨_,hid rfl⟩;obtain ⟨cp,hcp⟩:∃q,Hid (grownCap (W2 f w) lost.size 0 5=q):=⟨_,hid rfl⟩;have hle:=fun e=>(field.Fd.vZ (f:=f) (jG lost) e).2.1
 have hsz2:(W2 f w).heap.size=w.heap.size+1+1:=by simp [W2]
 rw [hW3.o,hcp.o,hsz2] at cT hcv;rw [hW3.o] at hbb;unfold jC at cT;generalize f.take (bytesOf lost)=T at *;rw [bytesOf_length] at hz hle;obtain ⟨tn,ts,tc,te⟩:=T;simp only at cT hz hle;unfold Gives;have HBB:=hid hbb;have HSZ:=hid hs;clear hrd hbb hsz2 hs hW3 hcp;unfold W2 at hcv HW HBB;by_cases h0:te=0
 ·subst h0;have hle2:=hle rfl;by_cases hc:tc=lost.size
  ·rw [if_pos ⟨rfl,hc⟩] at hz;cases hz
   have d1:decide ((tc:Int)<(lost.size:Int))=false:=decide_eq_false om_;have d2:decide (tc<lost.size)=false:=decide_eq_false om_;have d3:¬tc<lost.size:=by omega
   clear hle hle2 hc;go_enter func40,ntmps40;go_wp2_with (first
    | (go_at_call 61;((with_reducible refine cT.mono ?_);rintro e w4 ⟨rfl,hb4⟩;have hb5:=HBB.o.trans (hb4.mono HBB.o.size);have hN:=aC w4 (.cells #[.int .i64 tn,.string (strOf ts)] 28);obtain ⟨-,k1,hbw⟩:=HW.o _ (hb5.trans (hN.mono hb5.size));have r0:=k1.cell 0;have r1:=k1.cell 1;have g0:=k1.frozen 0;have g1:=k1.frozen 1;have hne:w4.heap.size≠w.heap.size+1:=(by have:=hb5.size;simp at this;omega);have hne2:=hne.symm;clear hb4 hb5 hN)))
   have hB:=(k1.setCell 0 (.int .i64 tn)).setCell 1 (.string (strOf ts));refine bodyPost_ret (au (b:=w.heap.size+1) (o:=0) rfl rfl hB.whole underlying28 rfl (fQ _ _)) rfl ?_;exact ⟨rfl,below_setCells (below_setCells hbw om_ 0 [.int .i64 tn]) om_ 1 [.string (strOf ts)]⟩
  ·rw [if_neg (fun q=>hc q.2)] at hz;cases hz
   have d1:decide ((tc:Int)<(lost.size:Int))=true:=decide_eq_true om_;have d2:decide (tc<lost.size)=true:=decide_eq_true om_;have d3:tc<lost.size:=by omega
   clear hle hle2 hc
   exact t20
 ·rw [if_neg (fun q=>h0 q.1)] at hz;cases hz
  have d1:(te != 0)=true:=by simpa using h0
  clear hle h0
  exact t20
end turn
end Go.Proofs.YtdnegbkhndekpaaGreat
