/- Contracts and lemmas that claims of this seat share: StepRefZero, StepRefRight, TurnKeep, TurnCan, TurnUndo. Each says its own conditions. -/
import Derived.Test.YtdnegbkhndekpaaGreatCmWord
import Derived.Deep.CutRange
import Derived.Test.YtdnegbkhndekpaaGreatCmG
import Derived.Test.YtdnegbkhndekpaaGreatCmE
import Derived.Test.YtdnegbkhndekpaaGreatCmI
import Derived.Test.YtdnegbkhndekpaaGreatCmA
import Derived.Test.YtdnegbkhndekpaaGreatCmM
import Derived.Test.YtdnegbkhndekpaaGreatCmS
set_option linter.unusedVariables false
namespace Go.Proofs.YtdnegbkhndekpaaGreat
open Go.Proofs.Tryz
namespace step
open Go.RowKit
open field (Gives aC aj)
open schema (aY dH ak ay ah eU ji aX)
theorem aW {o:Oper} {a:Act} {w:World} {x y:Operand} {t':TypeId} {n m:Int} (ho:o.op=.binOp .eql 3 x y t') (hx:a.eval x=.int .i64 n:=by kernel_rfl) (hy:a.eval y=.int .i64 m:=by kernel_rfl):(execOp a.eval o).run prog w=.ok (.value (.bool (n == m))) w:=
 dH ho (hx:=hx) (hy:=hy) (by simp [go_sem]) (by simp [go_sem])
def Sp.eu (s:Sp):Bool:=
 ((((aH s.op 100 || s.fd == 0) && (aH s.op 112 || s.pl == 0)) && (aH s.op 116 || s.tt == 0)) && ((aH s.op 97 || aH s.op 98) || s.a == 0) && (aH s.op 98 || s.b == 0)) &&
  (aH s.op 70 || decide (s.f=fd0)) && (aH s.op 86 || decide (s.v=va0)) && (aH s.op 84 || (s.t.length:Int) == 0) && (aH s.op 76 || (s.l.length:Int) == 0)
set_option maxRecDepth 20000 in
set_option maxHeartbeats 6400000 in
theorem AP (s:Sp) (ta:Option Addr) (tc:Nat) (la:Option Addr) (lc:Nat) (w:World) (h:Lists w s ta la):Calls prog 63 #[zP s ta tc la lc] w (Gives (.bool s.eu) w):=by
 have HZ:Hid (∀w',Below (w.alloc (.cells (zP s ta tc la lc) 32)).heap.size (w.alloc (.cells (zP s ta tc la lc) 32)) w'->Block w' w.heap.size 32 (zP s ta tc la lc)):=hid (fun w' hb=>(Block.new w 32 (zP s ta tc la lc)).later hb);have HL:=hid (h.below (aC w (.cells (zP s ta tc la lc) 32)));have HB0:=hid (aC w (.cells (zP s ta tc la lc) 32));obtain ⟨W0,hW0⟩:∃x,(w.alloc (.cells (zP s ta tc la lc) 32))=x:=⟨_,rfl⟩;have HW0:=hid hW0;rw [hW0] at HZ HL HB0;clear h hW0;unfold Gives;go_enter func63,ntmps63;go_upto_region 1 with fail
 rw [HW0.o];have hS0:Below W0.heap.size W0 W0:=Below.refl _ _;refine plan.line ?_;refine plan.aA 0 _ (.pointer (some ⟨w.heap.size,0,none⟩)) rfl kr_ ?_;refine plan.aA 1 _ (.int .i64 s.op) rfl (ah (ad:=⟨w.heap.size,0,none⟩) rfl kr_ ((HZ.o _ hS0).cell 0) isAgg3) ?_;refine plan.mW 2 _ (.bool (aH s.op 100)) 66 #[.int .i64 s.op,.int .u8 100] (fun w'=>Below W0.heap.size W0 w') rfl (aj (dI s.op 100 W0) hS0) ?_;intro wa2 hSa2;refine plan.aA 3 _ (.bool (aH s.op 100)) rfl kr_ ?_;refine plan.aG 4 3 _ false (.bool (aH s.op 100)) (.pointer (some ⟨w.heap.size,2,none⟩)) rfl rfl (fun K=>kr_) ?_;intro xa4 ha4;refine plan.aG 5 3 _ false (.bool (aH s.op 100)) (.int .i64 s.fd) rfl rfl (fun K=>by have e:=ha4 K;subst e;exact (ah (ad:=⟨w.heap.size,2,none⟩) rfl kr_ ((HZ.o _ hSa2).cell 2) isAgg3)) ?_;intro xa5 ha5;refine plan.aG 6 3 _ false (.bool (aH s.op 100)) (.bool (s.fd == 0)) rfl rfl (fun K=>by have e:=ha5 K;subst e;exact (aW (n:=s.fd) (m:=0) rfl)) ?_;intro xa6 ha6;refine plan.aA 7 _ (.bool ((aH s.op 100) || (s.fd == 0))) rfl (plan.bF (c:=(aH s.op 100)) (e:=(s.fd == 0)) rfl (fun q=>Eq.trans (b:=xa6) kr_ (ha6 (by rw [q])))) ?_;refine plan.aA 8 _ (.bool ((aH s.op 100) || (s.fd == 0))) rfl kr_ ?_;refine plan.aG 9 8 _ true (.bool ((aH s.op 100) || (s.fd == 0))) (.pointer (some ⟨w.heap.size,0,none⟩)) rfl rfl (fun K=>kr_) ?_;intro xa9 ha9;refine plan.aG 10 8 _ true (.bool ((aH s.op 100) || (s.fd == 0))) (.int .i64 s.op) rfl rfl (fun K=>by have e:=ha9 K;subst e;exact (ah (ad:=⟨w.heap.size,0,none⟩) rfl kr_ ((HZ.o _ hSa2).cell 0) isAgg3)) ?_;intro xa10 ha10;refine plan.dJ 11 8 _ true (.bool ((aH s.op 100) || (s.fd == 0))) (.bool (aH s.op 112)) 66 #[.int .i64 s.op,.int .u8 112] (fun w'=>Below W0.heap.size W0 w') rfl rfl hSa2 (fun K=>by have e:=ha10 K;subst e;show _=_;kernel_rfl) (fun K=>aj (dI s.op 112 wa2) hSa2) ?_;intro xa11 wa11 hSa11 ha11;refine plan.aG 12 8 _ true (.bool ((aH s.op 100) || (s.fd == 0))) (.bool (aH s.op 112)) rfl rfl (fun K=>by have e:=ha11 K;subst e;show _=_;kernel_rfl) ?_;intro xa12 ha12;refine plan.aG 13 12 _ false (xa12) (.pointer (some ⟨w.heap.size,3,none⟩)) rfl rfl (fun K=>kr_) ?_;intro xa13 ha13;refine plan.aG 14 12 _ false (xa12) (.int .i64 s.pl) rfl rfl (fun K=>by have e:=ha13 K;subst e;exact (ah (ad:=⟨w.heap.size,3,none⟩) rfl kr_ ((HZ.o _ hSa11).cell 3) isAgg3)) ?_;intro xa14 ha14;refine plan.aG 15 12 _ false (xa12) (.bool (s.pl == 0)) rfl rfl (fun K=>by have e:=ha14 K;subst e;exact (aW (n:=s.pl) (m:=0) rfl)) ?_;intro xa15 ha15;refine plan.aG 16 8 _ true (.bool ((aH s.op 100) || (s.fd == 0))) (.bool ((aH s.op 112) || (s.pl == 0))) rfl rfl (fun K=>by have e:=ha12 K;subst e;exact (plan.bF (c:=(aH s.op 112)) (e:=(s.pl == 0)) rfl (fun q=>Eq.trans (b:=xa15) kr_ (ha15 (by rw [q]))))) ?_;intro xa16 ha16;refine plan.aA 17 _ (.bool (((aH s.op 100) || (s.fd == 0)) && ((aH s.op 112) || (s.pl == 0)))) rfl (plan.bH (c:=((aH s.op 100) || (s.fd == 0))) (e:=((aH s.op 112) || (s.pl == 0))) rfl (fun q=>Eq.trans (b:=xa16) kr_ (ha16 (by rw [q])))) ?_;refine plan.aA 18 _ (.bool (((aH s.op 100) || (s.fd == 0)) && ((aH s.op 112) || (s.pl == 0)))) rfl kr_ ?_;refine plan.aG 19 18 _ true (.bool (((aH s.op 100) || (s.fd == 0)) && ((aH s.op 112) || (s.pl == 0)))) (.pointer (some ⟨w.heap.size,0,none⟩)) rfl rfl (fun K=>kr_) ?_;intro xa19 ha19;refine plan.aG 20 18 _ true (.bool (((aH s.op 100) || (s.fd == 0)) && ((aH s.op 112) || (s.pl == 0)))) (.int .i64 s.op) rfl rfl (fun K=>by have e:=ha19 K;subst e;exact (ah (ad:=⟨w.heap.size,0,none⟩) rfl kr_ ((HZ.o _ hSa11).cell 0) isAgg3)) ?_;intro xa20 ha20;refine plan.dJ 21 18 _ true (.bool (((aH s.op 100) || (s.fd == 0)) && ((aH s.op 112) || (s.pl == 0)))) (.bool (aH s.op 116)) 66 #[.int .i64 s.op,.int .u8 116] (fun w'=>Below W0.heap.size W0 w') rfl rfl hSa11 (fun K=>by have e:=ha20 K;subst e;show _=_;kernel_rfl) (fun K=>aj (dI s.op 116 wa11) hSa11) ?_;intro xa21 wa21 hSa21 ha21;refine plan.aG 22 18 _ true (.bool (((aH s.op 100) || (s.fd == 0)) && ((aH s.op 112) || (s.pl == 0)))) (.bool (aH s.op 116)) rfl rfl (fun K=>by have e:=ha21 K;subst e;show _=_;kernel_rfl) ?_;intro xa22 ha22;refine plan.aG 23 22 _ false (xa22) (.pointer (some ⟨w.heap.size,4,none⟩)) rfl rfl (fun K=>kr_) ?_;intro xa23 ha23;refine plan.aG 24 22 _ false (xa22) (.int .i64 s.tt) rfl rfl (fun K=>by have e:=ha23 K;subst e;exact (ah (ad:=⟨w.heap.size,4,none⟩) rfl kr_ ((HZ.o _ hSa21).cell 4) isAgg3)) ?_;intro xa24 ha24;refine plan.aG 25 22 _ false (xa22) (.bool (s.tt == 0)) rfl rfl (fun K=>by have e:=ha24 K;subst e;exact (aW (n:=s.tt) (m:=0) rfl)) ?_;intro xa25 ha25;refine plan.aG 26 18 _ true (.bool (((aH s.op 100) || (s.fd == 0)) && ((aH s.op 112) || (s.pl == 0)))) (.bool ((aH s.op 116) || (s.tt == 0))) rfl rfl (fun K=>by have e:=ha22 K;subst e;exact (plan.bF (c:=(aH s.op 116)) (e:=(s.tt == 0)) rfl (fun q=>Eq.trans (b:=xa25) kr_ (ha25 (by rw [q]))))) ?_;intro xa26 ha26;refine plan.aA 27 _ (.bool ((((aH s.op 100) || (s.fd == 0)) && ((aH s.op 112) || (s.pl == 0))) && ((aH s.op 116) || (s.tt == 0)))) rfl (plan.bH (c:=(((aH s.op 100) || (s.fd == 0)) && ((aH s.op 112) || (s.pl == 0)))) (e:=((aH s.op 116) || (s.tt == 0))) rfl (fun q=>Eq.trans (b:=xa26) kr_ (ha26 (by rw [q])))) ?_;obtain ⟨k1,hk1⟩:∃q,Hid (((((aH s.op 100) || (s.fd == 0)) && ((aH s.op 112) || (s.pl == 0))) && ((aH s.op 116) || (s.tt == 0)))=q):=⟨_,hid rfl⟩;refine plan.aA 28 _ (.bool k1) rfl (plan.jl (c:=((((aH s.op 100) || (s.fd == 0)) && ((aH s.op 112) || (s.pl == 0))) && ((aH s.op 116) || (s.tt == 0)))) rfl hk1.o) ?_;refine plan.bQ de_ ?_;walk_nrm;go_upto_region 2 with fail
 refine plan.line ?_;refine plan.aA 0 _ (.bool k1) rfl kr_ ?_;refine plan.aA 1 _ (.bool k1) rfl kr_ ?_;refine plan.aG 2 1 _ true (.bool k1) (.pointer (some ⟨w.heap.size,0,none⟩)) rfl rfl (fun K=>kr_) ?_;intro xb2 hb2;refine plan.aG 3 1 _ true (.bool k1) (.int .i64 s.op) rfl rfl (fun K=>by have e:=hb2 K;subst e;exact (ah (ad:=⟨w.heap.size,0,none⟩) rfl kr_ ((HZ.o _ hSa21).cell 0) isAgg3)) ?_;intro xb3 hb3;refine plan.dJ 4 1 _ true (.bool k1) (.bool (aH s.op 97)) 66 #[.int .i64 s.op,.int .u8 97] (fun w'=>Below W0.heap.size W0 w') rfl rfl hSa21 (fun K=>by have e:=hb3 K;subst e;show _=_;kernel_rfl) (fun K=>aj (dI s.op 97 wa21) hSa21) ?_;intro xb4 wb4 hSb4 hb4;refine plan.aG 5 1 _ true (.bool k1) (.bool (aH s.op 97)) rfl rfl (fun K=>by have e:=hb4 K;subst e;show _=_;kernel_rfl) ?_;intro xb5 hb5;refine plan.aG 6 5 _ false (xb5) (.pointer (some ⟨w.heap.size,0,none⟩)) rfl rfl (fun K=>kr_) ?_;intro xb6 hb6;refine plan.aG 7 5 _ false (xb5) (.int .i64 s.op) rfl rfl (fun K=>by have e:=hb6 K;subst e;exact (ah (ad:=⟨w.heap.size,0,none⟩) rfl kr_ ((HZ.o _ hSb4).cell 0) isAgg3)) ?_;intro xb7 hb7;refine plan.dJ 8 5 _ false (xb5) (.bool (aH s.op 98)) 66 #[.int .i64 s.op,.int .u8 98] (fun w'=>Below W0.heap.size W0 w') rfl rfl hSb4 (fun K=>by have e:=hb7 K;subst e;show _=_;kernel_rfl) (fun K=>aj (dI s.op 98 wb4) hSb4) ?_;intro xb8 wb8 hSb8 hb8;refine plan.aG 9 1 _ true (.bool k1) (.bool ((aH s.op 97) || (aH s.op 98))) rfl rfl (fun K=>by have e:=hb5 K;subst e;exact (plan.bF (c:=(aH s.op 97)) (e:=(aH s.op 98)) rfl (fun q=>Eq.trans (b:=xb8) kr_ (hb8 (by rw [q]))))) ?_;intro xb9 hb9;refine plan.aG 10 1 _ true (.bool k1) (.bool ((aH s.op 97) || (aH s.op 98))) rfl rfl (fun K=>by have e:=hb9 K;subst e;show _=_;kernel_rfl) ?_;intro xb10 hb10;refine plan.aG 11 10 _ false (xb10) (.pointer (some ⟨w.heap.size,5,none⟩)) rfl rfl (fun K=>kr_) ?_;intro xb11 hb11;refine plan.aG 12 10 _ false (xb10) (.int .i64 s.a) rfl rfl (fun K=>by have e:=hb11 K;subst e;exact (ah (ad:=⟨w.heap.size,5,none⟩) rfl kr_ ((HZ.o _ hSb8).cell 5) isAgg3)) ?_;intro xb12 hb12;refine plan.aG 13 10 _ false (xb10) (.bool (s.a == 0)) rfl rfl (fun K=>by have e:=hb12 K;subst e;exact (aW (n:=s.a) (m:=0) rfl)) ?_;intro xb13 hb13;refine plan.aG 14 1 _ true (.bool k1) (.bool (((aH s.op 97) || (aH s.op 98)) || (s.a == 0))) rfl rfl (fun K=>by have e:=hb10 K;subst e;exact (plan.bF (c:=((aH s.op 97) || (aH s.op 98))) (e:=(s.a == 0)) rfl (fun q=>Eq.trans (b:=xb13) kr_ (hb13 (by rw [q]))))) ?_;intro xb14 hb14;refine plan.aA 15 _ (.bool (k1 && (((aH s.op 97) || (aH s.op 98)) || (s.a == 0)))) rfl (plan.bH (c:=k1) (e:=(((aH s.op 97) || (aH s.op 98)) || (s.a == 0))) rfl (fun q=>Eq.trans (b:=xb14) kr_ (hb14 (by rw [q])))) ?_;refine plan.aA 16 _ (.bool (k1 && (((aH s.op 97) || (aH s.op 98)) || (s.a == 0)))) rfl kr_ ?_;refine plan.aG 17 16 _ true (.bool (k1 && (((aH s.op 97) || (aH s.op 98)) || (s.a == 0)))) (.pointer (some ⟨w.heap.size,0,none⟩)) rfl rfl (fun K=>kr_) ?_;intro xb17 hb17;refine plan.aG 18 16 _ true (.bool (k1 && (((aH s.op 97) || (aH s.op 98)) || (s.a == 0)))) (.int .i64 s.op) rfl rfl (fun K=>by have e:=hb17 K;subst e;exact (ah (ad:=⟨w.heap.size,0,none⟩) rfl kr_ ((HZ.o _ hSb8).cell 0) isAgg3)) ?_;intro xb18 hb18;refine plan.dJ 19 16 _ true (.bool (k1 && (((aH s.op 97) || (aH s.op 98)) || (s.a == 0)))) (.bool (aH s.op 98)) 66 #[.int .i64 s.op,.int .u8 98] (fun w'=>Below W0.heap.size W0 w') rfl rfl hSb8 (fun K=>by have e:=hb18 K;subst e;show _=_;kernel_rfl) (fun K=>aj (dI s.op 98 wb8) hSb8) ?_;intro xb19 wb19 hSb19 hb19;refine plan.aG 20 16 _ true (.bool (k1 && (((aH s.op 97) || (aH s.op 98)) || (s.a == 0)))) (.bool (aH s.op 98)) rfl rfl (fun K=>by have e:=hb19 K;subst e;show _=_;kernel_rfl) ?_;intro xb20 hb20;refine plan.aG 21 20 _ false (xb20) (.pointer (some ⟨w.heap.size,6,none⟩)) rfl rfl (fun K=>kr_) ?_;intro xb21 hb21;refine plan.aG 22 20 _ false (xb20) (.int .i64 s.b) rfl rfl (fun K=>by have e:=hb21 K;subst e;exact (ah (ad:=⟨w.heap.size,6,none⟩) rfl kr_ ((HZ.o _ hSb19).cell 6) isAgg3)) ?_;intro xb22 hb22;refine plan.aG 23 20 _ false (xb20) (.bool (s.b == 0)) rfl rfl (fun K=>by have e:=hb22 K;subst e;exact (aW (n:=s.b) (m:=0) rfl)) ?_;intro xb23 hb23;refine plan.aG 24 16 _ true (.bool (k1 && (((aH s.op 97) || (aH s.op 98)) || (s.a == 0)))) (.bool ((aH s.op 98) || (s.b == 0))) rfl rfl (fun K=>by have e:=hb20 K;subst e;exact (plan.bF (c:=(aH s.op 98)) (e:=(s.b == 0)) rfl (fun q=>Eq.trans (b:=xb23) kr_ (hb23 (by rw [q]))))) ?_;intro xb24 hb24;refine plan.aA 25 _ (.bool ((k1 && (((aH s.op 97) || (aH s.op 98)) || (s.a == 0))) && ((aH s.op 98) || (s.b == 0)))) rfl (plan.bH (c:=(k1 && (((aH s.op 97) || (aH s.op 98)) || (s.a == 0)))) (e:=((aH s.op 98) || (s.b == 0))) rfl (fun q=>Eq.trans (b:=xb24) kr_ (hb24 (by rw [q])))) ?_;obtain ⟨k2,hk2⟩:∃q,Hid (((k1 && (((aH s.op 97) || (aH s.op 98)) || (s.a == 0))) && ((aH s.op 98) || (s.b == 0)))=q):=⟨_,hid rfl⟩;refine plan.aA 26 _ (.bool k2) rfl (plan.jl (c:=((k1 && (((aH s.op 97) || (aH s.op 98)) || (s.a == 0))) && ((aH s.op 98) || (s.b == 0)))) rfl hk2.o) ?_;refine plan.bQ de_ ?_;walk_nrm;go_upto_region 3 with fail
 refine plan.line ?_;refine plan.aA 0 _ (.bool k2) rfl kr_ ?_;refine plan.aA 1 _ (.bool k2) rfl kr_ ?_;refine plan.aG 2 1 _ true (.bool k2) (.pointer (some ⟨w.heap.size,0,none⟩)) rfl rfl (fun K=>kr_) ?_;intro xc2 hc2;refine plan.aG 3 1 _ true (.bool k2) (.int .i64 s.op) rfl rfl (fun K=>by have e:=hc2 K;subst e;exact (ah (ad:=⟨w.heap.size,0,none⟩) rfl kr_ ((HZ.o _ hSb19).cell 0) isAgg3)) ?_;intro xc3 hc3;refine plan.dJ 4 1 _ true (.bool k2) (.bool (aH s.op 70)) 66 #[.int .i64 s.op,.int .u8 70] (fun w'=>Below W0.heap.size W0 w') rfl rfl hSb19 (fun K=>by have e:=hc3 K;subst e;show _=_;kernel_rfl) (fun K=>aj (dI s.op 70 wb19) hSb19) ?_;intro xc4 wc4 hSc4 hc4;refine plan.aG 5 1 _ true (.bool k2) (.bool (aH s.op 70)) rfl rfl (fun K=>by have e:=hc4 K;subst e;show _=_;kernel_rfl) ?_;intro xc5 hc5;refine plan.aG 6 5 _ false (xc5) (.pointer (some ⟨w.heap.size,7,none⟩)) rfl rfl (fun K=>kr_) ?_;intro xc6 hc6;refine plan.aG 7 5 _ false (xc5) (zF s.f) rfl rfl (fun K=>by have e:=hc6 K;subst e;exact (ak (b:=w.heap.size) (off:=7) rfl (jT (HZ.o _ hSc4)) underlying26 rfl aX.o)) ?_;intro xc7 hc7;refine plan.aG 8 5 _ false (xc5) (zF fd0) rfl rfl (fun K=>kr_) ?_;intro xc8 hc8;refine plan.aG 9 5 _ false (xc5) (.bool (decide (s.f=fd0))) rfl rfl (fun K=>by have e:=hc7 K;subst e;have e:=hc8 K;subst e;exact (dH rfl (vP _ _ _ _ _ _) (GR s.f fd0 _))) ?_;intro xc9 hc9;refine plan.aG 10 1 _ true (.bool k2) (.bool ((aH s.op 70) || (decide (s.f=fd0)))) rfl rfl (fun K=>by have e:=hc5 K;subst e;exact (plan.bF (c:=(aH s.op 70)) (e:=(decide (s.f=fd0))) rfl (fun q=>Eq.trans (b:=xc9) kr_ (hc9 (by rw [q]))))) ?_;intro xc10 hc10;refine plan.aA 11 _ (.bool (k2 && ((aH s.op 70) || (decide (s.f=fd0))))) rfl (plan.bH (c:=k2) (e:=((aH s.op 70) || (decide (s.f=fd0)))) rfl (fun q=>Eq.trans (b:=xc10) kr_ (hc10 (by rw [q])))) ?_;refine plan.aA 12 _ (.bool (k2 && ((aH s.op 70) || (decide (s.f=fd0))))) rfl kr_ ?_;refine plan.aG 13 12 _ true (.bool (k2 && ((aH s.op 70) || (decide (s.f=fd0))))) (.pointer (some ⟨w.heap.size,0,none⟩)) rfl rfl (fun K=>kr_) ?_;intro xc13 hc13;refine plan.aG 14 12 _ true (.bool (k2 && ((aH s.op 70) || (decide (s.f=fd0))))) (.int .i64 s.op) rfl rfl (fun K=>by have e:=hc13 K;subst e;exact (ah (ad:=⟨w.heap.size,0,none⟩) rfl kr_ ((HZ.o _ hSc4).cell 0) isAgg3)) ?_;intro xc14 hc14;refine plan.dJ 15 12 _ true (.bool (k2 && ((aH s.op 70) || (decide (s.f=fd0))))) (.bool (aH s.op 86)) 66 #[.int .i64 s.op,.int .u8 86] (fun w'=>Below W0.heap.size W0 w') rfl rfl hSc4 (fun K=>by have e:=hc14 K;subst e;show _=_;kernel_rfl) (fun K=>aj (dI s.op 86 wc4) hSc4) ?_;intro xc15 wc15 hSc15 hc15;refine plan.aG 16 12 _ true (.bool (k2 && ((aH s.op 70) || (decide (s.f=fd0))))) (.bool (aH s.op 86)) rfl rfl (fun K=>by have e:=hc15 K;subst e;show _=_;kernel_rfl) ?_;intro xc16 hc16;refine plan.aG 17 16 _ false (xc16) (.pointer (some ⟨w.heap.size,12,none⟩)) rfl rfl (fun K=>kr_) ?_;intro xc17 hc17;refine plan.aG 18 16 _ false (xc16) (zV s.v) rfl rfl (fun K=>by have e:=hc17 K;subst e;exact (ak (b:=w.heap.size) (off:=12) rfl (mO (HZ.o _ hSc15)) underlying28 rfl iD.o)) ?_;intro xc18 hc18;refine plan.aG 19 16 _ false (xc16) (zV va0) rfl rfl (fun K=>kr_) ?_;intro xc19 hc19;refine plan.aG 20 16 _ false (xc16) (.bool (decide (s.v=va0))) rfl rfl (fun K=>by have e:=hc18 K;subst e;have e:=hc19 K;subst e;exact (dH rfl (zf _ _ _ _ _ _) (GN s.v va0 _))) ?_;intro xc20 hc20;refine plan.aG 21 12 _ true (.bool (k2 && ((aH s.op 70) || (decide (s.f=fd0))))) (.bool ((aH s.op 86) || (decide (s.v=va0)))) rfl rfl (fun K=>by have e:=hc16 K;subst e;exact (plan.bF (c:=(aH s.op 86)) (e:=(decide (s.v=va0))) rfl (fun q=>Eq.trans (b:=xc20) kr_ (hc20 (by rw [q]))))) ?_;intro xc21 hc21;refine plan.aA 22 _ (.bool ((k2 && ((aH s.op 70) || (decide (s.f=fd0)))) && ((aH s.op 86) || (decide (s.v=va0))))) rfl (plan.bH (c:=(k2 && ((aH s.op 70) || (decide (s.f=fd0))))) (e:=((aH s.op 86) || (decide (s.v=va0)))) rfl (fun q=>Eq.trans (b:=xc21) kr_ (hc21 (by rw [q])))) ?_;obtain ⟨k3,hk3⟩:∃q,Hid (((k2 && ((aH s.op 70) || (decide (s.f=fd0)))) && ((aH s.op 86) || (decide (s.v=va0))))=q):=⟨_,hid rfl⟩;refine plan.aA 23 _ (.bool k3) rfl (plan.jl (c:=((k2 && ((aH s.op 70) || (decide (s.f=fd0)))) && ((aH s.op 86) || (decide (s.v=va0))))) rfl hk3.o) ?_;refine plan.bQ de_ ?_;walk_nrm;go_upto_region 4 with fail
 refine plan.line ?_;refine plan.aA 0 _ (.bool k3) rfl kr_ ?_;refine plan.aA 1 _ (.bool k3) rfl kr_ ?_;refine plan.aG 2 1 _ true (.bool k3) (.pointer (some ⟨w.heap.size,0,none⟩)) rfl rfl (fun K=>kr_) ?_;intro xd2 hd2;refine plan.aG 3 1 _ true (.bool k3) (.int .i64 s.op) rfl rfl (fun K=>by have e:=hd2 K;subst e;exact (ah (ad:=⟨w.heap.size,0,none⟩) rfl kr_ ((HZ.o _ hSc15).cell 0) isAgg3)) ?_;intro xd3 hd3;refine plan.dJ 4 1 _ true (.bool k3) (.bool (aH s.op 84)) 66 #[.int .i64 s.op,.int .u8 84] (fun w'=>Below W0.heap.size W0 w') rfl rfl hSc15 (fun K=>by have e:=hd3 K;subst e;show _=_;kernel_rfl) (fun K=>aj (dI s.op 84 wc15) hSc15) ?_;intro xd4 wd4 hSd4 hd4;refine plan.aG 5 1 _ true (.bool k3) (.bool (aH s.op 84)) rfl rfl (fun K=>by have e:=hd4 K;subst e;show _=_;kernel_rfl) ?_;intro xd5 hd5;refine plan.aG 6 5 _ false (xd5) (.pointer (some ⟨w.heap.size,14,none⟩)) rfl rfl (fun K=>kr_) ?_;intro xd6 hd6;refine plan.aG 7 5 _ false (xd5) (.slice ta s.t.length tc) rfl rfl (fun K=>by have e:=hd6 K;subst e;exact (ay (ad:=⟨w.heap.size,14,none⟩) rfl ((HZ.o _ hSd4).cell 14) isAgg29)) ?_;intro xd7 hd7;refine plan.aG 8 5 _ false (xd5) (.int .i64 (s.t.length:Int)) rfl rfl (fun K=>by have e:=hd7 K;subst e;show _=_;kernel_rfl) ?_;intro xd8 hd8;refine plan.aG 9 5 _ false (xd5) (.bool ((s.t.length:Int) == 0)) rfl rfl (fun K=>by have e:=hd8 K;subst e;exact (aW (n:=(s.t.length:Int)) (m:=0) rfl)) ?_;intro xd9 hd9;refine plan.aG 10 1 _ true (.bool k3) (.bool ((aH s.op 84) || ((s.t.length:Int) == 0))) rfl rfl (fun K=>by have e:=hd5 K;subst e;exact (plan.bF (c:=(aH s.op 84)) (e:=((s.t.length:Int) == 0)) rfl (fun q=>Eq.trans (b:=xd9) kr_ (hd9 (by rw [q]))))) ?_;intro xd10 hd10;refine plan.aA 11 _ (.bool (k3 && ((aH s.op 84) || ((s.t.length:Int) == 0)))) rfl (plan.bH (c:=k3) (e:=((aH s.op 84) || ((s.t.length:Int) == 0))) rfl (fun q=>Eq.trans (b:=xd10) kr_ (hd10 (by rw [q])))) ?_;refine plan.aA 12 _ (.bool (k3 && ((aH s.op 84) || ((s.t.length:Int) == 0)))) rfl kr_ ?_;refine plan.aG 13 12 _ true (.bool (k3 && ((aH s.op 84) || ((s.t.length:Int) == 0)))) (.pointer (some ⟨w.heap.size,0,none⟩)) rfl rfl (fun K=>kr_) ?_;intro xd13 hd13;refine plan.aG 14 12 _ true (.bool (k3 && ((aH s.op 84) || ((s.t.length:Int) == 0)))) (.int .i64 s.op) rfl rfl (fun K=>by have e:=hd13 K;subst e;exact (ah (ad:=⟨w.heap.size,0,none⟩) rfl kr_ ((HZ.o _ hSd4).cell 0) isAgg3)) ?_;intro xd14 hd14;refine plan.dJ 15 12 _ true (.bool (k3 && ((aH s.op 84) || ((s.t.length:Int) == 0)))) (.bool (aH s.op 76)) 66 #[.int .i64 s.op,.int .u8 76] (fun w'=>Below W0.heap.size W0 w') rfl rfl hSd4 (fun K=>by have e:=hd14 K;subst e;show _=_;kernel_rfl) (fun K=>aj (dI s.op 76 wd4) hSd4) ?_;intro xd15 wd15 hSd15 hd15;refine plan.aG 16 12 _ true (.bool (k3 && ((aH s.op 84) || ((s.t.length:Int) == 0)))) (.bool (aH s.op 76)) rfl rfl (fun K=>by have e:=hd15 K;subst e;show _=_;kernel_rfl) ?_;intro xd16 hd16;refine plan.aG 17 16 _ false (xd16) (.pointer (some ⟨w.heap.size,15,none⟩)) rfl rfl (fun K=>kr_) ?_;intro xd17 hd17;refine plan.aG 18 16 _ false (xd16) (.slice la s.l.length lc) rfl rfl (fun K=>by have e:=hd17 K;subst e;exact (ay (ad:=⟨w.heap.size,15,none⟩) rfl ((HZ.o _ hSd15).cell 15) isAgg30)) ?_;intro xd18 hd18;refine plan.aG 19 16 _ false (xd16) (.int .i64 (s.l.length:Int)) rfl rfl (fun K=>by have e:=hd18 K;subst e;show _=_;kernel_rfl) ?_;intro xd19 hd19;refine plan.aG 20 16 _ false (xd16) (.bool ((s.l.length:Int) == 0)) rfl rfl (fun K=>by have e:=hd19 K;subst e;exact (aW (n:=(s.l.length:Int)) (m:=0) rfl)) ?_;intro xd20 hd20;refine plan.aG 21 12 _ true (.bool (k3 && ((aH s.op 84) || ((s.t.length:Int) == 0)))) (.bool ((aH s.op 76) || ((s.l.length:Int) == 0))) rfl rfl (fun K=>by have e:=hd16 K;subst e;exact (plan.bF (c:=(aH s.op 76)) (e:=((s.l.length:Int) == 0)) rfl (fun q=>Eq.trans (b:=xd20) kr_ (hd20 (by rw [q]))))) ?_;intro xd21 hd21;refine plan.aA 22 _ (.bool ((k3 && ((aH s.op 84) || ((s.t.length:Int) == 0))) && ((aH s.op 76) || ((s.l.length:Int) == 0)))) rfl (plan.bH (c:=(k3 && ((aH s.op 84) || ((s.t.length:Int) == 0)))) (e:=((aH s.op 76) || ((s.l.length:Int) == 0))) rfl (fun q=>Eq.trans (b:=xd21) kr_ (hd21 (by rw [q])))) ?_;obtain ⟨k4,hk4⟩:∃q,Hid (((k3 && ((aH s.op 84) || ((s.t.length:Int) == 0))) && ((aH s.op 76) || ((s.l.length:Int) == 0)))=q):=⟨_,hid rfl⟩;refine plan.aA 23 _ (.bool k4) rfl (plan.jl (c:=((k3 && ((aH s.op 84) || ((s.t.length:Int) == 0))) && ((aH s.op 76) || ((s.l.length:Int) == 0)))) rfl hk4.o) ?_;refine plan.bQ de_ ?_;walk_nrm;go_wp2;go_ret;refine ⟨?_,HB0.o.trans (hSd15.mono HB0.o.size)⟩;rw [<-hk4.o,<-hk3.o,<-hk2.o,<-hk1.o];rfl
end step
namespace step
open Go.RowKit
open field (Gives aC aj)
open schema (aY dH ak ay ah eU ji aX)
theorem Ji (op:Int) (w:World):(binOp .eql 9 (.string (tu op)) (.string ⟨#[]⟩)).run prog w=.ok (.bool (decide (uses op=[]))) w:=by
 have h:(tu op).toList=uses op:=texts.Bg _;have h0:(⟨#[]⟩:ByteArray).toList=[]:=by rw [ByteArray.toList_eq]
 go_simp;cases uses op <;> simp
def Sp.oO (s:Sp):Bool:=
 if (s.op == 4 || s.op == 24)=true then (decide (-1048576<=s.a/\s.a<=1048576) && s.a != 0) && decide (-1099511627776<=s.b/\s.b<=1099511627776)
 else if (s.op == 6 || s.op == 26)=true then decide (2<=s.a/\s.a<=1048576) else if (s.op == 5)=true then decide (1<=s.a/\s.a<=1000) && decide (Table s.t s.a) else if (s.op == 25)=true then decide (Table s.t 1000) else true
set_option maxRecDepth 20000 in
set_option maxHeartbeats 6400000 in
theorem Aw (s:Sp) (ta:Option Addr) (tc:Nat) (la:Option Addr) (lc:Nat) (w:World) (h:Lists w s ta la):Calls prog 65 #[zP s ta tc la lc] w (Gives (.bool s.oO) w):=by
 have HZ:Hid (∀w',Below (w.alloc (.cells (zP s ta tc la lc) 32)).heap.size (w.alloc (.cells (zP s ta tc la lc) 32)) w'->Block w' w.heap.size 32 (zP s ta tc la lc)):=hid (fun w' hb=>(Block.new w 32 (zP s ta tc la lc)).later hb);have HL:=hid (h.below (aC w (.cells (zP s ta tc la lc) 32)));have HB0:=hid (aC w (.cells (zP s ta tc la lc) 32));obtain ⟨W0,hW0⟩:∃x,(w.alloc (.cells (zP s ta tc la lc) 32))=x:=⟨_,rfl⟩;have HW0:=hid hW0;rw [hW0] at HZ HL HB0;clear h hW0;unfold Gives;go_enter func65,ntmps65;go_upto_region 1 with fail
 rw [HW0.o];have hS0:Below W0.heap.size W0 W0:=Below.refl _ _;refine plan.line ?_;refine plan.aA 0 _ (.pointer (some ⟨w.heap.size,0,none⟩)) rfl kr_ ?_;refine plan.aA 1 _ (.int .i64 s.op) rfl (ah (ad:=⟨w.heap.size,0,none⟩) rfl kr_ ((HZ.o _ hS0).cell 0) isAgg3) ?_;refine plan.aA 2 _ (.bool (s.op == 4)) rfl (aW (n:=s.op) (m:=4) rfl) ?_;refine plan.aA 3 _ (.bool (s.op == 4)) rfl kr_ ?_;refine plan.aG 4 3 _ false (.bool (s.op == 4)) (.pointer (some ⟨w.heap.size,0,none⟩)) rfl rfl (fun K=>kr_) ?_;intro xa4 ha4;refine plan.aG 5 3 _ false (.bool (s.op == 4)) (.int .i64 s.op) rfl rfl (fun K=>by have e:=ha4 K;subst e;exact (ah (ad:=⟨w.heap.size,0,none⟩) rfl kr_ ((HZ.o _ hS0).cell 0) isAgg3)) ?_;intro xa5 ha5;refine plan.aG 6 3 _ false (.bool (s.op == 4)) (.bool (s.op == 24)) rfl rfl (fun K=>by have e:=ha5 K;subst e;exact (aW (n:=s.op) (m:=24) rfl)) ?_;intro xa6 ha6;obtain ⟨k1,hk1⟩:∃q,Hid (((s.op == 4) || (s.op == 24))=q):=⟨_,hid rfl⟩;refine plan.aA 7 _ (.bool k1) rfl (plan.gJ (plan.bF (c:=(s.op == 4)) (e:=(s.op == 24)) rfl (fun q=>Eq.trans (b:=xa6) kr_ (ha6 (by rw [q])))) hk1.o) ?_;cases k1
 rotate_left
 ·skip;refine plan.bQ de_ ?_;walk_nrm;go_upto_region 2 with fail
  refine plan.line ?_;refine plan.aA 0 _ (.pointer (some ⟨w.heap.size,5,none⟩)) rfl kr_ ?_;refine plan.aA 1 _ (.int .i64 s.a) rfl (ah (ad:=⟨w.heap.size,5,none⟩) rfl kr_ ((HZ.o _ hS0).cell 5) isAgg3) ?_;refine plan.mW 2 _ (.bool (decide ((-1048576)<=s.a/\s.a<=1048576))) 64 #[.int .i64 s.a,.int .i64 (-1048576),.int .i64 1048576] (fun w'=>Below W0.heap.size W0 w') rfl (aj (fM s.a (-1048576) 1048576 W0) hS0) ?_;intro wb2 hSb2;refine plan.aA 3 _ (.bool (decide ((-1048576)<=s.a/\s.a<=1048576))) rfl kr_ ?_;refine plan.aG 4 3 _ true (.bool (decide ((-1048576)<=s.a/\s.a<=1048576))) (.pointer (some ⟨w.heap.size,5,none⟩)) rfl rfl (fun K=>kr_) ?_;intro xb4 hb4;refine plan.aG 5 3 _ true (.bool (decide ((-1048576)<=s.a/\s.a<=1048576))) (.int .i64 s.a) rfl rfl (fun K=>by have e:=hb4 K;subst e;exact (ah (ad:=⟨w.heap.size,5,none⟩) rfl kr_ ((HZ.o _ hSb2).cell 5) isAgg3)) ?_;intro xb5 hb5;refine plan.aG 6 3 _ true (.bool (decide ((-1048576)<=s.a/\s.a<=1048576))) (.bool (s.a != 0)) rfl rfl (fun K=>by have e:=hb5 K;subst e;exact (eU (n:=s.a) (m:=0) rfl (hid rfl))) ?_;intro xb6 hb6;refine plan.aA 7 _ (.bool ((decide ((-1048576)<=s.a/\s.a<=1048576)) && (s.a != 0))) rfl (plan.bH (c:=(decide ((-1048576)<=s.a/\s.a<=1048576))) (e:=(s.a != 0)) rfl (fun q=>Eq.trans (b:=xb6) kr_ (hb6 (by rw [q])))) ?_;refine plan.aA 8 _ (.bool ((decide ((-1048576)<=s.a/\s.a<=1048576)) && (s.a != 0))) rfl kr_ ?_;refine plan.aG 9 8 _ true (.bool ((decide ((-1048576)<=s.a/\s.a<=1048576)) && (s.a != 0))) (.pointer (some ⟨w.heap.size,6,none⟩)) rfl rfl (fun K=>kr_) ?_;intro xb9 hb9;refine plan.aG 10 8 _ true (.bool ((decide ((-1048576)<=s.a/\s.a<=1048576)) && (s.a != 0))) (.int .i64 s.b) rfl rfl (fun K=>by have e:=hb9 K;subst e;exact (ah (ad:=⟨w.heap.size,6,none⟩) rfl kr_ ((HZ.o _ hSb2).cell 6) isAgg3)) ?_;intro xb10 hb10;refine plan.dJ 11 8 _ true (.bool ((decide ((-1048576)<=s.a/\s.a<=1048576)) && (s.a != 0))) (.bool (decide ((-1099511627776)<=s.b/\s.b<=1099511627776))) 64 #[.int .i64 s.b,.int .i64 (-1099511627776),.int .i64 1099511627776] (fun w'=>Below W0.heap.size W0 w') rfl rfl hSb2 (fun K=>by have e:=hb10 K;subst e;show _=_;kernel_rfl) (fun K=>aj (fM s.b (-1099511627776) 1099511627776 wb2) hSb2) ?_;intro xb11 wb11 hSb11 hb11;refine plan.aA 12 _ (.bool (((decide ((-1048576)<=s.a/\s.a<=1048576)) && (s.a != 0)) && (decide ((-1099511627776)<=s.b/\s.b<=1099511627776)))) rfl (plan.bH (c:=((decide ((-1048576)<=s.a/\s.a<=1048576)) && (s.a != 0))) (e:=(decide ((-1099511627776)<=s.b/\s.b<=1099511627776))) rfl (fun q=>Eq.trans (b:=xb11) kr_ (hb11 (by rw [q])))) ?_;refine plan.aA 13 _ (.bool (((decide ((-1048576)<=s.a/\s.a<=1048576)) && (s.a != 0)) && (decide ((-1099511627776)<=s.b/\s.b<=1099511627776)))) rfl kr_ ?_;refine plan.bQ de_ ?_;walk_nrm;go_wp2;go_ret;exact ⟨by unfold Sp.oO;rw [if_pos hk1.o];rfl,HB0.o.trans (hSb11.mono HB0.o.size)⟩
 refine plan.bQ de_ ?_;walk_nrm;go_upto_region 3 with fail
 refine plan.line ?_;refine plan.aA 0 _ (.pointer (some ⟨w.heap.size,0,none⟩)) rfl kr_ ?_;refine plan.aA 1 _ (.int .i64 s.op) rfl (ah (ad:=⟨w.heap.size,0,none⟩) rfl kr_ ((HZ.o _ hS0).cell 0) isAgg3) ?_;refine plan.aA 2 _ (.bool (s.op == 6)) rfl (aW (n:=s.op) (m:=6) rfl) ?_;refine plan.aA 3 _ (.bool (s.op == 6)) rfl kr_ ?_;refine plan.aG 4 3 _ false (.bool (s.op == 6)) (.pointer (some ⟨w.heap.size,0,none⟩)) rfl rfl (fun K=>kr_) ?_;intro xc4 hc4;refine plan.aG 5 3 _ false (.bool (s.op == 6)) (.int .i64 s.op) rfl rfl (fun K=>by have e:=hc4 K;subst e;exact (ah (ad:=⟨w.heap.size,0,none⟩) rfl kr_ ((HZ.o _ hS0).cell 0) isAgg3)) ?_;intro xc5 hc5;refine plan.aG 6 3 _ false (.bool (s.op == 6)) (.bool (s.op == 26)) rfl rfl (fun K=>by have e:=hc5 K;subst e;exact (aW (n:=s.op) (m:=26) rfl)) ?_;intro xc6 hc6;obtain ⟨k2,hk2⟩:∃q,Hid (((s.op == 6) || (s.op == 26))=q):=⟨_,hid rfl⟩;refine plan.aA 7 _ (.bool k2) rfl (plan.gJ (plan.bF (c:=(s.op == 6)) (e:=(s.op == 26)) rfl (fun q=>Eq.trans (b:=xc6) kr_ (hc6 (by rw [q])))) hk2.o) ?_;cases k2
 rotate_left
 ·skip;refine plan.bQ de_ ?_;walk_nrm;go_upto_region 4 with fail
  refine plan.line ?_;refine plan.aA 0 _ (.pointer (some ⟨w.heap.size,5,none⟩)) rfl kr_ ?_;refine plan.aA 1 _ (.int .i64 s.a) rfl (ah (ad:=⟨w.heap.size,5,none⟩) rfl kr_ ((HZ.o _ hS0).cell 5) isAgg3) ?_;refine plan.mW 2 _ (.bool (decide (2<=s.a/\s.a<=1048576))) 64 #[.int .i64 s.a,.int .i64 2,.int .i64 1048576] (fun w'=>Below W0.heap.size W0 w') rfl (aj (fM s.a 2 1048576 W0) hS0) ?_;intro wd2 hSd2;refine plan.aA 3 _ (.bool (decide (2<=s.a/\s.a<=1048576))) rfl kr_ ?_;refine plan.bQ de_ ?_;walk_nrm;go_wp2;go_ret;exact ⟨by unfold Sp.oO;rw [if_neg (by rw [hk1.o];simp),if_pos hk2.o];rfl,HB0.o.trans (hSd2.mono HB0.o.size)⟩
 refine plan.bQ de_ ?_;walk_nrm;go_upto_region 5 with fail
 refine plan.line ?_;refine plan.aA 0 _ (.pointer (some ⟨w.heap.size,0,none⟩)) rfl kr_ ?_;refine plan.aA 1 _ (.int .i64 s.op) rfl (ah (ad:=⟨w.heap.size,0,none⟩) rfl kr_ ((HZ.o _ hS0).cell 0) isAgg3) ?_;obtain ⟨k3,hk3⟩:∃q,Hid ((s.op == 5)=q):=⟨_,hid rfl⟩;refine plan.aA 2 _ (.bool k3) rfl (plan.gJ (aW (n:=s.op) (m:=5) rfl) hk3.o) ?_;cases k3
 rotate_left
 ·skip;refine plan.bQ de_ ?_;walk_nrm;go_upto_region 6 with fail
  refine plan.line ?_;refine plan.aA 0 _ (.pointer (some ⟨w.heap.size,5,none⟩)) rfl kr_ ?_;refine plan.aA 1 _ (.int .i64 s.a) rfl (ah (ad:=⟨w.heap.size,5,none⟩) rfl kr_ ((HZ.o _ hS0).cell 5) isAgg3) ?_;refine plan.mW 2 _ (.bool (decide (1<=s.a/\s.a<=1000))) 64 #[.int .i64 s.a,.int .i64 1,.int .i64 1000] (fun w'=>Below W0.heap.size W0 w') rfl (aj (fM s.a 1 1000 W0) hS0) ?_;intro wf2 hSf2;refine plan.aA 3 _ (.bool (decide (1<=s.a/\s.a<=1000))) rfl kr_ ?_;refine plan.aG 4 3 _ true (.bool (decide (1<=s.a/\s.a<=1000))) (.pointer (some ⟨w.heap.size,14,none⟩)) rfl rfl (fun K=>kr_) ?_;intro xf4 hf4;refine plan.aG 5 3 _ true (.bool (decide (1<=s.a/\s.a<=1000))) (.slice ta s.t.length tc) rfl rfl (fun K=>by have e:=hf4 K;subst e;exact (ay (ad:=⟨w.heap.size,14,none⟩) rfl ((HZ.o _ hSf2).cell 14) isAgg29)) ?_;intro xf5 hf5;refine plan.aG 6 3 _ true (.bool (decide (1<=s.a/\s.a<=1000))) (.pointer (some ⟨w.heap.size,5,none⟩)) rfl rfl (fun K=>kr_) ?_;intro xf6 hf6;refine plan.aG 7 3 _ true (.bool (decide (1<=s.a/\s.a<=1000))) (.int .i64 s.a) rfl rfl (fun K=>by have e:=hf6 K;subst e;exact (ah (ad:=⟨w.heap.size,5,none⟩) rfl kr_ ((HZ.o _ hSf2).cell 5) isAgg3)) ?_;intro xf7 hf7;refine plan.dJ 8 3 _ true (.bool (decide (1<=s.a/\s.a<=1000))) (.bool (decide (Table s.t s.a))) 105 #[.slice ta s.t.length tc,.int .i64 s.a] (fun w'=>Below W0.heap.size W0 w') rfl rfl hSf2 (fun K=>by have e:=hf5 K;subst e;have e:=hf7 K;subst e;show _=_;kernel_rfl) (fun K=>aj (rX ta tc s.t s.a (of_decide_eq_true (Value.bool.inj K)).1 (of_decide_eq_true (Value.bool.inj K)).2 wf2 ((HL.o.below hSf2).t) HL.o.mt) hSf2) ?_;intro xf8 wf8 hSf8 hf8;refine plan.aA 9 _ (.bool ((decide (1<=s.a/\s.a<=1000)) && (decide (Table s.t s.a)))) rfl (plan.bH (c:=(decide (1<=s.a/\s.a<=1000))) (e:=(decide (Table s.t s.a))) rfl (fun q=>Eq.trans (b:=xf8) kr_ (hf8 (by rw [q])))) ?_;refine plan.aA 10 _ (.bool ((decide (1<=s.a/\s.a<=1000)) && (decide (Table s.t s.a)))) rfl kr_ ?_;refine plan.bQ de_ ?_;walk_nrm;go_wp2;go_ret;exact ⟨by unfold Sp.oO;rw [if_neg (by rw [hk1.o];simp),if_neg (by rw [hk2.o];simp),if_pos hk3.o];rfl,HB0.o.trans (hSf8.mono HB0.o.size)⟩
 refine plan.bQ de_ ?_;walk_nrm;go_upto_region 7 with fail
 refine plan.line ?_;refine plan.aA 0 _ (.pointer (some ⟨w.heap.size,0,none⟩)) rfl kr_ ?_;refine plan.aA 1 _ (.int .i64 s.op) rfl (ah (ad:=⟨w.heap.size,0,none⟩) rfl kr_ ((HZ.o _ hS0).cell 0) isAgg3) ?_;obtain ⟨k4,hk4⟩:∃q,Hid ((s.op == 25)=q):=⟨_,hid rfl⟩;refine plan.aA 2 _ (.bool k4) rfl (plan.gJ (aW (n:=s.op) (m:=25) rfl) hk4.o) ?_;cases k4
 rotate_left
 ·skip;refine plan.bQ de_ ?_;walk_nrm;go_upto_region 8 with fail
  refine plan.line ?_;refine plan.aA 0 _ (.pointer (some ⟨w.heap.size,14,none⟩)) rfl kr_ ?_;refine plan.aA 1 _ (.slice ta s.t.length tc) rfl (ay (ad:=⟨w.heap.size,14,none⟩) rfl ((HZ.o _ hS0).cell 14) isAgg29) ?_;refine plan.mW 2 _ (.bool (decide (Table s.t 1000))) 105 #[.slice ta s.t.length tc,.int .i64 1000] (fun w'=>Below W0.heap.size W0 w') rfl (aj (rX ta tc s.t 1000 om_ om_ W0 ((HL.o.below hS0).t) HL.o.mt) hS0) ?_;intro wi2 hSi2;refine plan.aA 3 _ (.bool (decide (Table s.t 1000))) rfl kr_ ?_;refine plan.bQ de_ ?_;walk_nrm;go_wp2;go_ret;exact ⟨by unfold Sp.oO;rw [if_neg (by rw [hk1.o];simp),if_neg (by rw [hk2.o];simp),if_neg (by rw [hk3.o];simp),if_pos hk4.o];rfl,HB0.o.trans (hSi2.mono HB0.o.size)⟩
 refine plan.bQ de_ ?_;walk_nrm;go_wp2;go_ret;exact ⟨by unfold Sp.oO;rw [if_neg (by rw [hk1.o];simp),if_neg (by rw [hk2.o];simp),if_neg (by rw [hk3.o];simp),if_neg (by rw [hk4.o];simp)];rfl,HB0.o.trans (hS0.mono HB0.o.size)⟩
def Sp.no1 (s:Sp):Bool:=((((((decide (uses s.op=[]) || !s.eu) || !decide (0<=s.fm/\s.fm<=200)) || !decide (0<=s.fd/\s.fd<=255)) || !decide (0<=s.pl/\s.pl<=8)) || !decide (0<=s.tt/\s.tt<=255)) || !s.oO)
def Sp.no2 (s:Sp):Bool:=(aH s.op 116 && (s.tt == s.fd)) || (aH s.op 70 && !decide s.f.Right)
def Sp.no3 (s:Sp):Bool:=(aH s.op 70 && aH s.op 100) && (s.f.id != s.fd)
def Sp.no4 (s:Sp):Bool:=(s.op == 2) && (!decide (-1099511627776<=s.v.n/\s.v.n<=1099511627776) || decide ((s.v.s.size:Int)>32))
def Sp.no5 (s:Sp):Bool:=(aH s.op 112 && aH s.op 86) && !decide (s.f.Has s.v)
def Sp.Ky (s:Sp):Bool:= !aH s.op 76 || decide (schema.Fine (s.fm,s.l))
def Sp.lI (s:Sp):Bool:= !s.no1 && !s.no2 && !s.no3 && !s.no4 && !s.no5 && s.Ky
set_option maxRecDepth 20000 in
set_option maxHeartbeats 12800000 in
theorem yw (s:Sp) (ta:Option Addr) (tc:Nat) (la:Option Addr) (lc:Nat) (w:World) (h:Lists w s ta la):Calls prog 31 #[zP s ta tc la lc] w (Gives (.bool s.lI) w):=by
 have HZ:Hid (∀w',Below (w.alloc (.cells (zP s ta tc la lc) 32)).heap.size (w.alloc (.cells (zP s ta tc la lc) 32)) w'->Block w' w.heap.size 32 (zP s ta tc la lc)):=hid (fun w' hb=>(Block.new w 32 (zP s ta tc la lc)).later hb);have HL:=hid (h.below (aC w (.cells (zP s ta tc la lc) 32)));have HB0:=hid (aC w (.cells (zP s ta tc la lc) 32));obtain ⟨W0,hW0⟩:∃x,(w.alloc (.cells (zP s ta tc la lc) 32))=x:=⟨_,rfl⟩;have HW0:=hid hW0;rw [hW0] at HZ HL HB0;clear h hW0;unfold Gives;go_enter func31,ntmps31;go_upto_region 1 with fail
 rw [HW0.o];have hS0:Below W0.heap.size W0 W0:=Below.refl _ _;refine plan.line ?_;refine plan.aA 0 _ (.pointer (some ⟨w.heap.size,0,none⟩)) rfl kr_ ?_;refine plan.aA 1 _ (.int .i64 s.op) rfl (ah (ad:=⟨w.heap.size,0,none⟩) rfl kr_ ((HZ.o _ hS0).cell 0) isAgg3) ?_;refine plan.mW 2 _ (.string (tu s.op)) 62 #[.int .i64 s.op] (fun w'=>Below W0.heap.size W0 w') rfl (aj (zX s.op W0) hS0) ?_;intro wa2 hSa2;refine plan.aA 3 _ (.bool (decide (uses s.op=[]))) rfl (dH rfl (by simp [go_sem]) (Ji s.op _)) ?_;refine plan.aA 4 _ (.bool (decide (uses s.op=[]))) rfl kr_ ?_;refine plan.aG 5 4 _ false (.bool (decide (uses s.op=[]))) (zP s ta tc la lc) rfl rfl (fun K=>(ak (b:=w.heap.size) (off:=0) rfl (HZ.o _ hSa2).whole underlying32 rfl aV.o)) ?_;intro xa5 ha5;refine plan.dJ 6 4 _ false (.bool (decide (uses s.op=[]))) (.bool s.eu) 63 #[zP s ta tc la lc] (fun w'=>Below W0.heap.size W0 w') rfl rfl hSa2 (fun K=>by have e:=ha5 K;subst e;show _=_;kernel_rfl) (fun K=>aj (AP s ta tc la lc wa2 (HL.o.below hSa2)) hSa2) ?_;intro xa6 wa6 hSa6 ha6;refine plan.aG 7 4 _ false (.bool (decide (uses s.op=[]))) (.bool (!s.eu)) rfl rfl (fun K=>by have e:=ha6 K;subst e;show _=_;kernel_rfl) ?_;intro xa7 ha7;refine plan.aA 8 _ (.bool ((decide (uses s.op=[])) || (!s.eu))) rfl (plan.bF (c:=(decide (uses s.op=[]))) (e:=(!s.eu)) rfl (fun q=>Eq.trans (b:=xa7) kr_ (ha7 (by rw [q])))) ?_;refine plan.aA 9 _ (.bool ((decide (uses s.op=[])) || (!s.eu))) rfl kr_ ?_;refine plan.aG 10 9 _ false (.bool ((decide (uses s.op=[])) || (!s.eu))) (.pointer (some ⟨w.heap.size,1,none⟩)) rfl rfl (fun K=>kr_) ?_;intro xa10 ha10;refine plan.aG 11 9 _ false (.bool ((decide (uses s.op=[])) || (!s.eu))) (.int .i64 s.fm) rfl rfl (fun K=>by have e:=ha10 K;subst e;exact (ah (ad:=⟨w.heap.size,1,none⟩) rfl kr_ ((HZ.o _ hSa6).cell 1) isAgg3)) ?_;intro xa11 ha11;refine plan.dJ 12 9 _ false (.bool ((decide (uses s.op=[])) || (!s.eu))) (.bool (decide (0<=s.fm/\s.fm<=200))) 64 #[.int .i64 s.fm,.int .i64 0,.int .i64 200] (fun w'=>Below W0.heap.size W0 w') rfl rfl hSa6 (fun K=>by have e:=ha11 K;subst e;show _=_;kernel_rfl) (fun K=>aj (fM s.fm 0 200 wa6) hSa6) ?_;intro xa12 wa12 hSa12 ha12;refine plan.aG 13 9 _ false (.bool ((decide (uses s.op=[])) || (!s.eu))) (.bool (!(decide (0<=s.fm/\s.fm<=200)))) rfl rfl (fun K=>by have e:=ha12 K;subst e;show _=_;kernel_rfl) ?_;intro xa13 ha13;refine plan.aA 14 _ (.bool (((decide (uses s.op=[])) || (!s.eu)) || (!(decide (0<=s.fm/\s.fm<=200))))) rfl (plan.bF (c:=((decide (uses s.op=[])) || (!s.eu))) (e:=(!(decide (0<=s.fm/\s.fm<=200)))) rfl (fun q=>Eq.trans (b:=xa13) kr_ (ha13 (by rw [q])))) ?_;refine plan.aA 15 _ (.bool (((decide (uses s.op=[])) || (!s.eu)) || (!(decide (0<=s.fm/\s.fm<=200))))) rfl kr_ ?_;refine plan.aG 16 15 _ false (.bool (((decide (uses s.op=[])) || (!s.eu)) || (!(decide (0<=s.fm/\s.fm<=200))))) (.pointer (some ⟨w.heap.size,2,none⟩)) rfl rfl (fun K=>kr_) ?_;intro xa16 ha16;refine plan.aG 17 15 _ false (.bool (((decide (uses s.op=[])) || (!s.eu)) || (!(decide (0<=s.fm/\s.fm<=200))))) (.int .i64 s.fd) rfl rfl (fun K=>by have e:=ha16 K;subst e;exact (ah (ad:=⟨w.heap.size,2,none⟩) rfl kr_ ((HZ.o _ hSa12).cell 2) isAgg3)) ?_;intro xa17 ha17;refine plan.dJ 18 15 _ false (.bool (((decide (uses s.op=[])) || (!s.eu)) || (!(decide (0<=s.fm/\s.fm<=200))))) (.bool (decide (0<=s.fd/\s.fd<=255))) 64 #[.int .i64 s.fd,.int .i64 0,.int .i64 255] (fun w'=>Below W0.heap.size W0 w') rfl rfl hSa12 (fun K=>by have e:=ha17 K;subst e;show _=_;kernel_rfl) (fun K=>aj (fM s.fd 0 255 wa12) hSa12) ?_;intro xa18 wa18 hSa18 ha18;refine plan.aG 19 15 _ false (.bool (((decide (uses s.op=[])) || (!s.eu)) || (!(decide (0<=s.fm/\s.fm<=200))))) (.bool (!(decide (0<=s.fd/\s.fd<=255)))) rfl rfl (fun K=>by have e:=ha18 K;subst e;show _=_;kernel_rfl) ?_;intro xa19 ha19;refine plan.aA 20 _ (.bool ((((decide (uses s.op=[])) || (!s.eu)) || (!(decide (0<=s.fm/\s.fm<=200)))) || (!(decide (0<=s.fd/\s.fd<=255))))) rfl (plan.bF (c:=(((decide (uses s.op=[])) || (!s.eu)) || (!(decide (0<=s.fm/\s.fm<=200))))) (e:=(!(decide (0<=s.fd/\s.fd<=255)))) rfl (fun q=>Eq.trans (b:=xa19) kr_ (ha19 (by rw [q])))) ?_;refine plan.aA 21 _ (.bool ((((decide (uses s.op=[])) || (!s.eu)) || (!(decide (0<=s.fm/\s.fm<=200)))) || (!(decide (0<=s.fd/\s.fd<=255))))) rfl kr_ ?_;refine plan.aG 22 21 _ false (.bool ((((decide (uses s.op=[])) || (!s.eu)) || (!(decide (0<=s.fm/\s.fm<=200)))) || (!(decide (0<=s.fd/\s.fd<=255))))) (.pointer (some ⟨w.heap.size,3,none⟩)) rfl rfl (fun K=>kr_) ?_;intro xa22 ha22;refine plan.aG 23 21 _ false (.bool ((((decide (uses s.op=[])) || (!s.eu)) || (!(decide (0<=s.fm/\s.fm<=200)))) || (!(decide (0<=s.fd/\s.fd<=255))))) (.int .i64 s.pl) rfl rfl (fun K=>by have e:=ha22 K;subst e;exact (ah (ad:=⟨w.heap.size,3,none⟩) rfl kr_ ((HZ.o _ hSa18).cell 3) isAgg3)) ?_;intro xa23 ha23;refine plan.dJ 24 21 _ false (.bool ((((decide (uses s.op=[])) || (!s.eu)) || (!(decide (0<=s.fm/\s.fm<=200)))) || (!(decide (0<=s.fd/\s.fd<=255))))) (.bool (decide (0<=s.pl/\s.pl<=8))) 64 #[.int .i64 s.pl,.int .i64 0,.int .i64 8] (fun w'=>Below W0.heap.size W0 w') rfl rfl hSa18 (fun K=>by have e:=ha23 K;subst e;show _=_;kernel_rfl) (fun K=>aj (fM s.pl 0 8 wa18) hSa18) ?_;intro xa24 wa24 hSa24 ha24;refine plan.aG 25 21 _ false (.bool ((((decide (uses s.op=[])) || (!s.eu)) || (!(decide (0<=s.fm/\s.fm<=200)))) || (!(decide (0<=s.fd/\s.fd<=255))))) (.bool (!(decide (0<=s.pl/\s.pl<=8)))) rfl rfl (fun K=>by have e:=ha24 K;subst e;show _=_;kernel_rfl) ?_;intro xa25 ha25;refine plan.aA 26 _ (.bool (((((decide (uses s.op=[])) || (!s.eu)) || (!(decide (0<=s.fm/\s.fm<=200)))) || (!(decide (0<=s.fd/\s.fd<=255)))) || (!(decide (0<=s.pl/\s.pl<=8))))) rfl (plan.bF (c:=((((decide (uses s.op=[])) || (!s.eu)) || (!(decide (0<=s.fm/\s.fm<=200)))) || (!(decide (0<=s.fd/\s.fd<=255))))) (e:=(!(decide (0<=s.pl/\s.pl<=8)))) rfl (fun q=>Eq.trans (b:=xa25) kr_ (ha25 (by rw [q])))) ?_;refine plan.aA 27 _ (.bool (((((decide (uses s.op=[])) || (!s.eu)) || (!(decide (0<=s.fm/\s.fm<=200)))) || (!(decide (0<=s.fd/\s.fd<=255)))) || (!(decide (0<=s.pl/\s.pl<=8))))) rfl kr_ ?_;refine plan.aG 28 27 _ false (.bool (((((decide (uses s.op=[])) || (!s.eu)) || (!(decide (0<=s.fm/\s.fm<=200)))) || (!(decide (0<=s.fd/\s.fd<=255)))) || (!(decide (0<=s.pl/\s.pl<=8))))) (.pointer (some ⟨w.heap.size,4,none⟩)) rfl rfl (fun K=>kr_) ?_;intro xa28 ha28;refine plan.aG 29 27 _ false (.bool (((((decide (uses s.op=[])) || (!s.eu)) || (!(decide (0<=s.fm/\s.fm<=200)))) || (!(decide (0<=s.fd/\s.fd<=255)))) || (!(decide (0<=s.pl/\s.pl<=8))))) (.int .i64 s.tt) rfl rfl (fun K=>by have e:=ha28 K;subst e;exact (ah (ad:=⟨w.heap.size,4,none⟩) rfl kr_ ((HZ.o _ hSa24).cell 4) isAgg3)) ?_;intro xa29 ha29;refine plan.dJ 30 27 _ false (.bool (((((decide (uses s.op=[])) || (!s.eu)) || (!(decide (0<=s.fm/\s.fm<=200)))) || (!(decide (0<=s.fd/\s.fd<=255)))) || (!(decide (0<=s.pl/\s.pl<=8))))) (.bool (decide (0<=s.tt/\s.tt<=255))) 64 #[.int .i64 s.tt,.int .i64 0,.int .i64 255] (fun w'=>Below W0.heap.size W0 w') rfl rfl hSa24 (fun K=>by have e:=ha29 K;subst e;show _=_;kernel_rfl) (fun K=>aj (fM s.tt 0 255 wa24) hSa24) ?_;intro xa30 wa30 hSa30 ha30;refine plan.aG 31 27 _ false (.bool (((((decide (uses s.op=[])) || (!s.eu)) || (!(decide (0<=s.fm/\s.fm<=200)))) || (!(decide (0<=s.fd/\s.fd<=255)))) || (!(decide (0<=s.pl/\s.pl<=8))))) (.bool (!(decide (0<=s.tt/\s.tt<=255)))) rfl rfl (fun K=>by have e:=ha30 K;subst e;show _=_;kernel_rfl) ?_;intro xa31 ha31;refine plan.aA 32 _ (.bool ((((((decide (uses s.op=[])) || (!s.eu)) || (!(decide (0<=s.fm/\s.fm<=200)))) || (!(decide (0<=s.fd/\s.fd<=255)))) || (!(decide (0<=s.pl/\s.pl<=8)))) || (!(decide (0<=s.tt/\s.tt<=255))))) rfl (plan.bF (c:=(((((decide (uses s.op=[])) || (!s.eu)) || (!(decide (0<=s.fm/\s.fm<=200)))) || (!(decide (0<=s.fd/\s.fd<=255)))) || (!(decide (0<=s.pl/\s.pl<=8))))) (e:=(!(decide (0<=s.tt/\s.tt<=255)))) rfl (fun q=>Eq.trans (b:=xa31) kr_ (ha31 (by rw [q])))) ?_;refine plan.aA 33 _ (.bool ((((((decide (uses s.op=[])) || (!s.eu)) || (!(decide (0<=s.fm/\s.fm<=200)))) || (!(decide (0<=s.fd/\s.fd<=255)))) || (!(decide (0<=s.pl/\s.pl<=8)))) || (!(decide (0<=s.tt/\s.tt<=255))))) rfl kr_ ?_;refine plan.aG 34 33 _ false (.bool ((((((decide (uses s.op=[])) || (!s.eu)) || (!(decide (0<=s.fm/\s.fm<=200)))) || (!(decide (0<=s.fd/\s.fd<=255)))) || (!(decide (0<=s.pl/\s.pl<=8)))) || (!(decide (0<=s.tt/\s.tt<=255))))) (zP s ta tc la lc) rfl rfl (fun K=>(ak (b:=w.heap.size) (off:=0) rfl (HZ.o _ hSa30).whole underlying32 rfl aV.o)) ?_;intro xa34 ha34;refine plan.dJ 35 33 _ false (.bool ((((((decide (uses s.op=[])) || (!s.eu)) || (!(decide (0<=s.fm/\s.fm<=200)))) || (!(decide (0<=s.fd/\s.fd<=255)))) || (!(decide (0<=s.pl/\s.pl<=8)))) || (!(decide (0<=s.tt/\s.tt<=255))))) (.bool s.oO) 65 #[zP s ta tc la lc] (fun w'=>Below W0.heap.size W0 w') rfl rfl hSa30 (fun K=>by have e:=ha34 K;subst e;show _=_;kernel_rfl) (fun K=>aj (Aw s ta tc la lc wa30 (HL.o.below hSa30)) hSa30) ?_;intro xa35 wa35 hSa35 ha35;refine plan.aG 36 33 _ false (.bool ((((((decide (uses s.op=[])) || (!s.eu)) || (!(decide (0<=s.fm/\s.fm<=200)))) || (!(decide (0<=s.fd/\s.fd<=255)))) || (!(decide (0<=s.pl/\s.pl<=8)))) || (!(decide (0<=s.tt/\s.tt<=255))))) (.bool (!s.oO)) rfl rfl (fun K=>by have e:=ha35 K;subst e;show _=_;kernel_rfl) ?_;intro xa36 ha36;obtain ⟨k0,hk0⟩:∃q,Hid ((((((((decide (uses s.op=[])) || (!s.eu)) || (!(decide (0<=s.fm/\s.fm<=200)))) || (!(decide (0<=s.fd/\s.fd<=255)))) || (!(decide (0<=s.pl/\s.pl<=8)))) || (!(decide (0<=s.tt/\s.tt<=255)))) || (!s.oO))=q):=⟨_,hid rfl⟩;refine plan.aA 37 _ (.bool k0) rfl (plan.gJ (plan.bF (c:=((((((decide (uses s.op=[])) || (!s.eu)) || (!(decide (0<=s.fm/\s.fm<=200)))) || (!(decide (0<=s.fd/\s.fd<=255)))) || (!(decide (0<=s.pl/\s.pl<=8)))) || (!(decide (0<=s.tt/\s.tt<=255))))) (e:=(!s.oO)) rfl (fun q=>Eq.trans (b:=xa36) kr_ (ha36 (by rw [q])))) hk0.o) ?_;cases k0
 rotate_left
 ·have hn:s.no1=true:=hk0.o;refine plan.bQ de_ ?_;walk_nrm;go_wp2;go_ret;exact ⟨by unfold Sp.lI;rw [hn];simp,HB0.o.trans (hSa35.mono HB0.o.size)⟩
 have hn0:s.no1=false:=hk0.o;refine plan.bQ de_ ?_;walk_nrm;go_upto_region 3 with fail
 refine plan.line ?_;refine plan.aA 0 _ (.pointer (some ⟨w.heap.size,0,none⟩)) rfl kr_ ?_;refine plan.aA 1 _ (.int .i64 s.op) rfl (ah (ad:=⟨w.heap.size,0,none⟩) rfl kr_ ((HZ.o _ hSa35).cell 0) isAgg3) ?_;refine plan.mW 2 _ (.bool (aH s.op 116)) 66 #[.int .i64 s.op,.int .u8 116] (fun w'=>Below W0.heap.size W0 w') rfl (aj (dI s.op 116 wa35) hSa35) ?_;intro wb2 hSb2;refine plan.aA 3 _ (.bool (aH s.op 116)) rfl kr_ ?_;refine plan.aG 4 3 _ true (.bool (aH s.op 116)) (.pointer (some ⟨w.heap.size,4,none⟩)) rfl rfl (fun K=>kr_) ?_;intro xb4 hb4;refine plan.aG 5 3 _ true (.bool (aH s.op 116)) (.int .i64 s.tt) rfl rfl (fun K=>by have e:=hb4 K;subst e;exact (ah (ad:=⟨w.heap.size,4,none⟩) rfl kr_ ((HZ.o _ hSb2).cell 4) isAgg3)) ?_;intro xb5 hb5;refine plan.aG 6 3 _ true (.bool (aH s.op 116)) (.pointer (some ⟨w.heap.size,2,none⟩)) rfl rfl (fun K=>kr_) ?_;intro xb6 hb6;refine plan.aG 7 3 _ true (.bool (aH s.op 116)) (.int .i64 s.fd) rfl rfl (fun K=>by have e:=hb6 K;subst e;exact (ah (ad:=⟨w.heap.size,2,none⟩) rfl kr_ ((HZ.o _ hSb2).cell 2) isAgg3)) ?_;intro xb7 hb7;refine plan.aG 8 3 _ true (.bool (aH s.op 116)) (.bool (s.tt == s.fd)) rfl rfl (fun K=>by have e:=hb5 K;subst e;have e:=hb7 K;subst e;exact (aW (n:=s.tt) (m:=s.fd) rfl)) ?_;intro xb8 hb8;refine plan.aA 9 _ (.bool ((aH s.op 116) && (s.tt == s.fd))) rfl (plan.bH (c:=(aH s.op 116)) (e:=(s.tt == s.fd)) rfl (fun q=>Eq.trans (b:=xb8) kr_ (hb8 (by rw [q])))) ?_;refine plan.aA 10 _ (.bool ((aH s.op 116) && (s.tt == s.fd))) rfl kr_ ?_;refine plan.aG 11 10 _ false (.bool ((aH s.op 116) && (s.tt == s.fd))) (.pointer (some ⟨w.heap.size,0,none⟩)) rfl rfl (fun K=>kr_) ?_;intro xb11 hb11;refine plan.aG 12 10 _ false (.bool ((aH s.op 116) && (s.tt == s.fd))) (.int .i64 s.op) rfl rfl (fun K=>by have e:=hb11 K;subst e;exact (ah (ad:=⟨w.heap.size,0,none⟩) rfl kr_ ((HZ.o _ hSb2).cell 0) isAgg3)) ?_;intro xb12 hb12;refine plan.dJ 13 10 _ false (.bool ((aH s.op 116) && (s.tt == s.fd))) (.bool (aH s.op 70)) 66 #[.int .i64 s.op,.int .u8 70] (fun w'=>Below W0.heap.size W0 w') rfl rfl hSb2 (fun K=>by have e:=hb12 K;subst e;show _=_;kernel_rfl) (fun K=>aj (dI s.op 70 wb2) hSb2) ?_;intro xb13 wb13 hSb13 hb13;refine plan.aG 14 10 _ false (.bool ((aH s.op 116) && (s.tt == s.fd))) (.bool (aH s.op 70)) rfl rfl (fun K=>by have e:=hb13 K;subst e;show _=_;kernel_rfl) ?_;intro xb14 hb14;refine plan.aG 15 14 _ true (xb14) (.pointer (some ⟨w.heap.size,7,none⟩)) rfl rfl (fun K=>kr_) ?_;intro xb15 hb15;refine plan.aG 16 14 _ true (xb14) (zF s.f) rfl rfl (fun K=>by have e:=hb15 K;subst e;exact (ak (b:=w.heap.size) (off:=7) rfl (jT (HZ.o _ hSb13)) underlying26 rfl aX.o)) ?_;intro xb16 hb16;refine plan.dJ 17 14 _ true (xb14) (.bool (decide s.f.Right)) 67 #[zF s.f] (fun w'=>Below W0.heap.size W0 w') rfl rfl hSb13 (fun K=>by have e:=hb16 K;subst e;show _=_;kernel_rfl) (fun K=>aj (field.aP s.f wb13) hSb13) ?_;intro xb17 wb17 hSb17 hb17;refine plan.aG 18 14 _ true (xb14) (.bool (!(decide s.f.Right))) rfl rfl (fun K=>by have e:=hb17 K;subst e;show _=_;kernel_rfl) ?_;intro xb18 hb18;refine plan.aG 19 10 _ false (.bool ((aH s.op 116) && (s.tt == s.fd))) (.bool ((aH s.op 70) && (!(decide s.f.Right)))) rfl rfl (fun K=>by have e:=hb14 K;subst e;exact (plan.bH (c:=(aH s.op 70)) (e:=(!(decide s.f.Right))) rfl (fun q=>Eq.trans (b:=xb18) kr_ (hb18 (by rw [q]))))) ?_;intro xb19 hb19;obtain ⟨k1,hk1⟩:∃q,Hid ((((aH s.op 116) && (s.tt == s.fd)) || ((aH s.op 70) && (!(decide s.f.Right))))=q):=⟨_,hid rfl⟩;refine plan.aA 20 _ (.bool k1) rfl (plan.gJ (plan.bF (c:=((aH s.op 116) && (s.tt == s.fd))) (e:=((aH s.op 70) && (!(decide s.f.Right)))) rfl (fun q=>Eq.trans (b:=xb19) kr_ (hb19 (by rw [q])))) hk1.o) ?_;cases k1
 rotate_left
 ·have hn:s.no2=true:=hk1.o;refine plan.bQ de_ ?_;walk_nrm;go_wp2;go_ret;exact ⟨by unfold Sp.lI;rw [hn0,hn];simp,HB0.o.trans (hSb17.mono HB0.o.size)⟩
 have hn1:s.no2=false:=hk1.o;refine plan.bQ de_ ?_;walk_nrm;go_upto_region 5 with fail
 refine plan.line ?_;refine plan.aA 0 _ (.pointer (some ⟨w.heap.size,0,none⟩)) rfl kr_ ?_;refine plan.aA 1 _ (.int .i64 s.op) rfl (ah (ad:=⟨w.heap.size,0,none⟩) rfl kr_ ((HZ.o _ hSb17).cell 0) isAgg3) ?_;refine plan.mW 2 _ (.bool (aH s.op 70)) 66 #[.int .i64 s.op,.int .u8 70] (fun w'=>Below W0.heap.size W0 w') rfl (aj (dI s.op 70 wb17) hSb17) ?_;intro wc2 hSc2;refine plan.aA 3 _ (.bool (aH s.op 70)) rfl kr_ ?_;refine plan.aG 4 3 _ true (.bool (aH s.op 70)) (.pointer (some ⟨w.heap.size,0,none⟩)) rfl rfl (fun K=>kr_) ?_;intro xc4 hc4;refine plan.aG 5 3 _ true (.bool (aH s.op 70)) (.int .i64 s.op) rfl rfl (fun K=>by have e:=hc4 K;subst e;exact (ah (ad:=⟨w.heap.size,0,none⟩) rfl kr_ ((HZ.o _ hSc2).cell 0) isAgg3)) ?_;intro xc5 hc5;refine plan.dJ 6 3 _ true (.bool (aH s.op 70)) (.bool (aH s.op 100)) 66 #[.int .i64 s.op,.int .u8 100] (fun w'=>Below W0.heap.size W0 w') rfl rfl hSc2 (fun K=>by have e:=hc5 K;subst e;show _=_;kernel_rfl) (fun K=>aj (dI s.op 100 wc2) hSc2) ?_;intro xc6 wc6 hSc6 hc6;refine plan.aA 7 _ (.bool ((aH s.op 70) && (aH s.op 100))) rfl (plan.bH (c:=(aH s.op 70)) (e:=(aH s.op 100)) rfl (fun q=>Eq.trans (b:=xc6) kr_ (hc6 (by rw [q])))) ?_;refine plan.aA 8 _ (.bool ((aH s.op 70) && (aH s.op 100))) rfl kr_ ?_;refine plan.aG 9 8 _ true (.bool ((aH s.op 70) && (aH s.op 100))) (.pointer (some ⟨w.heap.size,7,none⟩)) rfl rfl (fun K=>kr_) ?_;intro xc9 hc9;refine plan.aG 10 8 _ true (.bool ((aH s.op 70) && (aH s.op 100))) (.pointer (some ⟨w.heap.size,7,none⟩)) rfl rfl (fun K=>by have e:=hc9 K;subst e;show _=_;kernel_rfl) ?_;intro xc10 hc10;refine plan.aG 11 8 _ true (.bool ((aH s.op 70) && (aH s.op 100))) (.int .i64 s.f.id) rfl rfl (fun K=>by have e:=hc10 K;subst e;exact (ah (ad:=⟨w.heap.size,7,none⟩) rfl kr_ ((HZ.o _ hSc6).cell 7) isAgg3)) ?_;intro xc11 hc11;refine plan.aG 12 8 _ true (.bool ((aH s.op 70) && (aH s.op 100))) (.pointer (some ⟨w.heap.size,2,none⟩)) rfl rfl (fun K=>kr_) ?_;intro xc12 hc12;refine plan.aG 13 8 _ true (.bool ((aH s.op 70) && (aH s.op 100))) (.int .i64 s.fd) rfl rfl (fun K=>by have e:=hc12 K;subst e;exact (ah (ad:=⟨w.heap.size,2,none⟩) rfl kr_ ((HZ.o _ hSc6).cell 2) isAgg3)) ?_;intro xc13 hc13;refine plan.aG 14 8 _ true (.bool ((aH s.op 70) && (aH s.op 100))) (.bool (s.f.id != s.fd)) rfl rfl (fun K=>by have e:=hc11 K;subst e;have e:=hc13 K;subst e;exact (eU (n:=s.f.id) (m:=s.fd) rfl (hid rfl))) ?_;intro xc14 hc14;obtain ⟨k2,hk2⟩:∃q,Hid ((((aH s.op 70) && (aH s.op 100)) && (s.f.id != s.fd))=q):=⟨_,hid rfl⟩;refine plan.aA 15 _ (.bool k2) rfl (plan.gJ (plan.bH (c:=((aH s.op 70) && (aH s.op 100))) (e:=(s.f.id != s.fd)) rfl (fun q=>Eq.trans (b:=xc14) kr_ (hc14 (by rw [q])))) hk2.o) ?_;cases k2
 rotate_left
 ·have hn:s.no3=true:=hk2.o;refine plan.bQ de_ ?_;walk_nrm;go_wp2;go_ret;exact ⟨by unfold Sp.lI;rw [hn0,hn1,hn];simp,HB0.o.trans (hSc6.mono HB0.o.size)⟩
 have hn2:s.no3=false:=hk2.o;refine plan.bQ de_ ?_;walk_nrm;go_upto_region 7 with fail
 refine plan.line ?_;refine plan.aA 0 _ (.pointer (some ⟨w.heap.size,0,none⟩)) rfl kr_ ?_;refine plan.aA 1 _ (.int .i64 s.op) rfl (ah (ad:=⟨w.heap.size,0,none⟩) rfl kr_ ((HZ.o _ hSc6).cell 0) isAgg3) ?_;refine plan.aA 2 _ (.bool (s.op == 2)) rfl (aW (n:=s.op) (m:=2) rfl) ?_;refine plan.aA 3 _ (.bool (s.op == 2)) rfl kr_ ?_;refine plan.aG 4 3 _ true (.bool (s.op == 2)) (.pointer (some ⟨w.heap.size,12,none⟩)) rfl rfl (fun K=>kr_) ?_;intro xd4 hd4;refine plan.aG 5 3 _ true (.bool (s.op == 2)) (.pointer (some ⟨w.heap.size,12,none⟩)) rfl rfl (fun K=>by have e:=hd4 K;subst e;show _=_;kernel_rfl) ?_;intro xd5 hd5;refine plan.aG 6 3 _ true (.bool (s.op == 2)) (.int .i64 s.v.n) rfl rfl (fun K=>by have e:=hd5 K;subst e;exact (ah (ad:=⟨w.heap.size,12,none⟩) rfl kr_ ((HZ.o _ hSc6).cell 12) isAgg3)) ?_;intro xd6 hd6;refine plan.dJ 7 3 _ true (.bool (s.op == 2)) (.bool (decide ((-1099511627776)<=s.v.n/\s.v.n<=1099511627776))) 64 #[.int .i64 s.v.n,.int .i64 (-1099511627776),.int .i64 1099511627776] (fun w'=>Below W0.heap.size W0 w') rfl rfl hSc6 (fun K=>by have e:=hd6 K;subst e;show _=_;kernel_rfl) (fun K=>aj (fM s.v.n (-1099511627776) 1099511627776 wc6) hSc6) ?_;intro xd7 wd7 hSd7 hd7;refine plan.aG 8 3 _ true (.bool (s.op == 2)) (.bool (!(decide ((-1099511627776)<=s.v.n/\s.v.n<=1099511627776)))) rfl rfl (fun K=>by have e:=hd7 K;subst e;show _=_;kernel_rfl) ?_;intro xd8 hd8;refine plan.aG 9 3 _ true (.bool (s.op == 2)) (.bool (!(decide ((-1099511627776)<=s.v.n/\s.v.n<=1099511627776)))) rfl rfl (fun K=>by have e:=hd8 K;subst e;show _=_;kernel_rfl) ?_;intro xd9 hd9;refine plan.aG 10 9 _ false (xd9) (.pointer (some ⟨w.heap.size,12,none⟩)) rfl rfl (fun K=>kr_) ?_;intro xd10 hd10;refine plan.aG 11 9 _ false (xd9) (.pointer (some ⟨w.heap.size,13,none⟩)) rfl rfl (fun K=>by have e:=hd10 K;subst e;show _=_;kernel_rfl) ?_;intro xd11 hd11;refine plan.aG 12 9 _ false (xd9) (.string s.v.s) rfl rfl (fun K=>by have e:=hd11 K;subst e;exact (field.qU (ad:=⟨w.heap.size,13,none⟩) rfl ((HZ.o _ hSd7).cell 13) isAgg9)) ?_;intro xd12 hd12;refine plan.aG 13 9 _ false (xd9) (.int .i64 (s.v.s.size:Int)) rfl rfl (fun K=>by have e:=hd12 K;subst e;show _=_;kernel_rfl) ?_;intro xd13 hd13;refine plan.aG 14 9 _ false (xd9) (.bool (decide ((s.v.s.size:Int)>32))) rfl rfl (fun K=>by have e:=hd13 K;subst e;exact (ji (n:=(s.v.s.size:Int)) (m:=32) rfl (hid rfl))) ?_;intro xd14 hd14;refine plan.aG 15 3 _ true (.bool (s.op == 2)) (.bool ((!(decide ((-1099511627776)<=s.v.n/\s.v.n<=1099511627776))) || (decide ((s.v.s.size:Int)>32)))) rfl rfl (fun K=>by have e:=hd9 K;subst e;exact (plan.bF (c:=(!(decide ((-1099511627776)<=s.v.n/\s.v.n<=1099511627776)))) (e:=(decide ((s.v.s.size:Int)>32))) rfl (fun q=>Eq.trans (b:=xd14) kr_ (hd14 (by rw [q]))))) ?_;intro xd15 hd15;obtain ⟨k3,hk3⟩:∃q,Hid (((s.op == 2) && ((!(decide ((-1099511627776)<=s.v.n/\s.v.n<=1099511627776))) || (decide ((s.v.s.size:Int)>32))))=q):=⟨_,hid rfl⟩;refine plan.aA 16 _ (.bool k3) rfl (plan.gJ (plan.bH (c:=(s.op == 2)) (e:=((!(decide ((-1099511627776)<=s.v.n/\s.v.n<=1099511627776))) || (decide ((s.v.s.size:Int)>32)))) rfl (fun q=>Eq.trans (b:=xd15) kr_ (hd15 (by rw [q])))) hk3.o) ?_;cases k3
 rotate_left
 ·have hn:s.no4=true:=hk3.o;refine plan.bQ de_ ?_;walk_nrm;go_wp2;go_ret;exact ⟨by unfold Sp.lI;rw [hn0,hn1,hn2,hn];simp,HB0.o.trans (hSd7.mono HB0.o.size)⟩
 have hn3:s.no4=false:=hk3.o;refine plan.bQ de_ ?_;walk_nrm;go_upto_region 9 with fail
 refine plan.line ?_;refine plan.aA 0 _ (.pointer (some ⟨w.heap.size,0,none⟩)) rfl kr_ ?_;refine plan.aA 1 _ (.int .i64 s.op) rfl (ah (ad:=⟨w.heap.size,0,none⟩) rfl kr_ ((HZ.o _ hSd7).cell 0) isAgg3) ?_;refine plan.mW 2 _ (.bool (aH s.op 112)) 66 #[.int .i64 s.op,.int .u8 112] (fun w'=>Below W0.heap.size W0 w') rfl (aj (dI s.op 112 wd7) hSd7) ?_;intro we2 hSe2;refine plan.aA 3 _ (.bool (aH s.op 112)) rfl kr_ ?_;refine plan.aG 4 3 _ true (.bool (aH s.op 112)) (.pointer (some ⟨w.heap.size,0,none⟩)) rfl rfl (fun K=>kr_) ?_;intro xe4 he4;refine plan.aG 5 3 _ true (.bool (aH s.op 112)) (.int .i64 s.op) rfl rfl (fun K=>by have e:=he4 K;subst e;exact (ah (ad:=⟨w.heap.size,0,none⟩) rfl kr_ ((HZ.o _ hSe2).cell 0) isAgg3)) ?_;intro xe5 he5;refine plan.dJ 6 3 _ true (.bool (aH s.op 112)) (.bool (aH s.op 86)) 66 #[.int .i64 s.op,.int .u8 86] (fun w'=>Below W0.heap.size W0 w') rfl rfl hSe2 (fun K=>by have e:=he5 K;subst e;show _=_;kernel_rfl) (fun K=>aj (dI s.op 86 we2) hSe2) ?_;intro xe6 we6 hSe6 he6;refine plan.aA 7 _ (.bool ((aH s.op 112) && (aH s.op 86))) rfl (plan.bH (c:=(aH s.op 112)) (e:=(aH s.op 86)) rfl (fun q=>Eq.trans (b:=xe6) kr_ (he6 (by rw [q])))) ?_;refine plan.aA 8 _ (.bool ((aH s.op 112) && (aH s.op 86))) rfl kr_ ?_;refine plan.aG 9 8 _ true (.bool ((aH s.op 112) && (aH s.op 86))) (.pointer (some ⟨w.heap.size,7,none⟩)) rfl rfl (fun K=>kr_) ?_;intro xe9 he9;refine plan.aG 10 8 _ true (.bool ((aH s.op 112) && (aH s.op 86))) (zF s.f) rfl rfl (fun K=>by have e:=he9 K;subst e;exact (ak (b:=w.heap.size) (off:=7) rfl (jT (HZ.o _ hSe6)) underlying26 rfl aX.o)) ?_;intro xe10 he10;refine plan.aG 11 8 _ true (.bool ((aH s.op 112) && (aH s.op 86))) (.pointer (some ⟨w.heap.size,12,none⟩)) rfl rfl (fun K=>kr_) ?_;intro xe11 he11;refine plan.aG 12 8 _ true (.bool ((aH s.op 112) && (aH s.op 86))) (zV s.v) rfl rfl (fun K=>by have e:=he11 K;subst e;exact (ak (b:=w.heap.size) (off:=12) rfl (mO (HZ.o _ hSe6)) underlying28 rfl iD.o)) ?_;intro xe12 he12;refine plan.dJ 13 8 _ true (.bool ((aH s.op 112) && (aH s.op 86))) (.bool (decide (s.f.Has s.v))) 38 #[zF s.f,zV s.v] (fun w'=>Below W0.heap.size W0 w') rfl rfl hSe6 (fun K=>by have e:=he10 K;subst e;have e:=he12 K;subst e;show _=_;kernel_rfl) (fun K=>aj (field.nZ s.f s.v we6) hSe6) ?_;intro xe13 we13 hSe13 he13;refine plan.aG 14 8 _ true (.bool ((aH s.op 112) && (aH s.op 86))) (.bool (!(decide (s.f.Has s.v)))) rfl rfl (fun K=>by have e:=he13 K;subst e;show _=_;kernel_rfl) ?_;intro xe14 he14;obtain ⟨k4,hk4⟩:∃q,Hid ((((aH s.op 112) && (aH s.op 86)) && (!(decide (s.f.Has s.v))))=q):=⟨_,hid rfl⟩;refine plan.aA 15 _ (.bool k4) rfl (plan.gJ (plan.bH (c:=((aH s.op 112) && (aH s.op 86))) (e:=(!(decide (s.f.Has s.v)))) rfl (fun q=>Eq.trans (b:=xe14) kr_ (he14 (by rw [q])))) hk4.o) ?_;cases k4
 rotate_left
 ·have hn:s.no5=true:=hk4.o;refine plan.bQ de_ ?_;walk_nrm;go_wp2;go_ret;exact ⟨by unfold Sp.lI;rw [hn0,hn1,hn2,hn3,hn];simp,HB0.o.trans (hSe13.mono HB0.o.size)⟩
 have hn4:s.no5=false:=hk4.o;refine plan.bQ de_ ?_;walk_nrm;go_upto_region 11 with fail
 refine plan.line ?_;refine plan.aA 0 _ (.pointer (some ⟨w.heap.size,0,none⟩)) rfl kr_ ?_;refine plan.aA 1 _ (.int .i64 s.op) rfl (ah (ad:=⟨w.heap.size,0,none⟩) rfl kr_ ((HZ.o _ hSe13).cell 0) isAgg3) ?_;refine plan.mW 2 _ (.bool (aH s.op 76)) 66 #[.int .i64 s.op,.int .u8 76] (fun w'=>Below W0.heap.size W0 w') rfl (aj (dI s.op 76 we13) hSe13) ?_;intro wf2 hSf2;refine plan.aA 3 _ (.bool (!(aH s.op 76))) rfl kr_ ?_;refine plan.aA 4 _ (.bool (!(aH s.op 76))) rfl kr_ ?_;refine plan.aG 5 4 _ false (.bool (!(aH s.op 76))) (.pointer (some ⟨w.heap.size,1,none⟩)) rfl rfl (fun K=>kr_) ?_;intro xf5 hf5;refine plan.aG 6 4 _ false (.bool (!(aH s.op 76))) (.int .i64 s.fm) rfl rfl (fun K=>by have e:=hf5 K;subst e;exact (ah (ad:=⟨w.heap.size,1,none⟩) rfl kr_ ((HZ.o _ hSf2).cell 1) isAgg3)) ?_;intro xf6 hf6;refine plan.aG 7 4 _ false (.bool (!(aH s.op 76))) (.pointer (some ⟨w.heap.size,15,none⟩)) rfl rfl (fun K=>kr_) ?_;intro xf7 hf7;refine plan.aG 8 4 _ false (.bool (!(aH s.op 76))) (.slice la s.l.length lc) rfl rfl (fun K=>by have e:=hf7 K;subst e;exact (ay (ad:=⟨w.heap.size,15,none⟩) rfl ((HZ.o _ hSf2).cell 15) isAgg30)) ?_;intro xf8 hf8;refine plan.aG 9 4 _ false (.bool (!(aH s.op 76))) (zS s.fm la s.l.length lc) rfl rfl (fun K=>by have e:=hf6 K;subst e;have e:=hf8 K;subst e;show _=_;kernel_rfl) ?_;intro xf9 hf9;refine plan.dJ 10 4 _ false (.bool (!(aH s.op 76))) (.bool (decide (schema.Fine (s.fm,s.l)))) 37 #[zS s.fm la s.l.length lc] (fun w'=>Below W0.heap.size W0 w') rfl rfl hSf2 (fun K=>by have e:=hf9 K;subst e;show _=_;kernel_rfl) (fun K=>aj (schema.mM s.fm la lc s.l wf2 ((HL.o.below hSf2).l) HL.o.ml) hSf2) ?_;intro xf10 wf10 hSf10 hf10;refine plan.aA 11 _ (.bool ((!(aH s.op 76)) || (decide (schema.Fine (s.fm,s.l))))) rfl (plan.bF (c:=(!(aH s.op 76))) (e:=(decide (schema.Fine (s.fm,s.l)))) rfl (fun q=>Eq.trans (b:=xf10) kr_ (hf10 (by rw [q])))) ?_;obtain ⟨k9,hk9⟩:∃q,Hid (((!(aH s.op 76)) || (decide (schema.Fine (s.fm,s.l))))=q):=⟨_,hid rfl⟩;refine plan.aA 12 _ (.bool k9) rfl (plan.jl (c:=((!(aH s.op 76)) || (decide (schema.Fine (s.fm,s.l))))) rfl hk9.o) ?_;have hy:s.Ky=k9:=hk9.o;refine plan.bQ de_ ?_;walk_nrm;go_wp2;go_ret;exact ⟨by unfold Sp.lI;rw [hn0,hn1,hn2,hn3,hn4,hy];simp,HB0.o.trans (hSf10.mono HB0.o.size)⟩
end step
namespace turn
open Go.RowKit schema step typing
open field (Va bytesOf jK jJ)
open record (cu Has eY sJ qp nS)
theorem vU {v:Int} {F:List schema.Form} {s:Sp} (h:(on v F s).2.2=0):
  (on v F s).2.1=applied F (aJ F s)/\found (aJ F s)=true/\twice (aJ F s)=false/\beyond (aJ F s)=false/\fP (aJ F s)=true:=by
 have hf:=(lZ h).1;unfold on at h ⊢;rw [if_pos hf] at h ⊢;by_cases he:err (aJ F s)=0
 ·rw [if_pos he] at h ⊢;refine ⟨?_, ?_⟩
  ·by_cases hr:Right v (applied F (aJ F s))
   ·rw [if_pos hr]
   ·rw [if_neg hr] at h;simp at h
  ·unfold err at he;cases h1:found (aJ F s) <;> cases h2:twice (aJ F s) <;> cases h3:beyond (aJ F s) <;> cases h4:fP (aJ F s) <;> simp [h1,h2,h3,h4] at he ⊢
 ·rw [if_neg he] at h;exact absurd h he
theorem ug {F:List schema.Form} {x:Int} {p:schema.Form} (hs:Sorted F):named F x=some p↔p∈F/\p.1=x:=by
 refine ⟨cZ, ?_⟩;rintro ⟨h1,h2⟩;cases hn:named F x with
 | none=>exact absurd (List.mem_map_of_mem (f:=(·.1)) h1) (by rw [h2];exact lM hn)
 | some q=>
  obtain ⟨h3,h4⟩:=cZ hn;have e1:=pos_at hs h1;have e2:=pos_at hs h3;rw [h2] at e1;rw [h4] at e2;rw [e1] at e2;exact e2.symm
inductive Now (F:List schema.Form) (s:Sp):List schema.Form->Prop
 | form:s.op=9->named F s.fm=none->Now F s (F.take (pos F s.fm)++([(s.fm,s.l)]++F.drop (pos F s.fm)))
 | gone (L:List field.Fd):s.op=10->named F s.fm=some (s.fm,L)->Now F s (F.filter (fun p=>decide (p.1≠s.fm)))
 | other (L:List field.Fd):s.op≠9->s.op≠10->named F s.fm=some (s.fm,L)->aJ F s=⟨s,s.fm,L,true,ai (ids L) s.fd,bG L (ai (ids L) s.fd)⟩->Now F s (F.set (pos F s.fm) (s.fm,fields (aJ F s)))
theorem zK {v:Int} {F:List schema.Form} {s:Sp} (h:(on v F s).2.2=0):Now F s (on v F s).2.1:=by
 obtain ⟨e0,e1,e2,e3,e4⟩:=vU h;have hs:=gU (lZ h).1.1;rw [e0];by_cases h9:s.op=9
 ·have ha:applied F (aJ F s)=F.take (pos F s.fm)++([(s.fm,s.l)]++F.drop (pos F s.fm)):=by unfold applied;rw [nJ,if_pos h9]
  rw [ha];refine .form h9 ?_;unfold twice at e2;rw [nJ,if_pos h9] at e2;cases hn:named F s.fm with
  | none=>rfl
  | some p=>unfold aJ at e2;rw [hn] at e2;simp at e2
 obtain ⟨p,hp⟩:=uD e1 h9;obtain ⟨x,L⟩:=p;obtain ⟨hm,hx⟩:=cZ hp;simp only at hx;subst hx;by_cases h10:s.op=10
 ·have ha:applied F (aJ F s)=F.take (pos F s.fm)++F.drop (pos F s.fm+1):=by unfold applied;rw [nJ,if_neg h9,if_pos h10]
  rw [ha,<-go_cut hs hm [],vH];exact .gone L h10 hp
 ·have hb:aJ F s=⟨s,s.fm,L,true,ai (ids L) s.fd,bG L (ai (ids L) s.fd)⟩:=by unfold aJ;rw [hp]
  have ha:applied F (aJ F s)=F.set (pos F s.fm) (s.fm,fields (aJ F s)):=by unfold applied;rw [nJ,if_neg h9,if_neg h10,zQ hs hp]
  rw [ha];exact .other L h9 h10 hp hb
theorem Df {v:Int} {F:List schema.Form} {s:Sp} (h:(on v F s).2.2=0) {j:Int} (hj:j≠s.fm):named (on v F s).2.1 j=named F j:=by
 have hs:=gU (lZ h).1.1;have hs':=gU (lZ h).2.2.1;have hkeep:=(lZ h).2.2.2;have hrev:∀q∈(on v F s).2.1,q.1≠s.fm->q∈F:=by
  intro q hq hn;have hN:=zK h;generalize (on v F s).2.1=G at hN hq;cases hN with
  | form _ _=>
   rcases List.mem_append.1 hq with h | h
   ·exact List.mem_of_mem_take h
   ·rcases List.mem_append.1 h with h | h
    ·rw [List.mem_singleton] at h;rw [h] at hn;exact absurd rfl hn
    ·exact List.mem_of_mem_drop h
  | gone L _ _=>exact (List.mem_filter.1 hq).1
  | other L _ _ _ _=>
   rcases List.mem_or_eq_of_mem_set hq with h | h
   ·exact h
   ·rw [h] at hn;exact absurd rfl hn
 cases hn:named F j with
 | some p=>
  obtain ⟨h1,h2⟩:=cZ hn;exact (ug hs').2 ⟨hkeep p h1 (by rw [h2];exact hj),h2⟩
 | none=>
  cases hn':named (on v F s).2.1 j with
  | none=>rfl
  | some q=>
   obtain ⟨h1,h2⟩:=cZ hn';rw [(ug hs).2 ⟨hrev q h1 (by rw [h2];exact hj),h2⟩] at hn;cases hn
theorem yB {v:Int} {F:List schema.Form} {s:Sp} (h:(on v F s).2.2=0) {j:Int} (hj:j≠s.fm) (V:List Va):iG (on v F s).2.1 j V↔iG F j V:=by
 unfold iG;rw [Df h hj]
theorem bZ {F:List schema.Form} {x:Int} {L:List field.Fd} (h:named F x=some (x,L)):fieldsOf F x=L:=by unfold fieldsOf;rw [h]
theorem jH {F:List schema.Form} {x:Int} {L:List field.Fd} (h:named F x=some (x,L)) (V:List Va):iG F x V↔Has x L x V:=by
 unfold iG;constructor
 ·rintro ⟨L',h1,h2⟩;rw [h] at h1;cases h1;exact h2
 ·exact fun h2=>⟨L,h,h2⟩
structure Form1 (v:Int) (F:List schema.Form) (s:Sp) (L:List field.Fd):Prop where
 here:named F s.fm=some (s.fm,L)
 there:named (on v F s).2.1 s.fm=some (s.fm,fields (aJ F s))
 begin':aJ F s=⟨s,s.fm,L,true,ai (ids L) s.fd,bG L (ai (ids L) s.fd)⟩
 fine:Fine (s.fm,L)
 fine':Fine (s.fm,fields (aJ F s))
theorem Ef {v:Int} {F:List schema.Form} {s:Sp} (h:(on v F s).2.2=0) (h9:s.op≠9) (h10:s.op≠10):∃L,Form1 v F s L:=by
 have hs:=gU (lZ h).1.1;have hr:=(lZ h).1.1;have hr':=(lZ h).2.2.1;have hs':=gU hr';have hN:=zK h;generalize hG:(on v F s).2.1=G at hN;cases hN with
 | form a _=>exact absurd a h9
 | gone _ a _=>exact absurd a h10
 | other L _ _ hn hb=>
  have hm:=(cZ hn).1;have hlt:pos F s.fm<F.length:=by
   have:=pos_at hs hm;exact (List.getElem?_eq_some_iff.1 this).1
  have hmem:(s.fm,fields (aJ F s))∈(on v F s).2.1:=by
   rw [hG];exact List.mem_iff_getElem?.2 ⟨pos F s.fm,by rw [List.getElem?_set_self hlt]⟩
  exact ⟨L,hn,(ug hs').2 ⟨hmem,rfl⟩,hb,hr.2.2.1 _ hm,hr'.2.2.1 _ hmem⟩
theorem vI {v:Int} {F:List schema.Form} {s:Sp} (h:(on v F s).2.2=0):1<=s.op/\s.op<=10:=Dy (lZ h).1
theorem kR {v:Int} {F:List schema.Form} {s:Sp} {L:List field.Fd} (h:(on v F s).2.2=0) (hF:Form1 v F s L) (h1:s.op≠1) (h9:s.op≠9) (h10:s.op≠10):
  ∃k:Nat,ai (ids L) s.fd=k/\k<L.length/\L[k]?=some (bG L (ai (ids L) s.fd))/\(bG L (ai (ids L) s.fd)).id=s.fd/\(bG L (ai (ids L) s.fd)).Right:=by
 have e1:=(vU h).2.1;rw [hF.begin'] at e1;unfold found at e1;simp only at e1;rw [if_neg h9,if_neg om_] at e1;have hk:=of_decide_eq_true e1;obtain ⟨hl,ha⟩:=lF hk;rw [jI] at hl;have ho:bG L (ai (ids L) s.fd)=L[(ai (ids L) s.fd).toNat]:=by
  unfold bG;rw [if_pos hk,List.getD_eq_getElem?_getD,List.getElem?_eq_getElem hl];rfl
 refine ⟨(ai (ids L) s.fd).toNat,by omega,hl,by rw [ho,List.getElem?_eq_getElem hl], ?_, ?_⟩
 ·rw [ho];have ha2:(L.map field.Fd.id)[(ai (ids L) s.fd).toNat]?=some s.fd:=ha;rw [List.getElem?_map,List.getElem?_eq_getElem hl] at ha2;simpa using ha2
 ·rw [ho];exact hF.fine.2.2.1.1 _ (List.getElem_mem _)
theorem kL {v:Int} {F:List schema.Form} {s:Sp} (h:(on v F s).2.2=0) {m:Nat} (hm:m∈step.mem s.op):s.Fine m:=jB (lZ h).1 hm
theorem vz {v:Int} {F:List schema.Form} {s:Sp} {L:List field.Fd} (h:(on v F s).2.2=0) (hF:Form1 v F s L) (h1:s.op≠1) (h7:s.op≠7) (h9:s.op≠9) (h10:s.op≠10):Suit s (bG L (ai (ids L) s.fd)):=by
 obtain ⟨k,_,_,_,_,hr⟩:=kR h hF h1 h9 h10;have e4:=(vU h).2.2.2.2;rw [hF.begin'] at e4;unfold fP at e4;simp only at e4;have hop:=vI h;generalize bG L (ai (ids L) s.fd)=x at *;refine ⟨by omega,hr,fun h2=> ?_,fun h3=> ?_,fun h4=> ?_,fun h5=> ?_,fun h6=> ?_⟩
 ·rw [if_pos h2] at e4;exact of_decide_eq_true e4
 ·rw [if_neg om_,if_pos h3] at e4;exact of_decide_eq_true e4
 ·rw [if_neg om_,if_neg om_,if_pos h4] at e4;have hm:=kL h (m:=5) (by rw [h4];decide);unfold Sp.Fine at hm;simp only [Nat.reduceEqDiff,if_false,if_true] at hm;exact ⟨(of_decide_eq_true e4).1,hm.1.2⟩
 ·rw [if_neg om_,if_neg om_,if_neg om_,if_pos h5] at e4;have hm:=kL h (m:=6) (by rw [h5];decide);unfold Sp.Fine at hm;simp only [Nat.reduceEqDiff,if_false,if_true] at hm;have e4:=of_decide_eq_true e4;exact ⟨e4.1,e4.2,hm.2⟩
 ·rw [if_neg om_,if_neg om_,if_neg om_,if_neg om_,if_pos h6] at e4;have hm:=kL h (m:=4) (by rw [h6];decide);unfold Sp.Fine at hm;simp only [Nat.reduceEqDiff,if_false,if_true] at hm;have e4:=of_decide_eq_true e4;exact ⟨e4.1,e4.2,hm.1⟩
theorem rG {v:Int} {F:List schema.Form} {s:Sp} {L:List field.Fd} (hF:Form1 v F s L) {k:Nat} (hk:ai (ids L) s.fd=k) (h1:s.op≠1) (h7:s.op≠7):
  fields (aJ F s)=L.take k++(dG s (bG L (ai (ids L) s.fd))++L.drop (k+1)):=by
 rw [hF.begin'];unfold fields;simp only;rw [if_neg h1,if_neg h7,hk,Int.toNat_natCast];rfl
theorem oq {v:Int} {F:List schema.Form} {s:Sp} {L:List field.Fd} (h:(on v F s).2.2=0) (hF:Form1 v F s L) (h1:s.op=1):fields (aJ F s)=dK L s.pl.toNat s.f/\s.pl.toNat<=L.length/\s.f.Has s.v:=by
 have e3:=(vU h).2.2.2.1;rw [hF.begin'] at e3 ⊢;unfold beyond at e3;simp only at e3;rw [if_pos h1] at e3;have e3:=of_decide_eq_false e3;have hm:=kL h (m:=9) (by rw [h1];decide);unfold Sp.Fine at hm;simp only [Nat.reduceEqDiff,if_false,if_true] at hm;refine ⟨?_,by omega,hm⟩;unfold fields;simp only;rw [if_pos h1]
theorem mP {v:Int} {F:List schema.Form} {s:Sp} {L:List field.Fd} (h:(on v F s).2.2=0) (hF:Form1 v F s L) {k:Nat} (hk:ai (ids L) s.fd=k) (hl:k<L.length) (h7:s.op=7):
  fields (aJ F s)=dK (fD L k) s.pl.toNat (bG L (ai (ids L) s.fd))/\s.pl.toNat<=(fD L k).length:=by
 have e3:=(vU h).2.2.2.1;rw [hF.begin'] at e3 ⊢;unfold beyond at e3;simp only at e3;rw [if_neg om_,if_pos h7] at e3;have e3:=of_decide_eq_false e3;rw [kN hl];refine ⟨?_,by omega⟩;unfold fields;simp only;rw [if_neg om_,if_pos h7,hk,Int.toNat_natCast]
theorem lu {A:List field.Fd} {i:Nat} {f:field.Fd} (hn:(ids (dK A i f)).Nodup) (hi:i<=A.length):ai (ids (dK A i f)) f.id=i:=by
 refine qM hn ?_;unfold ids dK;rw [List.getElem?_map];have:(A.take i++([f]++A.drop i))[i]?=some f:=by
  rw [List.getElem?_append_right (by simp;omega)];simp [Nat.min_eq_left hi]
 rw [this];rfl
theorem Ic {v:Int} {F:List schema.Form} {s:Sp} {L:List field.Fd} {V:List Va} (h:(on v F s).2.2=0) (hF:Form1 v F s L) (h9:s.op≠9) (h10:s.op≠10) (hV:cu L V):
  cu (fields (aJ F s)) (fwd s (atI F s).toNat V)/\
  bwd v F s (fwd s (atI F s).toNat V) (if s.op=2 then strOf ((kU F s).dA (V.getD (atI F s).toNat va0)) else ⟨#[]⟩) (decide (s.op=2))=(V,0):=by
 have hlen:=hV.length;have hfo:=bZ hF.here;have hfn:=bZ hF.there;unfold bwd;unfold kU atI;rw [hfo,hfn,if_neg h9];by_cases h1:s.op=1
 ·obtain ⟨e,hi,hh⟩:=oq h hF h1;have hf':fwd s (ai (ids L) s.fd).toNat V=iO V s.pl.toNat s.v:=by unfold fwd;rw [if_pos h1]
  have hnd:=hF.fine'.2.2.1.2;rw [e] at hnd ⊢;rw [hf',if_pos h1];refine ⟨(rQ hlen).2 ⟨hV,hh⟩, ?_⟩;rw [lu hnd hi,Int.toNat_natCast,ve om_]
 rw [if_neg h1];obtain ⟨k,hk,hkl,hLk,hxid,hxr⟩:=kR h hF h1 h9 h10;have hVk:=jD (V:=V) (k:=k) om_;have hy:=(nY hLk hVk).1 hV;rw [show (ai (ids L) s.fd).toNat=k by omega];by_cases h7:s.op=7
 ·obtain ⟨e,hi⟩:=mP h hF hk hkl h7;have hf':fwd s k V=iO (cutV V k) s.pl.toNat (V.getD k va0):=by unfold fwd;rw [if_neg h1,if_pos h7]
  have hnd:=hF.fine'.2.2.1.2;rw [e] at hnd ⊢;rw [hf',if_pos h7];have hcl:(fD L k).length=(cutV V k).length:=by rw [kN hkl,jL om_];omega
  refine ⟨(rQ hcl).2 ((AX hLk hVk).1 hV), ?_⟩;have hfi:=lu hnd hi;rw [hxid] at hfi;rw [hfi,Int.toNat_natCast,ve om_,wK om_,vJ hVk]
 rw [if_neg h7];have hS:=vz h hF h1 h7 h9 h10;have e:=rG hF hk h1 h7;have hr':∀f∈dG s (bG L (ai (ids L) s.fd)),f.Right:=fun f hf=>hF.fine'.2.2.1.1 f (by rw [e];simp [hf])
 obtain ⟨k1,k2⟩:=JJ hS hy.2.1 hr';have hf':fwd s k V=V.take k++(dw s (V.getD k va0)++V.drop (k+1)):=by unfold fwd;rw [if_neg h1,if_neg h7]
 have hl1:=qZ hS;have hl2:=Cj hS (V.getD k va0);have htk:(V.take k).length=k:=by simp;omega
 rw [e,hf'];refine ⟨(sQ (by simp;omega) (by rw [hl1,hl2])).2 ⟨hy.1,k1,hy.2.2⟩, ?_⟩;have hseg:(List.drop k (V.take k++(dw s (V.getD k va0)++V.drop (k+1)))).take (many s)=dw s (V.getD k va0):=by
  rw [wz htk];exact List.take_left' hl2
 unfold zU at k2;rw [hseg,k2,if_neg si_,pV htk,tC htk hl2];simp only;rw [<-lG hVk]
theorem Iq {v:Int} {F:List schema.Form} {s:Sp} {L:List field.Fd} {V U:List Va} {lost:ByteArray} {has:Bool} (h:(on v F s).2.2=0) (hF:Form1 v F s L) (h9:s.op≠9) (h10:s.op≠10) (hV:cu (fields (aJ F s)) V)
  (hb:bwd v F s V lost has=(U,0)):cu L U/\(if s.op=1 then (fwd s (atI F s).toNat U).length=V.length else fwd s (atI F s).toNat U=V):=by
 have hlen:=hV.length;have hfo:=bZ hF.here;have hfn:=bZ hF.there;unfold bwd at hb;unfold kU at hb;unfold atI at hb ⊢;rw [hfo] at hb ⊢;rw [hfn,if_neg h9] at hb;by_cases h1:s.op=1
 ·obtain ⟨e,hi,hh⟩:=oq h hF h1;have hnd:=hF.fine'.2.2.1.2;rw [e] at hnd hV hlen;have hpl:(dK L s.pl.toNat s.f).length=L.length+1:=by unfold dK;simp;omega
  rw [e,if_pos h1,lu hnd hi,Int.toNat_natCast] at hb;cases hb
  have hVk:=jD (V:=V) (k:=s.pl.toNat) om_;have hV2:=hV;rw [<-vJ hVk] at hV2;have hcl:L.length=(cutV V s.pl.toNat).length:=by rw [jL om_];omega
  refine ⟨((rQ hcl).1 hV2).1, ?_⟩;rw [if_pos h1];unfold fwd;rw [if_pos h1,uK];omega
 rw [if_neg h1] at hb;rw [if_neg h1];obtain ⟨k,hk,hkl,hLk,hxid,hxr⟩:=kR h hF h1 h9 h10;rw [show (ai (ids L) s.fd).toNat=k by omega] at hb ⊢;by_cases h7:s.op=7
 ·obtain ⟨e,hi⟩:=mP h hF hk hkl h7;have hnd:=hF.fine'.2.2.1.2;rw [e] at hnd hV hlen;have hfi:=lu hnd hi;rw [hxid] at hfi;rw [e,if_pos h7,hfi,Int.toNat_natCast] at hb;cases hb
  have hpl:(dK (fD L k) s.pl.toNat (bG L (ai (ids L) s.fd))).length=(fD L k).length+1:=by unfold dK;simp;omega
  have hVk:=jD (V:=V) (k:=s.pl.toNat) om_;have hcc:=kN hkl;have hcv:(cutV V s.pl.toNat).length=V.length - 1:=jL om_;have hV2:=hV;rw [<-vJ hVk] at hV2;have hW:=(rQ om_).1 hV2;have hki:k<=(cutV V s.pl.toNat).length:=by omega
  have hUk:(iO (cutV V s.pl.toNat) k (V.getD s.pl.toNat va0))[k]?=some (V.getD s.pl.toNat va0):=by
   have:=jD (V:=iO (cutV V s.pl.toNat) k (V.getD s.pl.toNat va0)) (k:=k) (by rw [uK];omega);rwa [wK hki] at this
  refine ⟨(AX hLk hUk).2 (by rw [ve hki];exact hW), ?_⟩;unfold fwd;rw [if_neg h1,if_pos h7,ve hki,wK hki,vJ hVk]
 rw [if_neg h7] at hb;have hS:=vz h hF h1 h7 h9 h10;have e:=rG hF hk h1 h7;have hl1:=qZ hS;rw [e] at hV hlen;have hVs:=Ep V k (many s);have hlV:V.length=k+many s+(L.length - (k+1)):=by
  rw [<-hlen];simp [hl1];omega
 have htk:(V.take k).length=k:=by simp;omega
 have hts:((V.drop k).take (many s)).length=many s:=by simp;omega
 rw [hVs] at hV;obtain ⟨a1,a2,a3⟩:=(sQ (by simp;omega) (by rw [hl1,hts])).1 hV;by_cases hbe:(ig s (bG L (ai (ids L) s.fd)) ((V.drop k).take (many s)) lost has).2≠0
 ·rw [if_pos hbe] at hb;exact absurd (Prod.mk.inj hb).2 hbe
 rw [if_neg hbe] at hb;obtain ⟨y,hy⟩:∃y,ig s (bG L (ai (ids L) s.fd)) ((V.drop k).take (many s)) lost has=(y,0):=⟨_,Prod.ext rfl (Classical.not_not.1 hbe)⟩;rw [hy] at hb;cases hb
 obtain ⟨k1,k2⟩:=Gs hS a2 hy;have hUk:(V.take k++([y]++V.drop (k+many s)))[k]?=some y:=by
  rw [List.getElem?_append_right om_];simp [htk]
 have d1:(V.take k++([y]++V.drop (k+many s))).take k=V.take k:=pV htk;have d2:(V.take k++([y]++V.drop (k+many s))).drop (k+1)=V.drop (k+many s):=tC htk rfl;refine ⟨(nY hLk hUk).2 ⟨by rw [d1];exact a1,k1,by rw [d2];exact a3⟩, ?_⟩;have hg:(V.take k++([y]++V.drop (k+many s))).getD k va0=y:=A8 htk;unfold fwd;rw [if_neg h1,if_neg h7,hg,d1,d2,k2];exact hVs.symm
theorem sH {v:Int} {F:List schema.Form} {s:Sp} (h:(on v F s).2.2=0) (h10:s.op=10):∃L,named F s.fm=some (s.fm,L)/\named (on v F s).2.1 s.fm=none:=by
 have hN:=zK h;generalize hG:(on v F s).2.1=G at hN;cases hN with
 | form a _=>omega
 | other _ _ a _ _=>exact absurd h10 a
 | gone L _ hn=>
  refine ⟨L,hn, ?_⟩;cases hq:named (F.filter (fun p=>decide (p.1≠s.fm))) s.fm with
  | none=>rfl
  | some q=>
   obtain ⟨h1,h2⟩:=cZ hq;have:=(List.mem_filter.1 h1).2;simp [h2] at this
theorem yY {v:Int} {F:List schema.Form} {s:Sp} (h:(on v F s).2.2=0) (h9:s.op=9):named F s.fm=none:=by
 have hN:=zK h;generalize (on v F s).2.1=G at hN;cases hN with
 | form _ a=>exact a
 | other _ a _ _ _=>exact absurd h9 a
 | gone _ a _=>omega
theorem II {v:Int} {F:List schema.Form} {s:Sp} {j:Int} {V:List Va} (h:(onR v F s j V).e≠0):(onR v F s j V).gone=false/\(onR v F s j V).has=false/\(onR v F s j V).lost=⟨#[]⟩/\(onR v F s j V).V=[]/\(onR v F s j V).j=0:=by
 unfold onR at h ⊢;split at h
 ·rename_i h1;rw [if_pos h1];exact ⟨rfl,rfl,rfl,rfl,rfl⟩
 ·rename_i h1;rw [if_neg h1];split at h
  ·rename_i h2;rw [if_pos h2];exact ⟨rfl,rfl,rfl,rfl,rfl⟩
  ·split at h
   ·exact absurd rfl h
   ·split at h <;> exact absurd rfl h
theorem ER {v:Int} {F:List schema.Form} {s:Sp} {j:Int} {V:List Va} (h:(onR v F s j V).e=0):
  (on v F s).2.2=0/\((onR v F s j V).gone=true->(onR v F s j V).has=true/\(onR v F s j V).V=[]/\oM v F s (onR v F s j V).lost=(j,V,0))/\
  ((onR v F s j V).gone=false->(onR v F s j V).j=j/\iG (on v F s).2.1 j (onR v F s j V).V/\backR v F s j (onR v F s j V).V (onR v F s j V).lost (onR v F s j V).has=(j,V,0)):=by
 by_cases h0:(on v F s).2.2=0
 ·refine ⟨h0, ?_⟩;by_cases hR:iG F j V
  ·by_cases hj:j=s.fm
   ·subst hj;by_cases h10:s.op=10
    ·have e:onR v F s s.fm V=⟨0,[],true,true,strOf (eY (fieldsOf F s.fm) V),0⟩:=by unfold onR;rw [if_neg (by simpa using h0),if_neg (by simpa using hR),if_neg si_,if_pos h10]
     rw [e];refine ⟨fun _=>⟨rfl,rfl, ?_⟩,fun hg=>by cases hg⟩;obtain ⟨L,hn,_⟩:=sH h0 h10;have hH:=(jH hn V).1 hR;rw [bZ hn];unfold oM;rw [if_neg (by simpa using h0),if_neg (by simpa using h10),bZ hn,jJ (sJ L V),nS hH];simp
    ·have e:onR v F s s.fm V=⟨s.fm,fwd s (atI F s).toNat V,false,decide (s.op=2),if s.op=2 then strOf ((kU F s).dA (V.getD (atI F s).toNat va0)) else ⟨#[]⟩,0⟩:=by
      unfold onR;rw [if_neg (by simpa using h0),if_neg (by simpa using hR),if_neg si_,if_neg h10]
     have h9:s.op≠9:=by
      intro h9;obtain ⟨L,hn,_⟩:=hR;rw [yY h0 h9] at hn;cases hn
     obtain ⟨L,hF⟩:=Ef h0 h9 h10
     have hH:=(jH hF.here V).1 hR
     obtain ⟨k1,k2⟩:=Ic h0 hF h9 h10 hH.2.2
     have hR':iG (on v F s).2.1 s.fm (fwd s (atI F s).toNat V):=(jH hF.there _).2 ⟨hF.fine',rfl,k1⟩
     rw [e]
     refine ⟨fun hg=>(by simp at hg),fun _=>⟨rfl,hR', ?_⟩⟩
     unfold backR
     simp only
     rw [if_neg (by simpa using h0),if_neg (by simpa using hR'),if_neg si_,k2]
     simp
   ·have e:onR v F s j V=⟨j,V,false,false,⟨#[]⟩,0⟩:=by unfold onR;rw [if_neg (by simpa using h0),if_neg (by simpa using hR),if_pos hj]
    have hR':=(yB h0 hj V).2 hR;rw [e];refine ⟨fun hg=>(by simp at hg),fun _=>⟨rfl,hR', ?_⟩⟩;unfold backR;simp only;rw [if_neg (by simpa using h0),if_neg (by simpa using hR'),if_pos hj]
  ·exfalso;unfold onR at h;rw [if_neg (by simpa using h0),if_pos hR] at h;simp at h
 ·exfalso;unfold onR at h;rw [if_pos h0] at h;simp only at h;omega
theorem C9 {v:Int} {F:List schema.Form} {s:Sp} {j i:Int} {V U:List Va} {lost:ByteArray} {has:Bool} (h:backR v F s j V lost has=(i,U,0)):
  (on v F s).2.2=0/\i=j/\iG F j U/\(onR v F s j U).e=0/\(onR v F s j U).gone=false/\(onR v F s j U).j=j/\(if s.op=1/\j=s.fm then (onR v F s j U).V.length=V.length else (onR v F s j U).V=V):=by
 by_cases h0:(on v F s).2.2=0
 ·refine ⟨h0, ?_⟩;unfold backR at h;rw [if_neg (by simpa using h0)] at h;by_cases hR:iG (on v F s).2.1 j V
  ·rw [if_neg (by simpa using hR)] at h;by_cases hj:j=s.fm
   ·subst hj;rw [if_neg si_] at h;by_cases hb:(bwd v F s V lost has).2=0
    ·rw [if_neg (by simpa using hb)] at h;cases h
     have h10:s.op≠10:=by
      intro h10;obtain ⟨_,_,hn⟩:=sH h0 h10;obtain ⟨L,hn',_⟩:=hR;rw [hn] at hn';cases hn'
     have h9:s.op≠9:=by
      intro h9;unfold bwd at hb;rw [if_pos h9] at hb;simp at hb
     obtain ⟨L,hF⟩:=Ef h0 h9 h10;have hH:=(jH hF.there V).1 hR;obtain ⟨k1,k2⟩:=Iq h0 hF h9 h10 hH.2.2 (Prod.ext rfl hb:bwd v F s V lost has=((bwd v F s V lost has).1,0));have hR':iG F s.fm (bwd v F s V lost has).1:=(jH hF.here _).2 ⟨hF.fine,rfl,k1⟩;have e:onR v F s s.fm (bwd v F s V lost has).1=⟨s.fm,fwd s (atI F s).toNat (bwd v F s V lost has).1,false,decide (s.op=2),if s.op=2 then strOf ((kU F s).dA ((bwd v F s V lost has).1.getD (atI F s).toNat va0)) else ⟨#[]⟩,0⟩:=by
      unfold onR;rw [if_neg (by simpa using h0),if_neg (by simpa using hR'),if_neg si_,if_neg h10]
     rw [e];refine ⟨rfl,hR',rfl,rfl,rfl, ?_⟩;simpa using k2
    ·rw [if_pos hb] at h;exact absurd (Prod.mk.inj (Prod.mk.inj h).2).2 hb
   ·rw [if_pos hj] at h;cases h
    have hR':=(yB h0 hj V).1 hR;have e:onR v F s j V=⟨j,V,false,false,⟨#[]⟩,0⟩:=by unfold onR;rw [if_neg (by simpa using h0),if_neg (by simpa using hR'),if_pos hj]
    rw [e];refine ⟨rfl,hR',rfl,rfl,rfl, ?_⟩;rw [if_neg (fun k=>hj k.2)]
  ·rw [if_pos hR] at h;have:=(Prod.mk.inj (Prod.mk.inj h).2).2;simp at this
 ·exfalso;unfold backR at h;rw [if_pos h0] at h;have:=(Prod.mk.inj (Prod.mk.inj h).2).2;omega
end turn
namespace turn
open Go.RowKit schema step typing
open field (Va bytesOf)
open record (cu Has eY)
structure Can (s:Sp) (L:List field.Fd) (V:List Va) (k:Nat) (y:Va):Prop where
 len:V.length=L.length
 l8:1<=L.length/\L.length<=8
 op:1<=s.op/\s.op<=8
 c1:s.op=1->0<=s.pl/\s.pl<=L.length
 at':s.op≠1->ai (ids L) s.fd=k/\k<L.length
 y':y=V.getD k va0
 c4:s.op=4->y=vn y.n/\(-1099511627776<=y.n/\y.n<=1099511627776)/\(-1048576<=s.a/\s.a<=1048576)/\(-1099511627776<=s.b/\s.b<=1099511627776)
 c5:s.op=5->y=vn y.n/\0<=y.n/\y.n<s.t.length
 c6:s.op=6->y=vn y.n/\(0<=y.n/\y.n<=1099511627776)/\(2<=s.a/\s.a<=1048576)
 c7:s.op=7->0<=s.pl/\s.pl<L.length
theorem Ku {v:Int} {F:List schema.Form} {s:Sp} {L:List field.Fd} {V:List Va} (h:(on v F s).2.2=0) (hF:Form1 v F s L) (h9:s.op≠9) (h10:s.op≠10) (hV:cu L V):
  ∃k,Can s L V k (V.getD k va0)/\(atI F s).toNat=k/\(s.op=2->kU F s=L.getD k fd0):=by
 have hlen:=hV.length;have hl8:=hF.fine.2.1;have hfo:fieldsOf F s.fm=L:=bZ hF.here;have hat:atI F s=ai (ids L) s.fd:=by unfold atI;rw [hfo]
 have hold:kU F s=bG L (ai (ids L) s.fd):=by unfold kU;rw [hfo,hat]
 have hpl:s.op=1\/s.op=7->0<=s.pl:=fun h1=>by
  have hm:=kL h (m:=2) (by rcases h1 with e | e <;> rw [e] <;> decide);unfold Sp.Fine at hm;simp only [Nat.reduceEqDiff,if_false,if_true] at hm;exact hm.1
 have hsp:=vI h;have hop:1<=s.op/\s.op<=8:=by omega
 by_cases h1:s.op=1
 ·refine ⟨(atI F s).toNat,⟨hlen.symm,hl8,hop,fun _=>⟨hpl (.inl h1), ?_⟩,fun e=>absurd h1 e,rfl,fun e=>by omega,fun e=>by omega,fun e=>by omega,fun e=>by omega⟩,rfl,fun e=>by omega⟩;have:=(oq h hF h1).2.1;have:=hpl (.inl h1);omega
 ·obtain ⟨k,hk,hkl,hx,hid_,hr⟩:=kR h hF h1 h9 h10;have hxk:bG L (ai (ids L) s.fd)=L.getD k fd0:=by rw [List.getD_eq_getElem?_getD,hx];rfl
  obtain ⟨y,hy⟩:∃y,V.getD k va0=y:=⟨_,rfl⟩;have hyk:V[k]?=some y:=by rw [<-hy];exact jD om_
  have hh:(bG L (ai (ids L) s.fd)).Has y:=((nY hx hyk).1 hV).2.1;have hsu:s.op≠7->Suit s (bG L (ai (ids L) s.fd)):=fun h7=>vz h hF h1 h7 h9 h10
  refine ⟨k,⟨hlen.symm,hl8,hop,fun e=>absurd e h1,fun _=>⟨hk,hkl⟩,rfl,fun h4=> ?_,fun h5=> ?_,fun h6=> ?_,fun h7=> ?_⟩,by rw [hat,hk];rfl,fun _=>by rw [hold,hxk]⟩
  ·rw [hy];obtain ⟨hk1,_⟩:=(hsu om_).c4 h4;have hm:=kL h (m:=5) (by rw [h4];decide);unfold Sp.Fine at hm;simp only [Nat.reduceEqDiff,if_false,if_true] at hm;have hb:=hh.2.1;rw [jO hk1] at hb;have hri:=hr.2;exact ⟨qO hh om_,by omega,hm.1.1,hm.2⟩
  ·rw [hy];obtain ⟨hk1,hk2,_⟩:=(hsu om_).c5 h5;have hb:=hh.2.1;rw [oh hk1] at hb;have hri:=hr.2;exact ⟨qO hh om_,by omega⟩
  ·rw [hy];obtain ⟨hk1,hk2,_⟩:=(hsu om_).c6 h6;have hm:=kL h (m:=4) (by rw [h6];decide);unfold Sp.Fine at hm;simp only [Nat.reduceEqDiff,if_false,if_true] at hm;have hb:=hh.2.1;rw [jO hk1] at hb;have hri:=hr.2;exact ⟨qO hh om_,by omega,hm⟩
  ·have:=(mP h hF hk hkl h7).2;rw [kN hkl] at this;have:=hpl (.inr h7);omega
end turn
namespace turn
open Go.RowKit schema step typing
open pair (inv dW)
open field (Va bytesOf)
open record (cu Has)
def iq (r:Sp) (k:Nat) (V:List Va):List Va×Int:=
 if r.op=21 then (cutV V k,0) else if r.op=22 then (iO V r.pl.toNat r.v,0) else if r.op=27 then (iO (cutV V k) r.pl.toNat (V.getD k va0),0)
 else if r.op=23 then (if r.f.Has (V.getD k va0) then (V,0) else ([],20))
 else if r.op=24 then (if ((V.getD k va0).n - r.b).tmod r.a=0/\r.f.Has (vn (((V.getD k va0).n - r.b).tdiv r.a)) then (V.set k (vn (((V.getD k va0).n - r.b).tdiv r.a)),0) else ([],20))
 else if r.op=25 then (if (V.getD k va0).n∈r.t then (V.set k (vn (r.t.idxOf (V.getD k va0).n)),0) else ([],20))
 else if r.op=26 then (if r.f.Has (vn (r.a*(V.getD k va0).n+(V.getD (k+1) va0).n)) then (cutV (V.set k (vn (r.a*(V.getD k va0).n+(V.getD (k+1) va0).n))) (k+1),0) else ([],20))
 else if r.op=29 then ([],20) else (V,0)
section
variable {r:Sp} {k:Nat} {V:List Va}
theorem Ja (h:r.op=21):iq r k V=(cutV V k,0):=by unfold iq;rw [if_pos h]
theorem IY (h:r.op=22):iq r k V=(iO V r.pl.toNat r.v,0):=by unfold iq;rw [if_neg om_,if_pos h]
theorem Io (h:r.op=27):iq r k V=(iO (cutV V k) r.pl.toNat (V.getD k va0),0):=by unfold iq;rw [if_neg om_,if_neg om_,if_pos h]
theorem Eb (h:r.op=23):iq r k V=(if r.f.Has (V.getD k va0) then (V,0) else ([],20)):=by unfold iq;rw [if_neg om_,if_neg om_,if_neg om_,if_pos h]
theorem Ee (h:r.op=24):iq r k V=(if ((V.getD k va0).n - r.b).tmod r.a=0/\r.f.Has (vn (((V.getD k va0).n - r.b).tdiv r.a)) then (V.set k (vn (((V.getD k va0).n - r.b).tdiv r.a)),0) else ([],20)):=by unfold iq;rw [if_neg om_,if_neg om_,if_neg om_,if_neg om_,if_pos h]
theorem Ej (h:r.op=25):iq r k V=(if (V.getD k va0).n∈r.t then (V.set k (vn (r.t.idxOf (V.getD k va0).n)),0) else ([],20)):=by unfold iq;rw [if_neg om_,if_neg om_,if_neg om_,if_neg om_,if_neg om_,if_pos h]
theorem Eg (h:r.op=26):iq r k V=(if r.f.Has (vn (r.a*(V.getD k va0).n+(V.getD (k+1) va0).n)) then (cutV (V.set k (vn (r.a*(V.getD k va0).n+(V.getD (k+1) va0).n))) (k+1),0) else ([],20)):=by unfold iq;rw [if_neg om_,if_neg om_,if_neg om_,if_neg om_,if_neg om_,if_neg om_,if_pos h]
theorem DY (h:r.op=29):iq r k V=([],20):=by unfold iq;rw [if_neg om_,if_neg om_,if_neg om_,if_neg om_,if_neg om_,if_neg om_,if_neg om_,if_pos h]
theorem FO (h:r.op≠21/\r.op≠22/\r.op≠23/\r.op≠24/\r.op≠25/\r.op≠26/\r.op≠27/\r.op≠29):iq r k V=(V,0):=by unfold iq;rw [if_neg om_,if_neg om_,if_neg om_,if_neg om_,if_neg om_,if_neg om_,if_neg om_,if_neg om_]
end
structure CanU (r:Sp) (L:List field.Fd) (V:List Va) (k:Nat) (y:Va):Prop where
 len:V.length=L.length
 l8:1<=L.length/\L.length<=8
 y':y=V.getD k va0
 at':(r.op=21\/r.op=23\/r.op=24\/r.op=25\/r.op=26\/r.op=27)->ai (ids L) r.fd=k/\k<L.length
 yn:(-1099511627776<=y.n/\y.n<=1099511627776)
 c22:r.op=22->0<=r.pl/\r.pl<=L.length
 c24:r.op=24->((-1048576<=r.a/\r.a<=1048576)/\r.a≠0)/\(-1099511627776<=r.b/\r.b<=1099511627776)
 c26:r.op=26->k+1<L.length/\(2<=r.a/\r.a<=1048576)/\(-1099511627776<=(V.getD (k+1) va0).n/\(V.getD (k+1) va0).n<=1099511627776)
 c27:r.op=27->0<=r.pl/\r.pl<L.length
theorem Fp {f:field.Fd} {v:Va} (h:f.Has v): -1099511627776<=v.n/\v.n<=1099511627776:=by
 obtain ⟨⟨_,hr⟩,hb,_⟩:=h;unfold field.Fd.great at hb;rcases hr with ⟨k,_,h1,h2,_⟩ | ⟨k,h1,_⟩ | ⟨k,h1,h2⟩ | ⟨k,h1,_⟩
 ·rw [if_pos k] at hb;omega
 ·rw [if_neg om_,if_pos k] at hb;omega
 ·rw [if_neg om_,if_neg om_,if_pos k] at hb;omega
 ·rw [if_neg om_,if_neg om_,if_neg om_] at hb;omega
theorem xA {L:List field.Fd} {V:List Va} (h:cu L V) (k:Nat): -1099511627776<=(V.getD k va0).n/\(V.getD k va0).n<=1099511627776:=by
 have hl:=h.length;by_cases hk:k<V.length
 ·obtain ⟨f,hf⟩:∃f,L[k]?=some f:=⟨L[k],List.getElem?_eq_getElem om_⟩;exact Fp (h.at hf (jD hk))
 ·rw [List.getD_eq_getElem?_getD,List.getElem?_eq_none om_];exact ⟨by decide,by decide⟩
theorem qB {A R:List field.Fd} {f:field.Fd} {x:Int} (hn:(ids (A++([f]++R))).Nodup) (hx:f.id=x):ai (ids (A++([f]++R))) x=A.length:=by
 refine qM hn ?_;unfold ids;rw [List.getElem?_map,List.getElem?_append_right (Nat.le_refl _),Nat.sub_self];simp [hx]
theorem zk {V:List Va} {k:Nat} (h:k<V.length) (z:Va):V.set k z=V.take k++([z]++V.drop (k+1)):=by
 rw [List.set_eq_take_append_cons_drop,if_pos h];rfl
theorem pI {V:List Va} {k m:Nat} (h:0<m):((V.drop k).take m).getD 0 va0=V.getD k va0:=by
 rw [List.getD_eq_getElem?_getD,List.getD_eq_getElem?_getD,List.getElem?_take_of_lt h,List.getElem?_drop,Nat.add_zero]
theorem seg_next {V:List Va} {k m:Nat} (h:1<m):((V.drop k).take m).getD 1 va0=V.getD (k+1) va0:=by
 rw [List.getD_eq_getElem?_getD,List.getD_eq_getElem?_getD,List.getElem?_take_of_lt h,List.getElem?_drop]
theorem IE {v:Int} {F:List schema.Form} {s:Sp} {L:List field.Fd} {V:List Va} (h:(on v F s).2.2=0) (hF:Form1 v F s L) (h9:s.op≠9) (h10:s.op≠10) (hV:cu (fields (aJ F s)) V) (lost:ByteArray) (has:Bool) (z:Va) (hz:s.op=2->∀G,ig s (kU F s) G lost has=(z,0)):
  ∃k,CanU { inv F s with v:=if s.op=2 then z else (inv F s).v} (fields (aJ F s)) V k (V.getD k va0)/\bwd v F s V lost has=iq { inv F s with v:=if s.op=2 then z else (inv F s).v} k V:=by
 have hlen:=hV.length;have hl8:=hF.fine'.2.1;have hnd:(ids (fields (aJ F s))).Nodup:=hF.fine'.2.2.1.2;have hl8:1<=(fields (aJ F s)).length/\(fields (aJ F s)).length<=8:=hl8;have hfo:fieldsOf F s.fm=L:=bZ hF.here;have hfn:=bZ hF.there;have hfa:dW F s.fm=L:=by unfold dW;rw [hF.here]
 have hsp:=vI h;have hyb:=xA hV;have hat:atI F s=ai (ids L) s.fd:=by unfold atI;rw [hfo]
 have hold:kU F s=bG L (ai (ids L) s.fd):=by unfold kU;rw [hfo,hat]
 unfold bwd;rw [hfn,if_neg h9];by_cases h1:s.op=1
 ·obtain ⟨e,hi,hh⟩:=oq h hF h1;have hr:inv F s=⟨21,s.fm,s.f.id,0,0,0,0,fd0,va0,[],[]⟩:=by unfold inv;rw [if_neg om_,if_neg om_,if_pos h1]
  rw [hr,if_neg om_,if_pos h1];rw [e] at hlen hl8 hnd ⊢;have hk:=lu hnd hi;refine ⟨s.pl.toNat,⟨hlen.symm,hl8,rfl,fun _=>⟨hk, ?_⟩,hyb _,by simp,by simp,by simp,by simp⟩, ?_⟩
  ·show s.pl.toNat<(dK L s.pl.toNat s.f).length
   unfold dK;simp;omega
  ·rw [hk];rfl
 obtain ⟨k,hk,hkl,hLk,hxid,hxr⟩:=kR h hF h1 h9 h10;rw [if_neg h1];by_cases h7:s.op=7
 ·obtain ⟨e,hi⟩:=mP h hF hk hkl h7;have hr:inv F s=⟨27,s.fm,s.fd,ai (ids L) s.fd,0,0,0,fd0,va0,[],[]⟩:=by
   unfold inv;rw [if_neg om_,if_neg om_,if_neg om_,if_neg om_,if_neg om_,if_neg om_,if_neg om_,if_neg om_,if_pos h7,hfa]
  rw [hr,if_neg om_,if_pos h7,hat];rw [e] at hlen hl8 hnd ⊢;have hfi:=lu hnd hi;rw [hxid] at hfi;have hcc:=kN hkl;have hpl:(dK (fD L k) s.pl.toNat (bG L (ai (ids L) s.fd))).length=(fD L k).length+1:=by unfold dK;simp;omega
  refine ⟨s.pl.toNat,⟨hlen.symm,hl8,rfl,fun _=>⟨hfi,by omega⟩,hyb _,by simp,by simp,by simp,fun _=> ?_⟩, ?_⟩
  ·show 0<=ai (ids L) s.fd/\ai (ids L) s.fd<_
   omega
  ·rw [hfi];rfl
 rw [if_neg h7];have hS:=vz h hF h1 h7 h9 h10;have e:=rG hF hk h1 h7;have hl1:=qZ hS;have hkt:(ai (ids L) s.fd).toNat=k:=by omega
 have htk:(L.take k).length=k:=by simp;omega
 have hlV:V.length=k+many s+(L.length - (k+1)):=by
  rw [<-hlen,e];simp [hl1];omega
 rw [hat,hkt];obtain ⟨x,hx⟩:∃x,Hid (bG L (ai (ids L) s.fd)=x):=⟨_,hid rfl⟩;rw [hold] at hz ⊢;rw [hx.o] at hS hl1 hLk hxid hxr hz e ⊢;rcases hS.op with h2 | h3 | h4 | h5 | h6 | h8
 ·have hr:inv F s=⟨22,s.fm,0,k,0,0,0,x,s.v,[],[]⟩:=by
   unfold inv;rw [if_neg h9,if_neg h10,if_neg h1,if_pos h2,hfa,hk];rw [show bG L k=x by rw [<-hk];exact hx.o]
  rw [hr,if_pos h2,hz h2]
  have hm:many s=0:=by unfold many;rw [if_pos h2]
  refine ⟨0,⟨hlen.symm,hl8,rfl,by simp,hyb _,fun _=> ?_,by simp,by simp,by simp⟩, ?_⟩
  ·show 0<=(k:Int)/\(k:Int)<=_
   rw [hlen];omega
  ·rw [if_neg si_,hm,Nat.add_zero];rfl
 ·have hr:inv F s=⟨23,s.fm,s.fd,0,0,0,0,x,va0,[],[]⟩:=by
   unfold inv;rw [if_neg h9,if_neg h10,if_neg h1,if_neg om_,if_pos h3,hfa,hx.o]
  have hm:many s=1:=by unfold many;rw [if_neg om_,if_neg om_]
  have e1:dG s x=[s.f]:=by unfold dG dX;simp only;rw [h3];rfl
  have hid_:s.f.id=s.fd:=by
   have hm:=kL h (m:=8) (by rw [h3];decide);unfold Sp.Fine at hm;simp only [Nat.reduceEqDiff,if_false,if_true] at hm;exact hm.2
  rw [e,e1] at hnd
  have hfi:ai (ids (fields (aJ F s))) s.fd=k:=by rw [e,e1,qB hnd hid_,htk]
  rw [hr,if_neg om_]
  refine ⟨k,⟨hlen.symm,hl8,rfl,fun _=>⟨hfi,by omega⟩,hyb _,by simp,by simp,by simp,by simp⟩, ?_⟩
  have hb:ig s x ((V.drop k).take (many s)) lost has=chk x (V.getD k va0):=by
   unfold ig;rw [if_neg om_,if_neg om_,if_neg om_,if_neg om_,if_neg om_,pI om_]
  rw [hb,hm]
  rw [Eb rfl]
  unfold chk
  by_cases hh:x.Has (V.getD k va0)
  ·rw [if_pos hh,if_neg si_,if_pos hh,<-lG (jD om_)]
  ·rw [if_neg hh,if_pos si_,if_neg hh]
 ·have hr:inv F s=⟨24,s.fm,s.fd,0,0,s.a,s.b,x,va0,[],[]⟩:=by
   unfold inv;rw [if_neg h9,if_neg h10,if_neg h1,if_neg om_,if_neg om_,if_pos h4,hfa,hx.o]
  have hm:many s=1:=by unfold many;rw [if_neg om_,if_neg om_]
  have e1:dG s x=[{ x with lo:=low ⟨s,0,[],false,0,x⟩,hi:=high ⟨s,0,[],false,0,x⟩}]:=by unfold dG dX;simp only;rw [h4];rfl
  rw [e,e1] at hnd
  have hfi:ai (ids (fields (aJ F s))) s.fd=k:=by rw [e,e1,qB hnd hxid,htk]
  have hm5:=kL h (m:=5) (by rw [h4];decide)
  unfold Sp.Fine at hm5
  simp only [Nat.reduceEqDiff,if_false,if_true] at hm5
  rw [hr,if_neg om_]
  refine ⟨k,⟨hlen.symm,hl8,rfl,fun _=>⟨hfi,by omega⟩,hyb _,by simp,fun _=>hm5,by simp,by simp⟩, ?_⟩
  have hb:ig s x ((V.drop k).take (many s)) lost has=if ((V.getD k va0).n - s.b).tmod s.a≠0 then (va0,20) else chk x (vn (((V.getD k va0).n - s.b).tdiv s.a)):=by
   unfold ig;rw [if_neg om_,if_neg om_,if_pos h4,pI om_]
  rw [hb,hm]
  rw [Ee rfl]
  unfold chk
  by_cases hq:((V.getD k va0).n - s.b).tmod s.a=0
  ·rw [if_neg (show ¬(((V.getD k va0).n - s.b).tmod s.a≠0) from fun q=>q hq)]
   by_cases hh:x.Has (vn (((V.getD k va0).n - s.b).tdiv s.a))
   ·rw [if_pos hh,if_neg si_,if_pos ⟨hq,hh⟩,zk (show k<V.length by omega)]
   ·rw [if_neg hh,if_pos si_,if_neg (fun q=>hh q.2)]
  ·rw [if_pos (show ((V.getD k va0).n - s.b).tmod s.a≠0 from hq),if_pos si_,if_neg (fun q=>hq q.1)]
 ·have hr:inv F s=⟨25,s.fm,s.fd,0,0,0,0,fd0,va0,s.t,[]⟩:=by
   unfold inv;rw [if_neg h9,if_neg h10,if_neg h1,if_neg om_,if_neg om_,if_neg om_,if_pos h5]
  have hm:many s=1:=by unfold many;rw [if_neg om_,if_neg om_]
  have e1:dG s x=[{ x with most:=s.a}]:=by unfold dG dX;simp only;rw [h5];rfl
  rw [e,e1] at hnd
  have hfi:ai (ids (fields (aJ F s))) s.fd=k:=by rw [e,e1,qB hnd hxid,htk]
  obtain ⟨hk3,hmo,ht⟩:=hS.c5 h5
  rw [hr,if_neg om_]
  refine ⟨k,⟨hlen.symm,hl8,rfl,fun _=>⟨hfi,by omega⟩,hyb _,by simp,by simp,by simp,by simp⟩, ?_⟩
  have hb:ig s x ((V.drop k).take (many s)) lost has=if (V.getD k va0).n∈s.t then chk x (vn (s.t.idxOf (V.getD k va0).n)) else (va0,20):=by
   unfold ig;rw [if_neg om_,if_neg om_,if_neg om_,if_pos h5,pI om_]
  rw [hb,hm]
  rw [Ej rfl]
  unfold chk
  by_cases hq:(V.getD k va0).n∈s.t
  ·have hil:=List.idxOf_lt_length_of_mem hq
   have hh:x.Has (vn (s.t.idxOf (V.getD k va0).n)):=su hxr om_ _ (by have:=hxr.2;omega) (by rw [oh hk3];omega)
   rw [if_pos hq,if_pos hh,if_neg si_,if_pos hq,zk (show k<V.length by omega)]
  ·rw [if_neg hq,if_pos si_,if_neg hq]
 ·have hr:inv F s=⟨26,s.fm,s.fd,0,s.tt,s.a,0,x,va0,[],[]⟩:=by
   unfold inv;rw [if_neg h9,if_neg h10,if_neg h1,if_neg om_,if_neg om_,if_neg om_,if_neg om_,if_pos h6,hfa,hx.o]
  have hm:many s=2:=by unfold many;rw [if_neg om_,if_pos h6]
  have e1:dG s x=[{ x with hi:=Int.tdiv x.hi s.a}]++[⟨s.tt,1,0,mn (s.a - 1) x.hi,0⟩]:=by unfold dG dX;simp only;rw [h6];rfl
  rw [e,e1,List.append_assoc] at hnd
  have hfi:ai (ids (fields (aJ F s))) s.fd=k:=by rw [e,e1,List.append_assoc,qB hnd hxid,htk]
  have hm4:=kL h (m:=4) (by rw [h6];decide)
  unfold Sp.Fine at hm4
  simp only [Nat.reduceEqDiff,if_false,if_true] at hm4
  rw [hr,if_neg om_]
  refine ⟨k,⟨hlen.symm,hl8,rfl,fun _=>⟨hfi,by omega⟩,hyb _,by simp,by simp,fun _=>⟨by omega,hm4,hyb _⟩,by simp⟩, ?_⟩
  have hb:ig s x ((V.drop k).take (many s)) lost has=chk x (vn ((V.getD k va0).n*s.a+(V.getD (k+1) va0).n)):=by
   unfold ig;rw [if_neg om_,if_neg om_,if_neg om_,if_neg om_,if_pos h6,pI om_,seg_next om_]
  rw [hb,hm,Int.mul_comm]
  rw [Eg rfl]
  unfold chk
  by_cases hh:x.Has (vn (s.a*(V.getD k va0).n+(V.getD (k+1) va0).n))
  ·rw [if_pos hh,if_neg si_,if_pos hh]
   have hs1:cutV (V.set k (vn (s.a*(V.getD k va0).n+(V.getD (k+1) va0).n))) (k+1)=V.take k++([vn (s.a*(V.getD k va0).n+(V.getD (k+1) va0).n)]++V.drop (k+2)):=by
    have hvk:(V.take k++[vn (s.a*(V.getD k va0).n+(V.getD (k+1) va0).n)]).length=k+1:=by simp;omega
    unfold cutV;rw [zk om_,<-List.append_assoc,List.take_left' hvk,<-List.drop_drop,List.drop_left' hvk,List.drop_drop,List.append_assoc]
   rw [hs1]
  ·rw [if_neg hh,if_pos si_,if_neg hh]
 ·have hr:inv F s=⟨28,s.fm,s.tt,0,s.fd,0,0,fd0,va0,[],[]⟩:=by
   unfold inv;rw [if_neg h9,if_neg h10,if_neg h1,if_neg om_,if_neg om_,if_neg om_,if_neg om_,if_neg om_,if_neg h7]
  have hm:many s=1:=by unfold many;rw [if_neg om_,if_neg om_]
  rw [hr,if_neg om_]
  refine ⟨k,⟨hlen.symm,hl8,rfl,by simp,hyb _,by simp,by simp,by simp,by simp⟩, ?_⟩
  have hb:ig s x ((V.drop k).take (many s)) lost has=(V.getD k va0,0):=by
   unfold ig;rw [if_neg om_,if_pos h8,pI om_]
  rw [hb,hm]
  rw [FO si_,if_neg si_,<-lG (jD om_)]
end turn
end Go.Proofs.YtdnegbkhndekpaaGreat
