/- Contracts and lemmas that claims of this seat share: TurnAwake. Each says its own conditions. -/
import Derived.Test.YtdnegbkhndekpaaGreatCmWord
import Derived.Test.YtdnegbkhndekpaaGreatCmC
import Derived.Test.YtdnegbkhndekpaaGreatCmAC
import Derived.Test.YtdnegbkhndekpaaGreatCmAG
set_option linter.unusedVariables false
namespace Go.Proofs.YtdnegbkhndekpaaGreat
open Go.Proofs.Tryz
theorem t125{P:Prop}(h:P:=by
 unfold backR;rw [JP,if_neg de_,if_neg (by simpa using hr),if_neg de_];decide+kernel):P:=h
namespace turn
open Go Go.RowKit schema typing
open field (Gives aC Va)
open record (Has cu)
open step (Lists va0)
def fA:field.Fd:=⟨0,1,0,9,0⟩
def sA:step.Sp:=⟨4,0,0,0,0,3,1,step.fd0,step.va0,[],[]⟩
theorem JP:on 1 [(0,[fA])] sA=(1,[(0,[⟨0,1,1,28,0⟩])],0):=by decide+kernel
theorem onA:onR 1 [(0,[fA])] sA 0 [vn 5]=⟨0,[vn 16],false,false,⟨#[]⟩,0⟩:=by
 have hr:iG [(0,[fA])] 0 [vn 5]:=⟨[fA],by decide+kernel,by decide+kernel⟩;have hf:fwd sA (atI [(0,[fA])] sA).toNat [vn 5]=[vn 16]:=by decide+kernel
 unfold onR;rw [JP,if_neg de_,if_neg (by simpa using hr),if_neg de_,if_neg de_,hf];rfl
theorem KR:backR 1 [(0,[fA])] sA 0 [vn 16] ⟨#[]⟩ false=(0,[vn 5],0):=by
 have hr:iG [(0,[⟨0,1,1,28,0⟩])] 0 [vn 16]:=⟨[⟨0,1,1,28,0⟩],by decide+kernel,by decide+kernel⟩
 exact t125
theorem KN:backR 1 [(0,[fA])] sA 0 [vn 17] ⟨#[]⟩ false=(0,[],20):=by
 have hr:iG [(0,[⟨0,1,1,28,0⟩])] 0 [vn 17]:=⟨[⟨0,1,1,28,0⟩],by decide+kernel,by decide+kernel⟩
 exact t125
theorem E8 {B:Nat} {w:World} {x:Option Addr} {c:Nat} {n:Int} (h:Own B w (.slice x 1 c) [vn n]):∃g,x=some ⟨g,0,none⟩/\B<=g/\g<w.heap.size/\w.cell? ⟨g,0,none⟩=some (.int .i64 n):=by
 obtain ⟨g,cap,hu,h1,h2,_,_,hr,_⟩:=h.get (k:=0) si_;obtain ⟨hx,_,_⟩:=Value.slice.inj hu;exact ⟨g,hx,h1,h2,hr 0 _ rfl⟩
theorem zl {w:World} {b:Nat} {t:TypeId} {n:Int} (h:Block w b t [.int .i64 n,.string ⟨#[]⟩]):field.Vas w (some ⟨b,0,none⟩) [vn n]:=by
 refine .inr ⟨b,0,rfl,h.lt,fun i p hp=> ?_⟩;cases i with
 | zero=>simp at hp;subst hp;exact ⟨h.cell 0,h.cell 1⟩
 | succ i=>simp at hp
set_option maxRecDepth 20000 in
set_option maxHeartbeats 3200000 in
theorem iK (w:World):Calls prog 7 #[] w (Yes w):=by
 obtain ⟨q,hq⟩:∃q:Fm,Hid (q=⟨0,some ⟨w.heap.size,0,none⟩,1,[fA]⟩):=⟨_,hid rfl⟩;obtain ⟨W0,hW0,bW0,hs0,hB0⟩:=aU w [(26,[.int .i64 0,.int .i64 1,.int .i64 0,.int .i64 9,.int .i64 0]),(57,[.int .i64 0,.slice (some ⟨w.heap.size,0,none⟩) 1 1]),(24,[.int .i64 1,.slice (some ⟨w.heap.size+1,0,none⟩) 1 1]),(32,[.int .i64 4,.int .i64 0,.int .i64 0,.int .i64 0,.int .i64 0,.int .i64 3,.int .i64 1,.int .i64 0,.int .i64 0,.int .i64 0,.int .i64 0,.int .i64 0,.int .i64 0,.string ⟨#[]⟩,.slice none 0 0,.slice none 0 0]),(28,[.int .i64 5,.string ⟨#[]⟩])];simp only [boxes] at hW0;obtain ⟨⟨kF,kM,kS,kT,kV,_⟩,_⟩:=hB0.o W0 (Below.refl _ _);have hfd:field.Fds W0 (some ⟨w.heap.size,0,none⟩) [fA]:=by
  refine .inr ⟨w.heap.size,0,rfl,kF.lt,fun i p hp=> ?_⟩;cases i with
  | zero=>simp at hp;subst hp;exact ⟨kF.cell 0,kF.cell 1,kF.cell 2,kF.cell 3,kF.cell 4⟩
  | succ i=>simp at hp
 have hfm:FmL W0 (some ⟨w.heap.size+1,0,none⟩) [q]:=by
  refine ⟨.inr ⟨w.heap.size+1,0,rfl,kM.lt,fun i p hp=> ?_⟩,fun p hp=> ?_⟩
  ·cases i with
   | zero=>simp at hp;subst hp;rw [hq.o];exact ⟨kM.cell 0,kM.cell 1⟩
   | succ i=>simp at hp
  ·rw [List.mem_singleton.1 hp,hq.o];exact ⟨hfd,Nat.le_refl 1,by show (1:Nat)<=maxLen;unfold maxLen;omega⟩
 have hsm:Small W0 [q]:=⟨by simp,fun p hp=>by rw [List.mem_singleton.1 hp,hq.o];exact ⟨hfd,by simp⟩⟩;have hli:∀W,Lists W sA none none:=fun W=>⟨.inl rfl,.inl rfl,Nat.zero_le _,Nat.zero_le _⟩
 have hfo:forms [q]=[(0,[fA])]:=by rw [hq.o];rfl
 have cO:=on_any 1 (some ⟨w.heap.size+1,0,none⟩) 1 [q] sA none 0 none 0 0 (some ⟨w.heap.size+1+1+1+1,0,none⟩) 1 [vn 5] W0 hfm hsm (hli _) (by simp [sA]) (zl kV) si_;rw [hfo,onA] at cO;unfold OnD at cO;replace cO:Calls prog 8 #[.agg #[.int .i64 1,.slice (some ⟨w.heap.size+1,0,none⟩) 1 1],.agg #[.int .i64 4,.int .i64 0,.int .i64 0,.int .i64 0,.int .i64 0,.int .i64 3,.int .i64 1,.int .i64 0,.int .i64 0,.int .i64 0,.int .i64 0,.int .i64 0,.int .i64 0,.string ⟨#[]⟩,.slice none 0 0,.slice none 0 0],.agg #[.int .i64 0,.slice (some ⟨w.heap.size+1+1+1+1,0,none⟩) 1 1]] W0 (fun e w'=>∃x c,e=.returned (.tuple #[.agg #[.int .i64 0,.slice x 1 c,.bool false,.bool false,.string ⟨#[]⟩],.int .i64 0])/\Own W0.heap.size w' (.slice x 1 c) [vn 16]/\Below W0.heap.size W0 w'):=cO;have cA:∀(W:World) (g:Nat),Below W0.heap.size W0 W->field.Vas W (some ⟨g,0,none⟩) [vn 16]->Calls prog 16 #[.agg #[.int .i64 1,.slice (some ⟨w.heap.size+1,0,none⟩) 1 1],.agg #[.int .i64 4,.int .i64 0,.int .i64 0,.int .i64 0,.int .i64 0,.int .i64 3,.int .i64 1,.int .i64 0,.int .i64 0,.int .i64 0,.int .i64 0,.int .i64 0,.int .i64 0,.string ⟨#[]⟩,.slice none 0 0,.slice none 0 0],.agg #[.int .i64 0,.slice (some ⟨g,0,none⟩) 1 1],.string ⟨#[]⟩,.bool false] W (fun e w'=>∃x c,e=.returned (.tuple #[.agg #[.int .i64 0,.slice x 1 c],.int .i64 0])/\Own W.heap.size w' (.slice x 1 c) [vn 5]/\Below W.heap.size W w'):=fun W g hb hv=>by
  have h:=lK 1 (some ⟨w.heap.size+1,0,none⟩) 1 [q] sA none 0 none 0 0 (some ⟨g,0,none⟩) 1 [vn 16] ⟨#[]⟩ false W (hfm.below hb) (hsm.below hb) (hli _) (by simp [sA]) hv si_ (by unfold maxLen;decide) (by simp [sA]);rw [hfo,KR] at h;unfold kY at h;exact h
 have cB:∀(W:World) (g:Nat),Below W0.heap.size W0 W->field.Vas W (some ⟨g,0,none⟩) [vn 17]->Calls prog 16 #[.agg #[.int .i64 1,.slice (some ⟨w.heap.size+1,0,none⟩) 1 1],.agg #[.int .i64 4,.int .i64 0,.int .i64 0,.int .i64 0,.int .i64 0,.int .i64 3,.int .i64 1,.int .i64 0,.int .i64 0,.int .i64 0,.int .i64 0,.int .i64 0,.int .i64 0,.string ⟨#[]⟩,.slice none 0 0,.slice none 0 0],.agg #[.int .i64 0,.slice (some ⟨g,0,none⟩) 1 1],.string ⟨#[]⟩,.bool false] W (fun e w'=>∃x c,e=.returned (.tuple #[.agg #[.int .i64 0,.slice x 0 c],.int .i64 20])/\Own W.heap.size w' (.slice x 0 c) []/\Below W.heap.size W w'):=fun W g hb hv=>by
  have h:=lK 1 (some ⟨w.heap.size+1,0,none⟩) 1 [q] sA none 0 none 0 0 (some ⟨g,0,none⟩) 1 [vn 17] ⟨#[]⟩ false W (hfm.below hb) (hsm.below hb) (hli _) (by simp [sA]) hv si_ (by unfold maxLen;decide) (by simp [sA]);rw [hfo,KN] at h;unfold kY at h;exact h
 have HIS:Hid ((prog.info? 32).map (·.size)=some ([.int .i64 4,.int .i64 0,.int .i64 0,.int .i64 0,.int .i64 0,.int .i64 3,.int .i64 1,.int .i64 0,.int .i64 0,.int .i64 0,.int .i64 0,.int .i64 0,.int .i64 0,.string ⟨#[]⟩,.slice none 0 0,.slice none 0 0]:List Value).length):=hid gq.o;have s0:=kS.cell 0;have s1:=kS.cell 1;have HRG:=hid kT.whole;rw [<-hW0.o] at cO HRG s0 s1;clear kF kM kS kT kV hfd hfm hsm hq hfo hli;go_enter func7,ntmps7;go_wp2_with (first
  | (with_reducible refine wpList_load_mid rfl 32 (.tmp 2) rfl (w.heap.size+1+1+1) 0 rfl [.int .i64 4,.int .i64 0,.int .i64 0,.int .i64 0,.int .i64 0,.int .i64 3,.int .i64 1,.int .i64 0,.int .i64 0,.int .i64 0,.int .i64 0,.int .i64 0,.int .i64 0,.string ⟨#[]⟩,.slice none 0 0,.slice none 0 0] _ HRG.o underlying32 rfl HIS.o ?_)
  | (go_at_call 8;((with_reducible refine cO.mono ?_);rintro e w1 ⟨x,c,rfl,ho,hb1⟩;rw [hW0.o] at ho hb1;obtain ⟨g,rfl,hg,hg2,hc⟩:=E8 ho;obtain ⟨W2,hW2,bW2,hs2,hB2⟩:=aU w1 [(40,[.int .i64 0,.slice (some ⟨g,0,none⟩) 1 c,.bool false,.bool false,.string ⟨#[]⟩]),(28,[.int .i64 16,.string ⟨#[]⟩])];simp only [boxes] at hW2;have hb2:=hb1.trans (bW2.mono hb1.size);obtain ⟨⟨k1,k2,_⟩,_⟩:=hB2.o W2 (Below.refl _ _);have hbP:=hb1.trans ((aC w1 (.cells #[.int .i64 0,.slice (some ⟨g,0,none⟩) 1 c,.bool false,.bool false,.string ⟨#[]⟩] 40)).mono hb1.size);obtain ⟨⟨_,_,kS,kT,_⟩,_⟩:=hB0.o _ hbP;have s0:=kS.cell 0;have s1:=kS.cell 1;have HRG:=hid kT.whole;have cA2:=cA W2 _ hb2 (zl k2);have HB2:=hid hb2;have HCG:=hid hc;have HGB:=hid hg2;rw [<-hW2.o] at cA2;clear hbP;clear k1 k2 kS kT ho hb1 hb2 bW2 hg hg2 hc cO))
  | (go_at_call 16;((with_reducible refine cA2.mono ?_);rintro e w3 ⟨y,d,rfl,ho,hb3⟩;rw [hW2.o] at ho hb3;obtain ⟨g3,rfl,hg,hg2,hc⟩:=E8 ho;obtain ⟨W4,hW4,bW4,hs4,hB4⟩:=aU w3 [(35,[.int .i64 0,.slice (some ⟨g3,0,none⟩) 1 d]),(28,[.int .i64 17,.string ⟨#[]⟩])];simp only [boxes] at hW4;have hb24:=hb3.trans (bW4.mono hb3.size);have hb4:=HB2.o.trans (hb24.mono HB2.o.size);obtain ⟨⟨k1,k2,_⟩,_⟩:=hB4.o W4 (Below.refl _ _);have hbP:=HB2.o.trans ((hb3.trans ((aC w3 (.cells #[.int .i64 0,.slice (some ⟨g3,0,none⟩) 1 d] 35)).mono hb3.size)).mono HB2.o.size);obtain ⟨⟨_,_,kS,kT,_⟩,_⟩:=hB0.o _ hbP;have s0:=kS.cell 0;have s1:=kS.cell 1;have HRG:=hid kT.whole;have cB4:=cB W4 _ hb4 (zl k2);have HB4:=hid hb4;have HB24:=hid hb24;have HCG3:=hid hc;have HGB3:=hid hg2;rw [<-hW4.o] at cB4;clear hbP;clear k1 k2 kS kT ho hb3 hb24 hb4 bW4 hg hg2 hc cA2))
  | (go_at_call 16;((with_reducible refine cB4.mono ?_);rintro e w5 ⟨z,e5,rfl,_,hb5⟩;rw [hW4.o] at hb5;have hb45:=hb5.trans ((aC w5 (.cells #[.int .i64 0,.slice z 0 e5] 35)).mono hb5.size);obtain ⟨⟨k3,_⟩,hb36⟩:=hB4.o _ hb45;have y0:=(hb36.cell (p:=⟨g3,0,none⟩) HGB3.o).trans HCG3.o;have y1:=k3.cell 1;have hb26:=HB24.o.trans (hb45.mono HB24.o.size);obtain ⟨⟨k1,_⟩,hb16⟩:=hB2.o _ hb26;have x0:=(hb16.cell (p:=⟨g,0,none⟩) HGB.o).trans HCG.o;have x1:=k1.cell 1;have HE:=hid (hB0.o _ (HB4.o.trans (hb45.mono HB4.o.size))).2;clear hb45 hb36 hb26 hb16 k1 k3 hb5 cB4)))
 go_ret;exact ⟨rfl,HE.o⟩
end turn
end Go.Proofs.YtdnegbkhndekpaaGreat
