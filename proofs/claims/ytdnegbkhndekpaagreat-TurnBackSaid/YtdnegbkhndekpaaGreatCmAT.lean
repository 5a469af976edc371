/- Contracts and lemmas that claims of this seat share: TypingRefOnAny. Each says its own conditions. -/
import Derived.Test.YtdnegbkhndekpaaGreatCmWord
import Derived.Test.YtdnegbkhndekpaaGreatCmAM
import Derived.Test.YtdnegbkhndekpaaGreatCmAN
import Derived.Test.YtdnegbkhndekpaaGreatCmAO
import Derived.Test.YtdnegbkhndekpaaGreatCmAP
import Derived.Test.YtdnegbkhndekpaaGreatCmAQ
import Derived.Test.YtdnegbkhndekpaaGreatCmAR
import Derived.Test.YtdnegbkhndekpaaGreatCmAS
set_option linter.unusedVariables false
namespace Go.Proofs.YtdnegbkhndekpaaGreat
open Go.Proofs.Tryz
namespace typing
open Go.RowKit schema
open step (Lists)
theorem kD (v:Int) (a:Option Addr) (cap:Nat) (F:List Fm) (s:step.Sp) (ta:Option Addr) (tc:Nat) (la:Option Addr) (lc:Nat) (w:World) (h:FmL w a F) (hF:Small w F) (hl:Lists w s ta la) (hL:s.l.length<=40):
  Calls prog 13 #[zS v a F.length cap,zP s ta tc la lc] w (OnR (on v (forms F) s) w):=by
 rw [<-Gu];unfold Ho;by_cases hf:Fit v (forms F) s
 ·rw [if_pos hf];by_cases h0:names (forms F) s=0
  ·rw [if_pos h0];by_cases h9:s.op=9
   ·have e:bY (forms F) s=(s.l,0):=by unfold bY;rw [if_pos h9]
    rw [e];rw [if_pos rfl];exact IU v a cap F s ta tc la lc w h hF hl hL hf h0 h9 _ (fun hR=>if_pos hR) (fun hR=>if_neg hR)
   ·obtain ⟨p,hn,hp1,hp7,hpf⟩:=lQ hf h0 h9;by_cases h1:s.op=1
    ·have e:bY (forms F) s=(dK p.2 s.pl.toNat s.f,0):=by unfold bY;rw [if_neg h9,hn];simp [h1]
     rw [e];rw [if_pos rfl];exact J7 v a cap F s ta tc la lc w h hF hl hL hf h0 h1 p hn _ (fun hR=>if_pos hR) (fun hR=>if_neg hR)
    ·by_cases h10:s.op=10
     ·have e:bY (forms F) s=([],0):=by unfold bY;rw [if_neg h9,hn];simp [h10]
      rw [e];rw [if_pos rfl];exact Ih v a cap F s ta tc la lc w h hF hl hL hf h0 h10 _ (fun hR=>if_pos hR) (fun hR=>if_neg hR)
     ·obtain ⟨ML,tb,hT⟩:∃ML tb,types (bG p.2 (ai (ids p.2) s.fd)) s=(ML,tb):=⟨_,_,rfl⟩;obtain ⟨FIN,hFIN⟩:∃FIN,puts (fD p.2 (ai (ids p.2) s.fd).toNat) (if s.op=7 then s.pl.toNat else (ai (ids p.2) s.fd).toNat) ML=FIN:=⟨_,rfl⟩;have e:bY (forms F) s=if tb=false then ([],17) else if FIN=[] then ([],7) else (FIN,0):=by
       unfold bY;rw [if_neg h9,hn];simp only [h1,h10,if_false,hT,hFIN]
      cases tb with
      | false=>
       rw [show bY (forms F) s=([],17) by rw [e];rfl,if_neg de_];exact EY v a cap F s ta tc la lc w h hF hl hL hf h0 h9 h1 h10 p hn ML hT FIN hFIN
      | true=>
       have eE:FIN=[]->bY (forms F) s=([],7):=fun hE=>by rw [e,if_neg de_,if_pos hE]
       have eN:FIN≠[]->bY (forms F) s=(FIN,0):=fun hE=>by rw [e,if_neg de_,if_neg hE]
       have k1:FIN=[]->(if (bY (forms F) s).2=0 then (if Right v (bK (forms F) s.fm (bY (forms F) s).1) then (v,bK (forms F) s.fm (bY (forms F) s).1,0) else (0,[],7)) else (0,[],(bY (forms F) s).2))=(0,[],7):=fun hE=>by rw [eE hE];rfl
       have k2:FIN≠[]->Right v (bK (forms F) s.fm FIN)->(if (bY (forms F) s).2=0 then (if Right v (bK (forms F) s.fm (bY (forms F) s).1) then (v,bK (forms F) s.fm (bY (forms F) s).1,0) else (0,[],7)) else (0,[],(bY (forms F) s).2))=(v,bK (forms F) s.fm FIN,0):=fun hE hR=>by rw [eN hE,if_pos rfl,if_pos hR]
       have k3:FIN≠[]->¬Right v (bK (forms F) s.fm FIN)->(if (bY (forms F) s).2=0 then (if Right v (bK (forms F) s.fm (bY (forms F) s).1) then (v,bK (forms F) s.fm (bY (forms F) s).1,0) else (0,[],7)) else (0,[],(bY (forms F) s).2))=(0,[],7):=fun hE hR=>by rw [eN hE,if_pos rfl,if_neg hR]
       by_cases h7:s.op=7
       ·exact Ir v a cap F s ta tc la lc w h hF hl hL hf h0 h9 h1 h10 p hn ML hT FIN hFIN h7 _ k1 k2 k3
       ·exact Jc v a cap F s ta tc la lc w h hF hl hL hf h0 h9 h1 h10 p hn ML hT FIN hFIN h7 _ k1 k2 k3
  ·rw [if_neg h0];exact Ar v a cap F s ta tc la lc w h hF hl hL hf h0
 ·rw [if_neg hf];exact Hw v a cap F s ta tc la lc w h hF hl hL hf
end typing
end Go.Proofs.YtdnegbkhndekpaaGreat
