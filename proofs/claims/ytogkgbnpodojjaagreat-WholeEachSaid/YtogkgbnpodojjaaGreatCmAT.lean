/- Contracts and lemmas that claims of this seat share: WholeStray. Each says its own conditions. -/
import Derived.Test.YtogkgbnpodojjaaGreatCmWord
import Derived.Test.YtogkgbnpodojjaaGreatCmC
import Derived.Test.YtogkgbnpodojjaaGreatCmAQ
set_option linter.unusedVariables false
namespace Go.Proofs.YtogkgbnpodojjaaGreat
open Go.Proofs.Tryz
namespace whole
open Go Go.RowKit Go.Shelf Go.Lib
open item (It Its itC)
open step (St StL sps)
abbrev Sd:={ p:It // 16777216<=p.key/\p.key<4294967296}
instance:Inhabited Sd:=⟨⟨⟨16777216,⟨#[]⟩⟩,by decide,by decide⟩⟩
theorem index_none (a:Option Addr) (c:Nat) (fv:Value) (w:World):Calls prog 74 #[.slice a 0 c,fv] w fun e w'=>e=.returned (.int .i64 (-1))/\w'=w:=by
 go_enter func74,ntmps74;go_wp2;refine wp_loop_rounds 1 ?_;rw [rounds_succ];go_wp2;go_ret;exact ⟨rfl,rfl⟩
def FH (L:List step.Sp) (S:List It) (w:World) (e:Ending) (w':World):Prop:=∃b:Bool,e=.returned (.bool b)/\(b=false↔∀p∈S,Removed L p.key)/\Below w.heap.size w w'
open Classical in
theorem pK (g:Nat) (la:Option Addr) (lc:Nat) (L:List St) (sa:Option Addr) (sc:Nat) (S:List It) (w:World) (h:StL w la L) (hL:L.length<=200) (hS:Its w sa S) (hn:S.length<=1000000) (hk:∀p∈S,16777216<=p.key/\p.key<4294967296) (hg:Block w g 25 [.slice la L.length lc]):
  Calls prog 42 #[.slice sa S.length sc,.func (.func 40) #[] #[.pointer (some ⟨g,0,none⟩)]] w (FH (sps L) S w):=by
 rcases hS with rfl | ⟨b,off,rfl,hlt,hc⟩
 ·have cI:=index_none sa sc (.func (.func 40) #[] #[.pointer (some ⟨g,0,none⟩)]) w;have k:Calls prog 42 #[.slice sa 0 sc,.func (.func 40) #[] #[.pointer (some ⟨g,0,none⟩)]] w fun e w'=>e=.returned (.bool false)/\w'=w:=by
   clear h hL hn hk hg;go_enter func42,ntmps42;go_wp2_with (go_at_call 74;((with_reducible refine cI.mono ?_);rintro e w1 ⟨rfl,rfl⟩));go_ret;exact ⟨rfl,rfl⟩
  refine k.mono ?_;rintro e w' ⟨rfl,rfl⟩;exact ⟨false,rfl,⟨fun _ p hp=>(by cases hp),fun _=>rfl⟩,Below.refl _ _⟩
 ·have hp:PredBelow prog 40 #[.pointer (some ⟨g,0,none⟩)] (fun x:Sd=>.agg (itC x.1).toArray) (fun x=>decide (¬Removed (sps L) x.1.key)) w:=by
   intro W x hb;refine (EZ g la lc L x.1 W (h.below hb) hL x.2.2 x.2.1 (hg.later hb)).mono ?_;rintro e w' ⟨r,rfl,hr,hb'⟩;refine ⟨?_,hb.trans (hb'.mono hb.size)⟩;have:(!r)=decide (¬Removed (sps L) x.1.key):=by
    cases r with
    | true=>simp [hr.1 rfl]
    | false=>
     have:¬Removed (sps L) x.1.key:=fun q=>by have:=hr.2 q;cases this
     simp [this]
   rw [this]
  have hz:(S.attachWith _ hk).length=S.length:=by simp
  have k:=AnyQ.slices_ContainsFunc (P:=prog) (ρ:=anyItem_ren) anyItem 2 isAgg43 Tryz.sizeOf43 (fun x:Sd=>itC x.1) (fun _=>rfl) (fun x=>decide (¬Removed (sps L) x.1.key)) 40 #[.pointer (some ⟨g,0,none⟩)]
   (enters_of func40 kr_ rfl) b off S.length sc (S.attachWith _ hk) w hp (by rw [hz];exact Nat.le_refl _) om_ hlt (fun j hj i u hu=>by
    have hj':j<S.length:=by rw [hz] at hj;exact hj
    rw [getElem!_pos _ j hj,List.getElem_attachWith] at hu;obtain ⟨c0,c1⟩:=hc j _ (List.getElem?_eq_getElem hj');match i,hu with
    | 0,hu=>cases hu;exact c0
    | 1,hu=>cases hu;exact c1)
  refine Calls.mono (P:=prog) (f:=42) k ?_
  rintro e w' ⟨rfl,hb⟩
  refine ⟨_,rfl, ?_,hb⟩
  rw [List.take_of_length_le (by rw [hz];exact Nat.le_refl _),List.any_eq_false]
  constructor
  ·intro q p hp
   have:=q ⟨p,hk p hp⟩ (by rw [List.mem_attachWith];exact hp)
   simpa using this
  ·intro q x hx
   have:=q x.1 ((List.mem_attachWith ..).1 hx)
   simpa using this
end whole
end Go.Proofs.YtogkgbnpodojjaaGreat
