/- Contracts and lemmas that claims of this seat share: WholeRows, Boxes, ItemTold, WholeOwn, WholeKeep, WholeSort, TurnSmall, WholeLaid, TypingLawKit, ItemRefFind. Each says its own conditions. -/
import Derived.Test.YtogkgbnpodojjaaGreatCmWord
import Derived.Lib.ConvBytes
import Derived.Conc.WalkWords
import Derived.Test.YtogkgbnpodojjaaGreatCmE
import Derived.Test.YtogkgbnpodojjaaGreatCmG
import Derived.Test.YtogkgbnpodojjaaGreatCmF
import Derived.Test.YtogkgbnpodojjaaGreatCmJ
import Derived.Test.YtogkgbnpodojjaaGreatCmL
import Derived.Test.YtogkgbnpodojjaaGreatCmC
import Derived.Test.YtogkgbnpodojjaaGreatCmAB
import Derived.Test.YtogkgbnpodojjaaGreatCmV
import Derived.Test.YtogkgbnpodojjaaGreatCmAE
import Derived.Test.YtogkgbnpodojjaaGreatCmAI
import Derived.Test.YtogkgbnpodojjaaGreatCmAJ
import Derived.Test.YtogkgbnpodojjaaGreatCmAF
import Derived.Test.YtogkgbnpodojjaaGreatCmAG
import Derived.Test.YtogkgbnpodojjaaGreatCmS
import Derived.Test.YtogkgbnpodojjaaGreatCmAH
set_option linter.unusedVariables false
namespace Go.Proofs.YtogkgbnpodojjaaGreat
open Go.Proofs.Tryz
theorem t45{P:Prop}(h:P:=by
 have hb:=hg.block b hlt (ha _ rfl);exact .inr ⟨b,off,rfl,Nat.lt_of_lt_of_le hlt hg.size,fun i p hp=>by
  obtain ⟨c0,c1⟩:=hc i p hp;exact ⟨(World.cell?_of_block (a:=⟨b,off+i*2,none⟩) hb).trans c0,(World.cell?_of_block (a:=⟨b,off+i*2+1,none⟩) hb).trans c1⟩⟩):P:=h
namespace whole
open Go.RowKit schema typing
open field (Va)
open turn (Own)
open item (It Its itC)
theorem Ii {v:Value} {w:World} {a:Option Addr} {V:List Va} (h:field.Vas w a V) (ha:∀y,a=some y->some y.block≠v.ownBlock):Kept (fun W=>field.Vas W a V) v w:=by
 intro w' hg;rcases h with h | ⟨b,off,rfl,hlt,hc⟩
 ·exact .inl h
 ·exact t45
theorem FZ {v:Value} {w:World} {a:Option Addr} {L:List field.Fd} (h:field.Fds w a L) (ha:∀y,a=some y->some y.block≠v.ownBlock):Kept (fun W=>field.Fds W a L) v w:=by
 intro w' hg;rcases h with h | ⟨b,off,rfl,hlt,hc⟩
 ·exact .inl h
 ·have hb:=hg.block b hlt (ha _ rfl);exact .inr ⟨b,off,rfl,Nat.lt_of_lt_of_le hlt hg.size,fun i p hp=>by
   obtain ⟨c0,c1,c2,c3,c4⟩:=hc i p hp;exact ⟨(World.cell?_of_block (a:=⟨b,off+i*5,none⟩) hb).trans c0,(World.cell?_of_block (a:=⟨b,off+i*5+1,none⟩) hb).trans c1,(World.cell?_of_block (a:=⟨b,off+i*5+2,none⟩) hb).trans c2,(World.cell?_of_block (a:=⟨b,off+i*5+3,none⟩) hb).trans c3,(World.cell?_of_block (a:=⟨b,off+i*5+4,none⟩) hb).trans c4⟩⟩
theorem zO {v:Value} {w:World} {a:Option Addr} {F:List Fm} (h:FmL w a F) (ha:∀y,a=some y->some y.block≠v.ownBlock) (hf:∀p∈F,∀y,p.f=some y->some y.block≠v.ownBlock):Kept (fun W=>FmL W a F) v w:=by
 intro w' hg;refine ⟨?_,fun p hp=>⟨FZ (h.2 p hp).rf (hf p hp) w' hg,(h.2 p hp).cf,(h.2 p hp).df⟩⟩;rcases h.1 with h | ⟨b,off,rfl,hlt,hc⟩
 ·exact .inl h
 ·exact t45
structure En where
 (key:Nat) (a:Option Addr) (c:Nat) (V:List Va)
def En.p (x:En):Ent:=(x.key,x.V)
def enC (x:En):List Value:=[.int .u32 (x.key:Nat),.int .i64 (aK x.key),.slice x.a x.V.length x.c]
def EnR (w:World) (x:En):Prop:=field.Vas w x.a x.V
def EnO (B:Nat) (w:World) (x:En):Prop:=Own B w (.slice x.a x.V.length x.c) x.V
theorem EnO.now {B:Nat} {w:World} {x:En} (h:EnO B w x):EnR w x:=by
 obtain ⟨a,c,he,_,hV⟩:=Own.slice h;cases he
 exact hV
abbrev Ens (w0:World) (X:List En) (v:Value) (w:World):Prop:=Gath 68 3 enC EnR w0 X v w
theorem jD (x:En):(enC x).length=3:=rfl
theorem D8 (x:En):∀u∈enC x,u.oneCell'=true:=by intro u hu;simp [enC] at hu;rcases hu with rfl | rfl | rfl <;> rfl
theorem EnR.below {w w':World} {x:En} (h:EnR w x) (hb:Below w.heap.size w w'):EnR w' x:=field.Vas.below h hb
structure Ph where
 (a:Option Addr) (c:Nat) (F:List Fm)
def phC (v:Int) (x:Ph):List Value:=(zS v x.a x.F.length x.c)
def PhR (w:World) (x:Ph):Prop:=FmL w x.a x.F/\Small w x.F
abbrev Phs (v:Int) (w0:World) (X:List Ph) (u:Value) (w:World):Prop:=Gath 24 2 (phC v) PhR w0 X u w
theorem tH (v:Int) (x:Ph):(phC v x).length=2:=rfl
theorem J7 (v:Int) (x:Ph):∀u∈phC v x,u.oneCell'=true:=by intro u hu;simp [phC] at hu;rcases hu with rfl | rfl <;> rfl
theorem PhR.below {w w':World} {x:Ph} (h:PhR w x) (hb:Below w.heap.size w w'):PhR w' x:=⟨h.1.below hb,h.2.below hb⟩
def ItR (w:World) (x:It):Prop:=True
abbrev IRow (w0:World) (X:List It) (u:Value) (w:World):Prop:=Gath 43 2 itC ItR w0 X u w
theorem iV (x:It):(itC x).length=2:=rfl
theorem IU {w:World} {a:Option Addr} {L:List It} (h:Its w a L):Lie 2 itC w a L:=by
 rcases h with h | ⟨b,off,ha,hlt,hc⟩
 ·exact .inl h
 ·refine .inr ⟨b,off,ha,hlt,fun i p hp c u hu=> ?_⟩;obtain ⟨c0,c1⟩:=hc i p hp;match c,hu with
  | 0,hu=>cases hu;exact c0
  | 1,hu=>cases hu;exact c1
theorem jG {w:World} {a:Option Addr} {L:List It} (h:Lie 2 itC w a L):Its w a L:=by
 rcases h with h | ⟨b,off,ha,hlt,hc⟩
 ·exact .inl h
 ·exact .inr ⟨b,off,ha,hlt,fun i p hp=>⟨hc i p hp 0 _ rfl,hc i p hp 1 _ rfl⟩⟩
theorem FT {w w':World} {a:Option Addr} {X:List En} (h:Lie 3 enC w a X) (hb:Below w.heap.size w w') {k:Nat} (hk:k<X.length):
  ∃b off p,a=some ⟨b,off,none⟩/\b<w'.heap.size/\X[k]?=some p/\w'.cell? ⟨b,off+k*3,none⟩=some (.int .u32 (p.key:Nat))/\w'.cell? ⟨b,off+k*3+1,none⟩=some (.int .i64 (aK p.key))/\w'.cell? ⟨b,off+k*3+2,none⟩=some (.slice p.a p.V.length p.c):=by
 rcases h.below hb with h | ⟨b,off,ha,hlt,hc⟩
 ·subst h;simp at hk
 ·have hp:X[k]?=some X[k]:=List.getElem?_eq_getElem hk;exact ⟨b,off,_,ha,hlt,hp,hc k _ hp 0 _ rfl,hc k _ hp 1 _ rfl,hc k _ hp 2 _ rfl⟩
theorem rY {v:Int} {w w':World} {a:Option Addr} {X:List Ph} (h:Lie 2 (phC v) w a X) (hb:Below w.heap.size w w') {k:Nat} (hk:k<X.length):
  ∃b off p,a=some ⟨b,off,none⟩/\b<w'.heap.size/\X[k]?=some p/\w'.cell? ⟨b,off+k*2,none⟩=some (.int .i64 v)/\w'.cell? ⟨b,off+k*2+1,none⟩=some (.slice p.a p.F.length p.c):=by
 rcases h.below hb with h | ⟨b,off,ha,hlt,hc⟩
 ·subst h;simp at hk
 ·have hp:X[k]?=some X[k]:=List.getElem?_eq_getElem hk;exact ⟨b,off,_,ha,hlt,hp,hc k _ hp 0 _ rfl,hc k _ hp 1 _ rfl⟩
theorem IA:(prog.info? 68).map (fun i=>(i.zero,i.size,i.bytes))=some (some (.agg #[.int .u32 0,.int .i64 0,.slice none 0 0]),3,40):=by kernel_rfl
theorem J9:(prog.info? 24).map (fun i=>(i.zero,i.size,i.bytes))=some (some (.agg #[.int .i64 0,.slice none 0 0]),2,32):=by kernel_rfl
theorem jR:Hid ((prog.info? 24).map (·.size)=some 2):=by show _=_;kernel_rfl
theorem qg:Hid ((prog.info? 57).map (·.size)=some 16):=by show _=_;kernel_rfl
theorem IJ:Hid ((prog.info? 68).map (·.size)=some 3):=by show _=_;kernel_rfl
theorem info_parts {t:TypeId} {z:Value} {k b:Nat} (h:(prog.info? t).map (fun i=>(i.zero,i.size,i.bytes))=some (some z,k,b)):∃i,prog.info? t=some i/\i.zero=some z/\i.size=k/\i.bytes=b:=by
 obtain ⟨i,hi,he⟩:=Option.map_eq_some_iff.1 h
 exact t109
section
variable {w0 w:World} {ops:Array Oper} {rest:List Oper} {o:Oper} {a:Act} {Q:Exit->Act->World->Prop} {v:Value} (hgd:o.guard=none) (s x:Operand)
include hgd
theorem fZ (ho:o.op=.call { callee:=.builtin .append,args:=#[s,x],argTypes:=#[61,61]})
  {R:World->En->Prop} {X:List En} (M:List En) (hs:a.eval s=v) (ap:Option Addr) (c:Nat) (hx:a.eval x=.slice ap M.length c) (h:Hid (Gath 68 3 enC R w0 X v w)) (hM:Hid (Lie 3 enC w ap M)) (hR:Hid (∀p∈M,Kept (fun W=>R W p) v w)) (hn:Hid (X.length+M.length<=1000000))
  (hq:∀v' w',Hid (Gath 68 3 enC R w0 (X++M) v' w')->Hid (w.grownBy w' v.ownBlock)->wpList prog ops Q rest (a.put o.dst v') w'):wpList prog ops Q (o :: rest) a w:=by
 obtain ⟨i,hi,hz,hsz,hby⟩:=info_parts IA;exact iJ hgd s x 61 ho underlying61 hi hz hsz hby (by simp [Value.cells]) om_ om_ jD D8 M hs ap c hx h hM hR hn hq
theorem kU (ho:o.op=.call { callee:=.builtin .append,args:=#[s,x],argTypes:=#[58,58]})
  {ver:Int} {X:List Ph} (M:List Ph) (hs:a.eval s=v) (ap:Option Addr) (c:Nat) (hx:a.eval x=.slice ap M.length c) (h:Hid (Phs ver w0 X v w)) (hM:Hid (Lie 2 (phC ver) w ap M)) (hR:Hid (∀p∈M,Kept (fun W=>PhR W p) v w)) (hn:Hid (X.length+M.length<=1000000))
  (hq:∀v' w',Hid (Phs ver w0 (X++M) v' w')->Hid (w.grownBy w' v.ownBlock)->wpList prog ops Q rest (a.put o.dst v') w'):wpList prog ops Q (o :: rest) a w:=by
 obtain ⟨i,hi,hz,hsz,hby⟩:=info_parts J9;exact iJ hgd s x 58 ho underlying58 hi hz hsz hby (by simp [Value.cells]) om_ om_ (tH ver) (J7 ver) M hs ap c hx h hM hR hn hq
theorem iK (ho:o.op=.call { callee:=.builtin .append,args:=#[s,x],argTypes:=#[26,26]})
  {X:List It} (M:List It) (hs:a.eval s=v) (ap:Option Addr) (c:Nat) (hx:a.eval x=.slice ap M.length c) (h:Hid (IRow w0 X v w)) (hM:Hid (Its w ap M)) (hn:Hid (X.length+M.length<=1000000))
  (hq:∀v' w',Hid (IRow w0 (X++M) v' w')->Hid (w.grownBy w' v.ownBlock)->wpList prog ops Q rest (a.put o.dst v') w'):wpList prog ops Q (o :: rest) a w:=by
 obtain ⟨i,hi,hz,hsz,hby⟩:=info_parts item.yL;exact iJ hgd s x 26 ho underlying26 hi hz hsz hby (by simp [Value.cells]) om_ om_ iV item.sV M hs ap c hx h (hid (IU hM.o)) (hid fun p _ _ _=>trivial) hn hq
end
theorem kP {α:Type} {k:Nat} {C:α->List Value} {w:World} {g:Nat} {t:TypeId} {p:α} (hB:Block w g t (C p)):Lie k C w (some ⟨g,0,none⟩) [p]:=by
 refine .inr ⟨g,0,rfl,hB.lt,fun i q hq c u hu=> ?_⟩;obtain ⟨rfl,rfl⟩:i=0/\p=q:=by
  cases i with
  | zero=>exact ⟨rfl,by simpa using hq⟩
  | succ i=>simp at hq
 have:=hB.cell c;rw [hu] at this;simpa using this
theorem Gx {R:World->Prop} {w0 w:World} {v:Value} (hR:∀w',Below w0.heap.size w0 w'->R w') (hb:Below w0.heap.size w0 w) (hv:∀g,v.ownBlock=some g->w0.heap.size<=g):Kept R v w:=
 fun w' hg=>hR w' (hb.grown hg hb.size hv)
theorem H9 {w w1:World} {v:Value} {x:Option Addr} {c:Nat} {V:List Va} (h:Own w.heap.size w1 (.slice x V.length c) V) (hv:∀g,v.ownBlock=some g->g<w.heap.size):Kept (fun W=>field.Vas W x V) v w1:=by
 obtain ⟨x',c',he,_,hV⟩:=h.slice;cases he
 refine Ii hV (fun y hy e=> ?_);subst hy;have h1:=(World.ownsRow.lt h y.block rfl).1;have h2:=hv y.block e.symm;omega
theorem qX {B:Nat} {w w1:World} {v:Value} {x:Option Addr} {c:Nat} {V:List Va} (h:Own w.heap.size w1 (.slice x V.length c) V) (hB:B<=w.heap.size) (hv:∀g,v.ownBlock=some g->g<w.heap.size):Kept (fun W=>Own B W (.slice x V.length c) V) v w1:=by
 intro w' hg;refine aW (bT h (fun g hh=> ?_)) hB;have h1:=World.ownsRow.lt h g hh;exact hg.block g h1.2 (fun e=>by have:=hv g e.symm;omega)
theorem zC {w w1:World} {v:Value} {x:Option Addr} {G:List Fm} (h:FmL w1 x G) (hs:G.length<=40/\∀p∈G,p.fL.length<=40) (hf:Far w.heap.size x G) (hv:∀g,v.ownBlock=some g->g<w.heap.size):Kept (fun W=>FmL W x G/\Small W G) v w1:=by
 intro w' hg;have h1:FmL w' x G:=zO h (fun y hy e=>by have h1:=hf.1 y hy;have h2:=hv _ e.symm;omega) (fun p hp y hy e=>by have h1:=hf.2 p hp y hy;have h2:=hv _ e.symm;omega) w' hg;exact ⟨h1,hs.1,fun p hp=>⟨(h1.2 p hp).rf,hs.2 p hp⟩⟩
end whole
section
open Go Go.RowKit
def boxes:World->List (TypeId×List Value)->World
 | w,[]=>w
 | w,(t,cs) :: r=>boxes (w.alloc (.cells cs.toArray t)) r
def Boxed (w:World):Nat->List (TypeId×List Value)->Prop
 | _,[]=>True
 | b,(t,cs) :: r=>Block w b t cs/\Boxed w (b+1) r
theorem Boxed.later {w w':World} (hb:Below w.heap.size w w'):∀ {b:Nat} {l:List (TypeId×List Value)},Boxed w b l->Boxed w' b l
 | _,[],_=>trivial
 | _,(_,_) :: _,⟨h,k⟩=>⟨h.later hb,Boxed.later hb k⟩
theorem jJ:∀(l:List (TypeId×List Value)) (w:World),Below w.heap.size w (boxes w l)/\(boxes w l).heap.size=w.heap.size+l.length/\Boxed (boxes w l) w.heap.size l
 | [],w=>⟨Below.refl _ _,rfl,trivial⟩
 | (t,cs) :: r,w=>by
  obtain ⟨h1,h2,h3⟩:=jJ r (w.alloc (.cells cs.toArray t));have hn:Below w.heap.size w (w.alloc (.cells cs.toArray t)):=(Below.refl _ _).alloc (Nat.le_refl _) _;have hs:(w.alloc (.cells cs.toArray t)).heap.size=w.heap.size+1:=by simp
  unfold boxes;refine ⟨hn.trans (h1.mono hn.size),by rw [h2,hs,List.length_cons];omega,(Block.new w t cs).later h1, ?_⟩;rw [<-hs];exact h3
theorem aS (w:World) (l:List (TypeId×List Value)):∃W,Hid (boxes w l=W)/\Below w.heap.size w W/\Hid (W.heap.size=w.heap.size+l.length)/\Hid (∀w',Below W.heap.size W w'->Boxed w' w.heap.size l/\Below w.heap.size w w'):=
 ⟨_,hid rfl,(jJ l w).1,hid (jJ l w).2.1,hid fun w' hb=>⟨(jJ l w).2.2.later hb,(jJ l w).1.trans (hb.mono (jJ l w).1.size)⟩⟩
end
namespace item
open Go.RowKit
def uf (k:Nat) (w:World) (e:Ending) (w':World):Prop:=e=.returned (.tuple #[.int .i64 ((k / 16777216:Nat) - 1:Int),.int .i64 ((k % 16777216 / 65536:Nat):Int),.int .i64 ((k % 65536:Nat):Int)])/\Below w.heap.size w w'
theorem qE (k:Nat) (w:World) (hk:k<4294967296):Calls prog 52 #[.int .u32 (k:Int)] w (uf k w):=by
 unfold uf;go_enter func52,ntmps52;go_wp2;go_ret3;exact ⟨by go_num,Below.refl _ _⟩
end item
theorem t81{P:Prop}(h:P:=by
 rw [if_pos h1] at h;exact absurd h h1):P:=h
namespace whole
open Go.RowKit schema step typing turn
open item (It bK sides)
open field (Va)
def eG (k:Nat) (I:List It):List It:=I.filter fun p=>decide (p.key % 16777216=k)
def ig (k:Nat) (E:List Ent):List Ent:=E.filter fun e=>decide (e.1=k)
def leE (a b:Ent):Bool:=decide (a.1<=b.1)
theorem xG (a b c:Ent) (h:leE a b=true) (h':leE b c=true):leE a c=true:=by
 unfold leE at *;simp only [decide_eq_true_eq] at *;omega
theorem xE (a b:Ent):(leE a b || leE b a)=true:=by
 unfold leE;simp only [Bool.or_eq_true,decide_eq_true_eq];omega
theorem Aw (k:Nat) (E:List Ent):(ig k E).Pairwise (fun a b=>leE a b=true):=by
 rw [List.pairwise_iff_getElem];intro i j hi hj _;have h1:=(List.mem_filter.1 (List.getElem_mem hi)).2;have h2:=(List.mem_filter.1 (List.getElem_mem hj)).2;simp only [decide_eq_true_eq] at h1 h2;unfold leE;rw [h1,h2];simp
theorem jy (E:List Ent):(srt E).Perm E:=List.mergeSort_perm _ _
theorem CP (E:List Ent):(srt E).Pairwise (fun a b=>a.1<=b.1):=by
 have h:=List.pairwise_mergeSort (le:=leE) xG xE E;exact h.imp (fun h=>by unfold leE at h;simpa using h)
theorem J6 (k:Nat) (E:List Ent):ig k (srt E)=ig k E:=by
 have h1:(ig k E).Sublist (srt E):=List.sublist_mergeSort (le:=leE) xG xE (Aw k E) List.filter_sublist;have h2:(ig k (ig k E)).Sublist (ig k (srt E)):=h1.filter _;have h3:ig k (ig k E)=ig k E:=by unfold ig;rw [List.filter_filter];simp
 rw [h3] at h2;exact (h2.eq_of_length ((jy E).filter _).length_eq.symm).symm
theorem Ja (k:Nat) (E:List Ent):srt (ig k E)=ig k E:=List.mergeSort_of_pairwise (Aw k E)
theorem xg {k n x:Nat} {S:List It} (hx:x=bJ n k) (hk:k<16777216):item.find x (eG k S)=item.find x S:=by
 unfold eG;refine item.rH (fun p _ hp=> ?_);rw [hp,hx];unfold bJ;simp only [decide_eq_true_eq];omega
theorem wS {v:Int} {F:List schema.Form} {s:Sp} {n k:Nat} {S:List It} {E:List Ent} (hk:k<16777216):fU v F s n (eG k S) (ig k E)=ig k (fU v F s n S E):=by
 unfold fU ig;rw [List.filter_map];refine List.map_congr_left (fun e he=> ?_);have h1:e.1=k:=by simpa using (List.mem_filter.1 he).2
 unfold backI;rw [xg (by rw [h1]) hk]
theorem uT {n k:Nat} {S:List It}:bM n (eG k S)=eG k (bM n S):=by
 unfold bM eG;rw [List.filter_filter,List.filter_filter];congr 1;funext p;rw [Bool.and_comm]
theorem yP {v:Int} {F:List schema.Form} {s:Sp} {n k:Nat} {S:List It}:regained v F s n (eG k S)=ig k (regained v F s n S):=by
 unfold regained ig;rw [uT,List.filter_map];rfl
theorem Ba {v:Int} {F:List schema.Form} {s:Sp} {n k:Nat} {S:List It} {E:List Ent} (hk:k<16777216) (h:undoneE v F s n S E=0):undoneE v F s n (eG k S) (ig k E)=0:=by
 unfold undoneE at h ⊢;by_cases h1:fP (fun e=>(backI v F s n S e).2.2) E=0
 ·rw [if_neg (by simpa using h1)] at h;have h2:fP (fun e=>(backI v F s n (eG k S) e).2.2) (ig k E)=0:=by
   rw [fK] at h1 ⊢;intro e he;have h3:=List.mem_filter.1 he;have h4:e.1=k:=by simpa using h3.2
   have:=h1 e h3.1;unfold backI at this ⊢;rw [xg (by rw [h4]) hk];exact this
  rw [if_neg (by simpa using h2)];by_cases h10:s.op=10
  ·rw [if_pos h10] at h ⊢;rw [fK] at h ⊢;intro p hp;rw [uT] at hp;exact h p (List.mem_filter.1 hp).1
  ·rw [if_neg h10]
 ·exact t81
theorem CX {v:Int} {F:List schema.Form} {s:Sp} {n k:Nat} {S:List It} {E:List Ent} (hk:k<16777216):undone v F s n (eG k S) (ig k E)=ig k (undone v F s n S E):=by
 unfold undone;by_cases h10:s.op=10
 ·rw [if_pos h10,if_pos h10,wS hk,yP,J6];have:ig k (fU v F s n S E)++ig k (regained v F s n S)=ig k (fU v F s n S E++regained v F s n S):=by unfold ig;rw [List.filter_append]
  rw [this,Ja]
 ·rw [if_neg h10,if_neg h10,wS hk]
theorem gJ {v:Int} {S:List It} {n:Nat} {F:List schema.Form} {s:Sp} {r:List Sp} {E:List Ent}:downs v S n F (s :: r) E=
  if (downs v S (n+1) (on v F s).2.1 r E).2≠0 then ([],(downs v S (n+1) (on v F s).2.1 r E).2)
  else if undoneE v F s n S (downs v S (n+1) (on v F s).2.1 r E).1≠0 then ([],undoneE v F s n S (downs v S (n+1) (on v F s).2.1 r E).1)
  else (undone v F s n S (downs v S (n+1) (on v F s).2.1 r E).1,0):=rfl
theorem wX {v:Int} {k:Nat} {S:List It} (hk:k<16777216):∀ {n:Nat} {F:List schema.Form} {L:List Sp} {E:List Ent},(downs v S n F L E).2=0->downs v (eG k S) n F L (ig k E)=(ig k (downs v S n F L E).1,0)
 | n,F,[],E,_=>rfl
 | n,F,s :: r,E,h=>by
  rw [gJ] at h;rw [gJ (S:=eG k S),gJ (S:=S)];by_cases h1:(downs v S (n+1) (on v F s).2.1 r E).2=0
  ·rw [if_neg (by simpa using h1)] at h;rw [wX hk h1,if_neg (show ¬((0:Int)≠0) by simp),if_neg (c:=(downs v S (n+1) (on v F s).2.1 r E).2≠0) (by simpa using h1)];by_cases h2:undoneE v F s n S (downs v S (n+1) (on v F s).2.1 r E).1=0
   ·rw [if_neg (by simpa using Ba hk h2),if_neg (c:=undoneE v F s n S (downs v S (n+1) (on v F s).2.1 r E).1≠0) (by simpa using h2),CX hk]
   ·rw [if_pos h2] at h;exact absurd h h2
  ·exact t81
def Sound (n:Nat) (L:List Sp) (S:List It):Prop:=∀p∈S,∀i s,told p.key=((n+i:Nat):Int)->L[i]?=some s->s.fm=aK p.key
theorem nO {v:Int} {F:List schema.Form} {s:Sp} {j:Int} {V:List Va} {lost:ByteArray} {has:Bool} (h:(backR v F s j V lost has).2.2=0):(on v F s).2.2=0/\fH F j (backR v F s j V lost has).2.1/\(s.op=10->j≠s.fm)/\fH (on v F s).2.1 j V:=by
 have h1:=vN (i:=(backR v F s j V lost has).1) (U:=(backR v F s j V lost has).2.1) (show backR v F s j V lost has=(_,_,0) from Prod.ext rfl (Prod.ext rfl h));have h0:=h1.1;have hR:fH (on v F s).2.1 j V:=by
  by_cases hR:fH (on v F s).2.1 j V
  ·exact hR
  ·exfalso;unfold backR at h
   exact t115
 refine ⟨h0,h1.2.2.1,fun h10 hj=> ?_,hR⟩;obtain ⟨_,_,hn⟩:=lg h0 h10;obtain ⟨L,hn',_⟩:=hR;rw [hj,hn] at hn';cases hn'
theorem oO {v:Int} {F:List schema.Form} {s:Sp} {n:Nat} {S:List It} {E:List Ent}:(fU v F s n S E).map (·.1)=E.map (·.1):=by unfold fU;rw [List.map_map];rfl
theorem vg {v:Int} {F:List schema.Form} {s:Sp} {n:Nat} {S:List It} (hS:S.Pairwise (fun a b=>a.key<b.key)):((regained v F s n S).map (·.1)).Nodup:=by
 unfold regained;rw [List.map_map];unfold List.Nodup;rw [List.pairwise_map];have h:=hS.filter (fun p=>decide (told p.key=n));refine (List.Pairwise.and_mem.1 h).imp (fun {a b} ⟨ha,hb,hlt⟩=> ?_);have h1:told a.key=n:=by simpa using (List.mem_filter.1 ha).2
 have h2:told b.key=n:=by simpa using (List.mem_filter.1 hb).2
 unfold told at h1 h2;show a.key % 16777216≠b.key % 16777216
 omega
theorem mG {v:Int} {F:List schema.Form} {s:Sp} {n:Nat} {S:List It} {E:List Ent} (hS:S.Pairwise (fun a b=>a.key<b.key)) (hE:(E.map (·.1)).Nodup) (h0:undoneE v F s n S E=0) (hs:∀p∈S,told p.key=(n:Int)->s.fm=aK p.key) (hlt:∀e∈E,e.1<16777216):
  ((undone v F s n S E).map (·.1)).Nodup/\∀e∈undone v F s n S E,e.1<16777216:=by
 unfold undone;have hlb:∀e∈fU v F s n S E,e.1<16777216:=by
  intro e he;obtain ⟨x,hx,rfl⟩:=List.mem_map.1 he;exact hlt x hx
 by_cases h10:s.op=10
 ·rw [if_pos h10];have hlr:∀e∈regained v F s n S,e.1<16777216:=by
   intro e he;obtain ⟨x,hx,rfl⟩:=List.mem_map.1 he;exact Nat.mod_lt _ de_
  refine ⟨?_,fun e he=> ?_⟩
  ·refine (((jy _).map _).nodup_iff).2 ?_;rw [List.map_append,List.nodup_append];refine ⟨by rw [oO];exact hE,vg hS,fun a ha b hb hab=> ?_⟩;subst hab;rw [oO] at ha;obtain ⟨e,he,rfl⟩:=List.mem_map.1 ha;obtain ⟨r,hr,hre⟩:=List.mem_map.1 hb;obtain ⟨p,hp,rfl⟩:=List.mem_map.1 hr;have hp2:=List.mem_filter.1 hp;simp only [decide_eq_true_eq] at hp2;have hf:=hs p hp2.1 hp2.2;unfold undoneE at h0;by_cases h1:fP (fun e=>(backI v F s n S e).2.2) E=0
   ·have h2:=nO (fK.1 h1 e he);have hne:=h2.2.2.1 h10;rw [hf] at hne;simp only at hre;apply hne;unfold aK;rw [<-hre];omega
   ·rw [if_pos h1] at h0;exact absurd h0 h1
  ·rcases List.mem_append.1 ((jy _).mem_iff.1 he) with h | h
   ·exact hlb e h
   ·exact hlr e h
 ·rw [if_neg h10];exact ⟨by rw [oO];exact hE,hlb⟩
theorem rG {v:Int} {S:List It} (hS:S.Pairwise (fun a b=>a.key<b.key)):∀ {n:Nat} {F:List schema.Form} {L:List Sp} {E:List Ent},Sound n L S->(E.map (·.1)).Nodup->(∀e∈E,e.1<16777216)->(downs v S n F L E).2=0->
  ((downs v S n F L E).1.map (·.1)).Nodup/\∀e∈(downs v S n F L E).1,e.1<16777216
 | n,F,[],E,_,hE,hl,_=>⟨hE,hl⟩
 | n,F,s :: r,E,hs,hE,hl,h=>by
  unfold downs at h ⊢;by_cases h1:(downs v S (n+1) (on v F s).2.1 r E).2=0
  ·rw [if_neg (by simpa using h1)] at h ⊢;obtain ⟨i1,i2⟩:=rG hS (fun p hp i t ht hi=>hs p hp (i+1) t (by rw [ht];omega) (by simpa using hi)) hE hl h1;by_cases h2:undoneE v F s n S (downs v S (n+1) (on v F s).2.1 r E).1=0
   ·rw [if_neg (by simpa using h2)];exact mG hS i1 h2 (fun p hp ht=>hs p hp 0 s (by simpa using ht) rfl) i2
   ·rw [if_pos h2] at h;exact absurd h h2
  ·exact t81
theorem xH (k:Nat) (I:List It):bK (eG k I)=eG k (bK I):=by
 unfold bK eG;rw [List.filter_filter,List.filter_filter];congr 1;funext p;rw [Bool.and_comm]
theorem xO (k:Nat) (I:List It):sides (eG k I)=eG k (sides I):=by
 unfold sides eG;rw [List.filter_filter,List.filter_filter];congr 1;funext p;rw [Bool.and_comm]
theorem IB {k:Nat} {G:List schema.Form} {I:List It}:(eG k (bK I)).map (ent G)=ig k ((bK I).map (ent G)):=by
 unfold ig eG;rw [List.filter_map];congr 1;refine List.filter_congr (fun p hp=> ?_);have h1:=(List.mem_filter.1 hp).2;simp only [decide_eq_true_eq] at h1;simp only [Function.comp,ent];exact decide_eq_decide.2 (by rw [Nat.mod_eq_of_lt h1])
theorem EM {k:Nat} {I:List It} (h:item.Right I):item.Right (eG k I):=by
 rw [item.iO] at h ⊢;exact ⟨fun p hp=>h.1 p (List.mem_filter.1 hp).1,h.2.filter _⟩
theorem AV {L:List Sp} {S:List It} (h:∀p∈S,Removed L p.key):Sound 0 L S:=by
 intro p hp i s ht hi;obtain ⟨_,t,h2,h3,_⟩:=h p hp;rw [ht] at h2;simp only [Nat.zero_add,Int.toNat_natCast] at h2;rw [hi] at h2;cases h2
 exact h3
theorem each {v:Int} {F:List schema.Form} {L:List Sp} {I:List It} {k:Nat} (hk:k<16777216) (h:(aV v F L I).2=0):
  (aV v F L (eG k I)).2=0/\(aV v F L (eG k I)).1.length<=1/\(∀p∈(aV v F L (eG k I)).1,p.key=k)/\item.find k (aV v F L (eG k I)).1=item.find k (aV v F L I).1:=by
 unfold aV at h;by_cases h1:cZ v F L I.length=0
 ·rw [if_neg (by simpa using h1)] at h;by_cases h2:Fits v (after v F L) I/\∀p∈sides I,Removed L p.key
  ·rw [if_neg (by simpa using h2)] at h;by_cases h3:(downs v (sides I) 0 F L ((bK I).map (ent (after v F L)))).2=0
   ·have b1:cZ v F L (eG k I).length=0:=by
     have hle:(eG k I).length<=I.length:=List.length_filter_le ..;unfold cZ at h1 ⊢;by_cases c1:Right v F
     ·rw [if_neg (by simpa using c1)] at h1 ⊢;by_cases c2:errs v F L=0
      ·rw [if_neg (by simpa using c2)] at h1 ⊢;by_cases c3:I.length*L.length>20000
       ·rw [if_pos c3] at h1;simp at h1
       ·have:=Nat.mul_le_mul_right L.length hle;rw [if_neg om_]
      ·rw [if_pos c2] at h1;exact absurd h1 om_
     ·rw [if_pos c1] at h1;simp at h1
    have b2:Fits v (after v F L) (eG k I)/\∀p∈sides (eG k I),Removed L p.key:=by
     refine ⟨⟨h2.1.1,EM h2.1.2.1,fun p hp=>h2.1.2.2 p ?_⟩,fun p hp=>h2.2 p ?_⟩
     ·rw [xH] at hp;exact (List.mem_filter.1 hp).1
     ·rw [xO] at hp;exact (List.mem_filter.1 hp).1
    have e1:aV v F L I=((downs v (sides I) 0 F L ((bK I).map (ent (after v F L)))).1.map (laid F),0):=by
     unfold aV;rw [if_neg (by simpa using h1),if_neg (by simpa using h2),if_neg (by simpa using h3)]
    have e2:aV v F L (eG k I)=((ig k (downs v (sides I) 0 F L ((bK I).map (ent (after v F L)))).1).map (laid F),0):=by
     unfold aV;rw [if_neg (by simpa using b1),if_neg (by simpa using b2),xH,xO,IB,wX hk h3];simp
    have hS:(sides I).Pairwise (fun a b=>a.key<b.key):=((item.iO I).1 h2.1.2.1).2.filter _
    have hM:(((bK I).map (ent (after v F L))).map (·.1)).Nodup:=by
     rw [List.map_map];unfold List.Nodup;rw [List.pairwise_map];refine (((item.iO I).1 h2.1.2.1).2.filter _).imp (fun {a b} hab=> ?_);simp only [Function.comp,ent];omega
    have hl:∀e∈(bK I).map (ent (after v F L)),e.1<16777216:=by
     intro e he;obtain ⟨p,hp,rfl⟩:=List.mem_map.1 he;simpa [ent] using (List.mem_filter.1 hp).2
    obtain ⟨n1,_⟩:=rG hS (AV h2.2) hM hl h3
    rw [e1,e2]
    generalize (downs v (sides I) 0 F L ((bK I).map (ent (after v F L)))).1=R at n1 ⊢
    refine ⟨rfl, ?_, ?_, ?_⟩
    ·rw [List.length_map]
     unfold ig
     have h5:(R.filter (fun e=>decide (e.1=k))).length<=((R.map (·.1)).filter (fun x=>decide (x=k))).length:=by rw [List.filter_map,List.length_map];exact Nat.le_refl _
     have h6:((R.map (·.1)).filter (fun x=>decide (x=k))).length<=1:=by
      have h7:(R.map (·.1)).filter (fun x=>decide (x=k))=(R.map (·.1)).filter (fun x=>x == k):=List.filter_congr (fun x _=>by by_cases h:x=k <;> simp [h]);rw [h7,<-List.countP_eq_length_filter];exact List.nodup_iff_count.1 n1 k
     exact Nat.le_trans h5 h6
    ·intro p hp
     obtain ⟨e,he,rfl⟩:=List.mem_map.1 hp
     simpa [laid] using (List.mem_filter.1 he).2
    ·have h8:(ig k R).map (laid F)=(R.map (laid F)).filter (fun p=>decide (p.key=k)):=by unfold ig;rw [List.filter_map];rfl
     simp only
     rw [h8]
     exact item.rH (fun p _ hp=>by simpa using hp)
   ·rw [if_pos h3] at h;exact absurd h h3
  ·rw [if_pos h2] at h;simp at h
 ·exact t81
theorem E8 {v:Int} {F:List schema.Form} {L:List Sp} {I:List It} (h:(aV v F L I).2≠0):(aV v F L I).1=[]:=by
 unfold aV at h ⊢;split
 ·rfl
 ·rename_i h1;rw [if_neg h1] at h;split
  ·rfl
  ·rename_i h2;rw [if_neg h2] at h;split
   ·rfl
   ·rename_i h3;rw [if_neg h3] at h;simp at h
end whole
namespace whole
open Go.RowKit schema step typing turn
open field (Va bytesOf dO)
open item (It bK sides)
open record (dN nK Has)
def pG (F:List schema.Form) (E:List Ent):Prop:=∀e∈E,e.1<16777216/\fH F (aK e.1) e.2
theorem qO {v:Int} {F:List schema.Form} (h:Right v F) {x:Int} {V:List Va} (hx:fH F x V):0<=x/\x<=200/\V.length<=8:=by
 obtain ⟨L,hn,hh⟩:=hx;have hm:=bH hn;have hf:=h.2.2.1 _ hm.1;have hV:∀(L:List field.Fd) (V:List Va),record.aY L V->V.length=L.length:=by
  intro L;induction L with
  | nil=>intro V h;cases V with | nil=>rfl | cons a b=>exact h.elim
  | cons a b ih=>intro V h;cases V with | nil=>exact h.elim | cons c d=>simp [ih d h.2]
 refine ⟨hf.1.1,hf.1.2, ?_⟩;rw [hV L V hh.2.2];exact hf.2.1.2
theorem AY {F:List schema.Form} {x:Int} {xs:List Nat} (hx:∀y∈xs,y<256) (h:(dN x (fieldsOf F x) xs).2.2=0):fH F x (dN x (fieldsOf F x) xs).2.1:=by
 obtain ⟨h1,_⟩:=nK hx (yS h);cases hn:named F x with
 | none=>
  exfalso;have:=h1.1.2.1.1;unfold fieldsOf at this;rw [hn] at this;simp at this
 | some p=>
  obtain ⟨p1,p2⟩:=p;obtain rfl:p1=x:=(bH hn).2;have hf:fieldsOf F p1=p2:=by unfold fieldsOf;rw [hn]
  rw [hf] at h1 ⊢;exact ⟨p2,hn,h1⟩
theorem FU {v:Int} {F:List schema.Form} {I:List It} (h:Fits v F I):pG F ((bK I).map (ent F)):=by
 intro e he;obtain ⟨p,hp,rfl⟩:=List.mem_map.1 he;exact ⟨by simpa [ent] using (List.mem_filter.1 hp).2,AY (dO _) (h.2.2 p hp)⟩
theorem Ed {v:Int} {F:List schema.Form} {I:List It} (h:Fits v F I):(((bK I).map (ent F)).map (·.1)).Nodup:=by
 rw [List.map_map];unfold List.Nodup;rw [List.pairwise_map];refine (((item.iO I).1 h.2.1).2.filter _).imp (fun {a b} hab=> ?_);simp only [Function.comp,ent];omega
theorem ve {v:Int} {F:List schema.Form} {s:Sp} {lost:ByteArray} (h0:(on v F s).2.2=0) (h10:s.op=10) (h:(bC v F s lost).2.2=0):bC v F s lost=(s.fm,(bC v F s lost).2.1,0)/\fH F s.fm (bC v F s lost).2.1:=by
 have e:(dN s.fm (fieldsOf F s.fm) (bytesOf lost)).2.2=0:=by
  by_cases hk:(dN s.fm (fieldsOf F s.fm) (bytesOf lost)).2.2=0
  ·exact hk
  ·unfold bC at h;rw [if_neg (by simpa using h0),if_neg (by simpa using h10),if_pos hk] at h;simp at h
 have e2:bC v F s lost=dN s.fm (fieldsOf F s.fm) (bytesOf lost):=by
  unfold bC;rw [if_neg (by simpa using h0),if_neg (by simpa using h10),if_neg (by simpa using e)]
 rw [e2];exact ⟨yS e,AY (dO _) e⟩
theorem JI {v:Int} {F:List schema.Form} {s:Sp} {j:Int} {V:List Va} {lost:ByteArray} {has:Bool} (h:(backR v F s j V lost has).2.2=0):backR v F s j V lost has=(j,(backR v F s j V lost has).2.1,0):=by
 have h1:=vN (i:=(backR v F s j V lost has).1) (U:=(backR v F s j V lost has).2.1) (show backR v F s j V lost has=(_,_,0) from Prod.ext rfl (Prod.ext rfl h));exact Prod.ext h1.2.1 (Prod.ext rfl h)
theorem wI {v:Int} {F:List schema.Form} {s:Sp} {n:Nat} {S:List It} {E:List Ent} (h:undoneE v F s n S E=0):(∀e∈E,(backI v F s n S e).2.2=0)/\(s.op=10->∀p∈bM n S,(bC v F s p.data).2.2=0):=by
 unfold undoneE at h;by_cases h1:fP (fun e=>(backI v F s n S e).2.2) E=0
 ·rw [if_neg (by simpa using h1)] at h;refine ⟨fK.1 h1,fun h10=> ?_⟩;rw [if_pos h10] at h;exact fK.1 h
 ·exact t81
theorem Ff {v:Int} {F:List schema.Form} {s:Sp} {n:Nat} {S:List It} {E:List Ent} (h0:(on v F s).2.2=0) (hE:∀e∈E,e.1<16777216) (hs:∀p∈S,told p.key=(n:Int)->s.fm=aK p.key) (h:undoneE v F s n S E=0):pG F (undone v F s n S E):=by
 obtain ⟨h1,h2⟩:=wI h;have hB:pG F (fU v F s n S E):=by
  intro e he;obtain ⟨x,hx,rfl⟩:=List.mem_map.1 he;exact ⟨hE x hx,(nO (h1 x hx)).2.1⟩
 unfold undone;by_cases h10:s.op=10
 ·rw [if_pos h10];intro e he;rcases List.mem_append.1 ((jy _).mem_iff.1 he) with he | he
  ·exact hB e he
  ·obtain ⟨p,hp,rfl⟩:=List.mem_map.1 he;have hp2:=List.mem_filter.1 hp;have hf:=hs p hp2.1 (by simpa using hp2.2);have hk:=(ve h0 h10 (h2 h10 p hp)).2;refine ⟨Nat.mod_lt _ de_, ?_⟩;have e2:aK (p.key % 16777216)=aK p.key:=by unfold aK;rw [Nat.mod_mod]
   simp only;rw [e2,<-hf];exact hk
 ·rw [if_neg h10];exact hB
theorem KD {M L:List Ent} (hp:M.Perm L) (hs:M.Pairwise (fun a b=>a.1<=b.1)) (hn:(L.map (·.1)).Nodup):M=srt L:=by
 refine List.Perm.eq_of_pairwise (le:=fun a b:Ent=>a.1<=b.1) (fun a b ha hb h1 h2=> ?_) hs (CP L) (hp.trans (jy L).symm);have hk:a.1=b.1:=Nat.le_antisymm h1 h2;have ha':=hp.mem_iff.1 ha;have hb':=(jy L).mem_iff.1 hb;obtain ⟨i,hi,rfl⟩:=List.mem_iff_getElem.1 ha';obtain ⟨j,hj,rfl⟩:=List.mem_iff_getElem.1 hb';by_cases hij:i=j
 ·subst hij;rfl
 ·exfalso;have hnn:=List.pairwise_iff_getElem.1 hn;rcases Nat.lt_or_gt_of_ne hij with h | h
  ·exact hnn i j (by simpa using hi) (by simpa using hj) h (by simpa using hk)
  ·exact hnn j i (by simpa using hj) (by simpa using hi) h (by simpa using hk.symm)
end whole
theorem t63{P:Prop}(h:P:=by
 go_wp2_with (go_at_call 25;((with_reducible refine (cC _).mono ?_);rintro e w1 ⟨rfl,rfl⟩));go_ret;exact ⟨rfl,0,_,by rw [alloc_eq_grow,alloc_eq_grow,grow_grow];rfl⟩):P:=h
namespace whole
open Go Go.RowKit Go.Sort Go.Shelf Go.Lib
open item (It itC)
instance:Inhabited En:=⟨⟨0,none,0,[]⟩⟩
def cfI (a b:It):Int:=gG (a.key:Int) (b.key:Int)
def cfE (a b:En):Int:=gG (a.key:Int) (b.key:Int)
theorem zl {x y:Int}:gG x y<0↔x<y:=by
 unfold gG;split
 ·omega
 ·split <;> omega
theorem ltI (a b:It):ltOf cfI a b=decide (a.key<b.key):=by unfold ltOf cfI;exact decide_eq_decide.2 (zl.trans om_)
theorem ltE (a b:En):ltOf cfE a b=decide (a.key<b.key):=by unfold ltOf cfE;exact decide_eq_decide.2 (zl.trans om_)
theorem LG:SWO (ltOf cfI) where
 irrefl x:=by rw [ltI];simp
 trans x y z h1 h2:=by rw [ltI] at *;simp at *;omega
 ntrans x y z h1 h2:=by rw [ltI] at *;simp at *;omega
theorem LD:SWO (ltOf cfE) where
 irrefl x:=by rw [ltE];simp
 trans x y z h1 h2:=by rw [ltE] at *;simp at *;omega
 ntrans x y z h1 h2:=by rw [ltE] at *;simp at *;omega
theorem JL (x y:It) (W:World):Calls prog 24 #[.agg (itC x).toArray,.agg (itC y).toArray] W fun e w'=>e=.returned (.int .i64 (cfI x y))/\∃q os',w'=grow (W.drewN q) os':=by
 have cC:=fun w'=>jm x.key y.key w'
 unfold Still at cC;show Calls prog 24 #[.agg #[.int .u32 (x.key:Nat),.string x.data],.agg #[.int .u32 (y.key:Nat),.string y.data]] W _
 obtain ⟨v,hv⟩:∃v:Int,Hid (cfI x y=v):=⟨_,rfl⟩;rw [hv.o];simp only [show gG (x.key:Int) (y.key:Int)=v from hv.o] at cC;go_enter func24,ntmps24
 exact t63
theorem JK (x y:En) (W:World):Calls prog 79 #[.agg (enC x).toArray,.agg (enC y).toArray] W fun e w'=>e=.returned (.int .i64 (cfE x y))/\∃q os',w'=grow (W.drewN q) os':=by
 have cC:=fun w'=>jm x.key y.key w'
 unfold Still at cC;show Calls prog 79 #[.agg #[.int .u32 (x.key:Nat),.int .i64 (aK x.key),.slice x.a x.V.length x.c],.agg #[.int .u32 (y.key:Nat),.int .i64 (aK y.key),.slice y.a y.V.length y.c]] W _
 obtain ⟨v,hv⟩:∃v:Int,Hid (cfE x y=v):=⟨_,rfl⟩;rw [hv.o];simp only [show gG (x.key:Int) (y.key:Int)=v from hv.o] at cC;generalize aK x.key=fx at *;generalize aK y.key=fy at *;go_enter func79,ntmps79
 exact t63
def FC (w0:World) (L:List It) (v:Value) (e:Ending) (w':World):Prop:=e=.returned (.tuple #[])/\∃M:List It,M.Perm L/\M.Pairwise (fun a b=>a.key<=b.key)/\IRow w0 M v w'
def FB (R:World->En->Prop) (w0:World) (L:List En) (v:Value) (e:Ending) (w':World):Prop:=e=.returned (.tuple #[])/\∃M:List En,M.Perm L/\M.Pairwise (fun a b=>a.key<=b.key)/\Gath 68 3 enC R w0 M v w'
theorem EX {w0 w:World} {L:List It} {v:Value} (h:IRow w0 L v w) (hn:L.length<=1000000):Calls prog 23 #[v,.func (.func 24) #[] #[]] w (FC w0 L v):=by
 have k:=AU (P:=prog) (ρ:=sortItems_ren) sortItems isAgg43 Tryz.sizeOf43 iV item.sV cfI LG 24 (enters_of func24 kr_ rfl) JL v h hn;refine Calls.mono (P:=prog) (f:=23) k ?_;rintro e w' ⟨he,M,h1,h2,h3⟩;exact ⟨he,M,h1,h2.imp (fun {a b} q=>by rw [ltI] at q;simpa using q),h3⟩
theorem EW {R:World->En->Prop} {w0 w:World} {L:List En} {v:Value} (h:Gath 68 3 enC R w0 L v w) (hn:L.length<=1000000):Calls prog 78 #[v,.func (.func 79) #[] #[]] w (FB R w0 L v):=by
 have k:=AU (P:=prog) (ρ:=sortEntries_ren) sortEntries isAgg68 Tryz.sizeOf68 jD D8 cfE LD 79 (enters_of func79 kr_ rfl) JK v h hn;refine Calls.mono (P:=prog) (f:=78) k ?_;rintro e w' ⟨he,M,h1,h2,h3⟩;exact ⟨he,M,h1,h2.imp (fun {a b} q=>by rw [ltE] at q;simpa using q),h3⟩
end whole
theorem t14{P:Prop}(h:P:=by
 go_enter func121,ntmps121;go_wp2_with (first
  | (go_at_call 98;((with_reducible refine cT.mono ?_);rintro e w4 ⟨rfl,hb4⟩;have hb5:=HBB.o.trans (hb4.mono HBB.o.size);have hN:=ak w4 (.cells #[.int .i64 tn,.string (strOf ts)] 54);obtain ⟨-,k1,hbw⟩:=HW.o _ (hb5.trans (hN.mono hb5.size));have r0:=k1.cell 0;have r1:=k1.cell 1;have g0:=k1.frozen 0;have g1:=k1.frozen 1;have hne:w4.heap.size≠w.heap.size+1:=(by have:=hb5.size;simp at this;omega);have hne2:=hne.symm;clear hb4 hb5 hN)))
 have hB:=(k1.setCell 0 (.int .i64 0)).setCell 1 (.string ⟨#[]⟩);refine bodyPost_ret (ay (b:=w.heap.size+1) (o:=0) rfl rfl hB.whole underlying54 rfl (dV _ _)) rfl ?_;exact ⟨rfl,below_setCells (below_setCells hbw om_ 0 [.int .i64 0]) om_ 1 [.string ⟨#[]⟩]⟩):P:=h
namespace turn
open Go Go.RowKit schema
open field (Va Fd Gives ak aj take_any iD gZ bytesOf bytesOf_length dO W2 two jL fA dV val_one jg)
open step (Sp Lists va0 fd0 Ins)
theorem I4 (x a:Int):(x.tdiv a).natAbs<=x.natAbs:=by rw [Int.natAbs_tdiv];exact Nat.div_le_self _ _
theorem wV {w:World} {g b o q:Nat} {vs:List Value} (h:b≠g):(w.setCells g o vs).cell? ⟨b,q,none⟩=w.cell? ⟨b,q,none⟩:=by
 unfold World.cell?;rw [show (w.setCells g o vs).heap[b]?=w.heap[b]? from dU g vs o w b h]
theorem FV {o:Oper} {a:Act} {w:World} {x y:Operand} {t:TypeId} {n m:Int} (ho:o.op=.binOp .rem 3 x y t) (hm:m≠0) (hx:a.eval x=.int .i64 n:=by kernel_rfl) (hy:a.eval y=.int .i64 m:=by kernel_rfl):(execOp a.eval o).run prog w=.ok (.value (.int .i64 (n.tmod m))) w:=by
 exact t37
theorem zA {o:Oper} {a:Act} {w:World} {x y:Operand} {t:TypeId} {n m:Int} (ho:o.op=.binOp .eql 3 x y t) (hm:(n == m)=false) (hx:a.eval x=.int .i64 n:=by kernel_rfl) (hy:a.eval y=.int .i64 m:=by kernel_rfl):(execOp a.eval o).run prog w=.ok (.value (.bool false)) w:=by
 exact t37
theorem IL (n x:Int) (b:Nat) (w:World) (hc:w.cell? ⟨b,0,none⟩=some (.int .i64 x)):Calls prog 211 #[.int .i64 n,.pointer (some ⟨b,0,none⟩)] w (Gives (.bool (n == x)) w):=by
 obtain ⟨r,hr⟩:∃r:Bool,Hid ((n == x)=r):=⟨_,rfl⟩;rw [hr.o];unfold Gives;go_enter func211,ntmps211;go_wp2;go_ret;exact ⟨dA hr.o,Below.refl _ _⟩
theorem BN (a:Option Addr) (cap:Nat) (L:List Int) (x:Int) (g:Nat) (w:World) (h:Ins w a L) (hL:L.length<=maxLen) (hc:w.cell? ⟨g,0,none⟩=some (.int .i64 x)) (hg:g<w.heap.size):
  Calls prog 210 #[.slice a L.length cap,.func (.func 211) #[] #[.pointer (some ⟨g,0,none⟩)]] w (Gives (.int .i64 (au L x)) w):=by
 have hml:(L.length:Int)<=9223372036854775807:=by unfold maxLen at hL;omega
 have HF:=hid h;have HC:=hid hc;obtain ⟨r,hr⟩:∃r:Int,Hid (au L x=r):=⟨_,rfl⟩;rw [hr.o];unfold Gives;clear h hL hc;go_enter func210,ntmps210;go_wp2;go_loopw [8] (fun n wr=>∃k:Nat,k<=L.length/\n=.int .i64 (k:Int)/\Hid (x∉L.take k)/\Hid (Below w.heap.size w wr)) (fun n _=>L.length - (intOf n).toNat);case atStart=>exact ⟨0,Nat.zero_le _,rfl,hid si_,hid (Below.refl _ _)⟩
 case round=>
  obtain ⟨k,hk,rfl,HNO,HB⟩:=hrel;by_cases hlt:k<L.length
  ·obtain ⟨b,off,p,rfl,hbl,hp,c0⟩:=(HF.o.below HB.o).at hlt;have i1:(k:Int)<L.length:=by omega
   have HHIT:=hid (fun e=>nS HNO.o (hp.trans (congrArg some e)));have HNX:=hid (fun e=>kX HNO.o hp e);have cs:=IL p x g wr (by rw [HB.o.cell (p:=⟨g,0,none⟩) hg];exact HC.o);clear hp;by_cases hx:p=x
   ·rw [show (p == x)=true from beq_iff_eq.2 hx] at cs;obtain rfl:(k:Int)=r:=by rw [<-hr.o];exact (HHIT.o hx).symm
    clear hx;go_wp2_with (go_at_call 211;((with_reducible refine cs.mono ?_);rintro e w2 ⟨rfl,hb2⟩))
    exact t74
   ·rw [show (p == x)=false from beq_eq_false_iff_ne.2 hx] at cs;have HX:=hid hx;clear hx;go_wp2_with (go_at_call 211;((with_reducible refine cs.mono ?_);rintro e w2 ⟨rfl,hb2⟩))
    exact t52
  ·obtain rfl:k=L.length:=by omega
   obtain rfl: -1=r:=by rw [<-hr.o];have:=HNO.o;rw [List.take_of_length_le (Nat.le_refl _)] at this;exact (lS this).symm
   go_wp2;go_ret;exact ⟨rfl,HB.o⟩
theorem pz (r:Sp) (ta:Option Addr) (tc:Nat) (la:Option Addr) (lc:Nat) (X:List (TypeId×List Value)) (w:World):
  ∃W,Hid (boxes w ((57,zP r ta tc la lc) :: X)=W)/\Below w.heap.size w W/\Hid (∀w',Below W.heap.size W w'->Boxed w' w.heap.size ((57,zP r ta tc la lc) :: X)/\Below w.heap.size w w'):=by
 obtain ⟨W,h1,h2,_,h3⟩:=aS w ((57,zP r ta tc la lc) :: X);exact ⟨W,h1,h2,h3⟩
set_option maxRecDepth 20000 in
theorem yT (r:Sp) (ta:Option Addr) (tc:Nat) (la:Option Addr) (lc:Nat) (n:Int) (w:World) (hl:Lists w r ta la):
  Calls prog 172 #[zP r ta tc la lc,.int .i64 n] w (Gives (.tuple #[.agg #[.int .i64 (au r.t n),.string ⟨#[]⟩],.bool (decide (0<=au r.t n))]) w):=by
 obtain ⟨W3,hW3,hbw,hBX⟩:=pz r ta tc la lc [(3,[.int .i64 n]),(54,[.int .i64 0,.string ⟨#[]⟩])] w;simp only [boxes] at hW3;obtain ⟨⟨k0,k1,k2,_⟩,_⟩:=hBX.o W3 (Below.refl _ _);have cI:=BN ta tc r.t n (w.heap.size+1) W3 (hl.t.below hbw) hl.mt (k1.cell 0) k1.lt;have s14:=k0.cell 14;rw [<-hW3.o] at cI s14;obtain ⟨q,hq⟩:∃q,Hid (au r.t n=q):=⟨_,rfl⟩;obtain ⟨u,hu⟩:∃u:Bool,Hid (decide (0<=q)=u):=⟨_,rfl⟩;have hu2:decide (q≥0)=u:=hu.o;rw [hq.o] at cI ⊢;rw [hu.o];unfold Gives at cI ⊢;clear hl k0 k1 k2 hbw hq hu;go_enter func172,ntmps172;go_wp2_with (first
  | (go_at_call 210;((with_reducible refine cI.mono ?_);rintro e w4 ⟨rfl,hb4⟩;rw [hW3.o] at hb4;obtain ⟨⟨k0,k1,k2,_⟩,hbw4⟩:=hBX.o w4 hb4;have e0:=k2.cell 0;have e1:=k2.cell 1;have g0:=k2.frozen 0;have g1:=k2.frozen 1;have K2:=hid k2;have HB4:=hid hbw4;clear k0 k1 k2 hb4 hbw4)))
 have hB:=(K2.o.setCell 0 (.int .i64 q)).setCell 1 (.string ⟨#[]⟩);refine bodyPost_ret (ay (b:=w.heap.size+1+1) (o:=0) rfl rfl hB.whole underlying54 rfl (dV _ _)) rfl ?_;exact ⟨rfl,below_setCells (below_setCells HB4.o om_ 0 [.int .i64 q]) om_ 1 [.string ⟨#[]⟩]⟩
set_option maxRecDepth 20000 in
theorem BQ (r:Sp) (ta:Option Addr) (tc:Nat) (la:Option Addr) (lc:Nat) (n m:Int) (w:World) (h1: -4611686018427387904<=r.a*n/\r.a*n<=4611686018427387904) (h2: -1099511627776<=m/\m<=1099511627776):
  Calls prog 173 #[zP r ta tc la lc,.int .i64 n,.int .i64 m] w (Gives (.tuple #[.agg #[.int .i64 (r.a*n+m),.string ⟨#[]⟩],.bool (decide (r.f.Has (vn (r.a*n+m))))]) w):=by
 obtain ⟨W3,hW3,hbw,hBX⟩:=pz r ta tc la lc [(54,[.int .i64 0,.string ⟨#[]⟩]),(54,[.int .i64 (r.a*n+m),.string ⟨#[]⟩])] w;simp only [boxes] at hW3;have w1:IntKind.i64.wrap (r.a*n)=r.a*n:=IntWalk.i64_in _ om_;have w2:IntKind.i64.wrap (r.a*n+m)=r.a*n+m:=IntWalk.i64_in _ om_;obtain ⟨u,hu⟩:∃u:Bool,Hid (decide (r.f.Has (vn (r.a*n+m)))=u):=⟨_,rfl⟩;have cH:∀W,Calls prog 170 #[zF r.f,.agg #[.int .i64 (r.a*n+m),.string ⟨#[]⟩]] W (Gives (.bool u) W):=fun W=>by have q:=gZ r.f (vn (r.a*n+m)) W;rw [hu.o] at q;exact q
 rw [hu.o];unfold Gives at cH ⊢;clear h1 h2 hu;have hbd:=aJ (Below.refl W3.heap.size W3);obtain ⟨⟨k0,k1,k2,_⟩,_⟩:=hBX.o W3.drew hbd;have x0:=k2.cell 0;have x1:=k2.cell 1;have s7:=k0.cell 7;have s8:=k0.cell 8;have s9:=k0.cell 9;have s10:=k0.cell 10;have s11:=k0.cell 11;have HBD:=hid hbd;clear hbd k0 k1 k2 hbw;go_enter func173,ntmps173;go_wp2;rw [hW3.o];go_region_held3 (fun w'=>w'.cell? ⟨w.heap.size+1+1,0,none⟩=some (.int .i64 (r.a*n+m))/\w'.cell? ⟨w.heap.size+1+1,1,none⟩=some (.string ⟨#[]⟩)/\w'.cell? ⟨w.heap.size,7,none⟩=some (.int .i64 r.f.id)/\w'.cell? ⟨w.heap.size,8,none⟩=some (.int .i64 r.f.kind)/\w'.cell? ⟨w.heap.size,9,none⟩=some (.int .i64 r.f.lo)/\w'.cell? ⟨w.heap.size,10,none⟩=some (.int .i64 r.f.hi)/\w'.cell? ⟨w.heap.size,11,none⟩=some (.int .i64 r.f.most)) (first | assumption | go_keep) (first
  | (go_at_call 170;(with_reducible refine (cH _).mono ?_);rintro e w4 ⟨rfl,hb4⟩;have hb5:=HBD.o.trans (hb4.mono HBD.o.size);obtain ⟨⟨k0,k1,k2,_⟩,hbw4⟩:=hBX.o w4 hb5;have x0:=k2.cell 0;have x1:=k2.cell 1;have s7:=k0.cell 7;have s8:=k0.cell 8;have s9:=k0.cell 9;have s10:=k0.cell 10;have s11:=k0.cell 11;have r0:=k1.cell 0;have r1:=k1.cell 1;have g0:=k1.frozen 0;have g1:=k1.frozen 1))
 go_wp2;have hB:=(k1.setCell 0 (.int .i64 (r.a*n+m))).setCell 1 (.string ⟨#[]⟩);refine bodyPost_ret (ay (b:=w.heap.size+1) (o:=0) rfl rfl hB.whole underlying54 rfl (dV _ _)) rfl ?_;exact ⟨rfl,below_setCells (below_setCells hbw4 om_ 0 [.int .i64 (r.a*n+m)]) om_ 1 [.string ⟨#[]⟩]⟩
set_option maxRecDepth 20000 in
theorem yU (r:Sp) (ta:Option Addr) (tc:Nat) (la:Option Addr) (lc:Nat) (n:Int) (w:World) (ha:r.a≠0) (h1: -4611686018427387904<=n - r.b/\n - r.b<=4611686018427387904):
  Calls prog 171 #[zP r ta tc la lc,.int .i64 n] w (Gives (.tuple #[.agg #[.int .i64 ((n - r.b).tdiv r.a),.string ⟨#[]⟩],.bool (decide ((n - r.b).tmod r.a=0/\r.f.Has (vn ((n - r.b).tdiv r.a))))]) w):=by
 obtain ⟨W3,hW3,hbw,hBX⟩:=pz r ta tc la lc [(54,[.int .i64 0,.string ⟨#[]⟩]),(54,[.int .i64 ((n - r.b).tdiv r.a),.string ⟨#[]⟩])] w;simp only [boxes] at hW3;have w1:IntKind.i64.wrap (n - r.b)=n - r.b:=IntWalk.i64_in _ om_;have hab:=I4 (n - r.b) r.a;have w2:IntKind.i64.wrap ((n - r.b).tdiv r.a)=(n - r.b).tdiv r.a:=IntWalk.i64_in _ om_;have w3:wrap64 ((n - r.b).tdiv r.a)=(n - r.b).tdiv r.a:=by unfold wrap64;omega
 obtain ⟨u,hu⟩:∃u:Bool,Hid (decide (r.f.Has (vn ((n - r.b).tdiv r.a)))=u):=⟨_,rfl⟩;have cH:∀W,Calls prog 170 #[zF r.f,.agg #[.int .i64 ((n - r.b).tdiv r.a),.string ⟨#[]⟩]] W (Gives (.bool u) W):=fun W=>by have q:=gZ r.f (vn ((n - r.b).tdiv r.a)) W;rw [hu.o] at q;exact q
 rw [show decide ((n - r.b).tmod r.a=0/\r.f.Has (vn ((n - r.b).tdiv r.a)))=(decide ((n - r.b).tmod r.a=0) && u) by rw [Bool.decide_and,hu.o]];unfold Gives at cH ⊢;have hbd:=aJ (Below.refl W3.heap.size W3);have HBD:=hid hbd;obtain ⟨⟨q0,_⟩,_⟩:=hBX.o W3 (Below.refl _ _);clear h1 hbw hab hu q0;by_cases hm:(n - r.b).tmod r.a=0
 ·have e1:((n - r.b).tmod r.a == 0)=true:=by simp [hm]
  rw [show (decide ((n - r.b).tmod r.a=0) && u)=u by simp [hm]];clear hm;obtain ⟨⟨k0,k1,k2,_⟩,_⟩:=hBX.o W3.drew hbd;have x0:=k2.cell 0;have x1:=k2.cell 1;have s5:=k0.cell 5;have s7:=k0.cell 7;have s8:=k0.cell 8;have s9:=k0.cell 9;have s10:=k0.cell 10;have s11:=k0.cell 11;clear hbd k0 k1 k2;go_enter func171,ntmps171;go_wp2;rw [hW3.o];go_region_held3 (fun w'=>w'.cell? ⟨w.heap.size+1+1,0,none⟩=some (.int .i64 ((n - r.b).tdiv r.a))/\w'.cell? ⟨w.heap.size+1+1,1,none⟩=some (.string ⟨#[]⟩)/\w'.cell? ⟨w.heap.size,5,none⟩=some (.int .i64 r.a)/\w'.cell? ⟨w.heap.size,7,none⟩=some (.int .i64 r.f.id)/\w'.cell? ⟨w.heap.size,8,none⟩=some (.int .i64 r.f.kind)/\w'.cell? ⟨w.heap.size,9,none⟩=some (.int .i64 r.f.lo)/\w'.cell? ⟨w.heap.size,10,none⟩=some (.int .i64 r.f.hi)/\w'.cell? ⟨w.heap.size,11,none⟩=some (.int .i64 r.f.most)) (first | assumption | go_keep) (first
   | (go_at_call 170;(with_reducible refine (cH _).mono ?_);rintro e w4 ⟨rfl,hb4⟩;have hb5:=HBD.o.trans (hb4.mono HBD.o.size);obtain ⟨⟨k0,k1,k2,_⟩,hbw4⟩:=hBX.o w4 hb5;have x0:=k2.cell 0;have x1:=k2.cell 1;have s5:=k0.cell 5;have s7:=k0.cell 7;have s8:=k0.cell 8;have s9:=k0.cell 9;have s10:=k0.cell 10;have s11:=k0.cell 11;have r0:=k1.cell 0;have r1:=k1.cell 1;have g0:=k1.frozen 0;have g1:=k1.frozen 1))
  go_wp2;have hB:=(k1.setCell 0 (.int .i64 ((n - r.b).tdiv r.a))).setCell 1 (.string ⟨#[]⟩);refine bodyPost_ret (ay (b:=w.heap.size+1) (o:=0) rfl rfl hB.whole underlying54 rfl (dV _ _)) rfl ?_;exact ⟨rfl,below_setCells (below_setCells hbw4 om_ 0 [.int .i64 ((n - r.b).tdiv r.a)]) om_ 1 [.string ⟨#[]⟩]⟩
 ·have e1:((n - r.b).tmod r.a == 0)=false:=by simp [hm]
  rw [show (decide ((n - r.b).tmod r.a=0) && u)=false by simp [hm]];clear hm cH;obtain ⟨⟨k0,k1,k2,_⟩,hbw3⟩:=hBX.o W3.drew hbd;have HBW:=hid hbw3;have K1:=hid k1;have hS:W3.drew.rangeAt (w.heap.size+1+1) 0 [.int .i64 ((n - r.b).tdiv r.a),.string ⟨#[]⟩]/\W3.drew.cell? ⟨w.heap.size,5,none⟩=some (.int .i64 r.a):=⟨k2.whole,k0.cell 5⟩;clear hbd k0 k1 k2 hbw3;go_enter func171,ntmps171;go_wp2;rw [hW3.o];refine plan.bU (S:=fun w'=>w'.rangeAt (w.heap.size+1+1) 0 [.int .i64 ((n - r.b).tdiv r.a),.string ⟨#[]⟩]/\w'.cell? ⟨w.heap.size,5,none⟩=some (.int .i64 r.a)) ?_;refine plan.af 0 _ (.agg #[.int .i64 ((n - r.b).tdiv r.a),.string ⟨#[]⟩]) rfl (fun w' hS'=>ax (cs:=[.int .i64 ((n - r.b).tdiv r.a),.string ⟨#[]⟩]) (b:=w.heap.size+1+1) (off:=0) rfl hS'.1 underlying54 rfl iE.o) hS ?_;refine plan.af 1 _ (.int .i64 (n - r.b)) rfl (fun w' hS'=>kr_) hS ?_;refine plan.af 2 _ (.pointer (some ⟨w.heap.size,5,none⟩)) rfl (fun w' hS'=>kr_) hS ?_;refine plan.af 3 _ (.int .i64 r.a) rfl (fun w' hS'=>aB (ad:=⟨w.heap.size,5,none⟩) rfl kr_ hS'.2 isAgg3) hS ?_;refine plan.af 4 _ (.int .i64 ((n - r.b).tmod r.a)) rfl (fun w' hS'=>FV rfl ha) hS ?_;refine plan.af 5 _ (.bool false) rfl (fun w' hS'=>zA rfl e1) hS ?_;refine plan.af 6 _ (.bool false) rfl (fun w' hS'=>kr_) hS ?_;refine plan.DC 7 _ rfl hS ?_;refine plan.DC 8 _ rfl hS ?_;refine plan.DC 9 _ rfl hS ?_;refine plan.DC 10 _ rfl hS ?_;refine plan.af 11 _ (.bool false) rfl (fun w' hS'=>kr_) hS ?_;obtain ⟨w4,hW4⟩:∃q,Hid (W3.drew.setCells (w.heap.size+1) 0 [.int .i64 ((n - r.b).tdiv r.a),.string ⟨#[]⟩]=q):=⟨_,hid rfl⟩;have hS4:w4.rangeAt (w.heap.size+1+1) 0 [.int .i64 ((n - r.b).tdiv r.a),.string ⟨#[]⟩]/\w4.cell? ⟨w.heap.size,5,none⟩=some (.int .i64 r.a):=by rw [<-hW4.o];exact ⟨fun i v hv=>(wV si_).trans (hS.1 i v hv),(wV si_).trans hS.2⟩
  refine plan.thenS (w1:=w4) 12 _ rfl rfl rfl (by rw [<-hW4.o];exact plan.gK (cells:=#[.int .i64 ((n - r.b).tdiv r.a),.string ⟨#[]⟩]) rfl K1.o rfl (fA _ _) (val_one _ _)) hS4 ?_;refine plan.dZ (w1:=w4) 13 _ (.bool false) rfl rfl hS4 ?_;refine plan.gI ?_;have hB:=K1.o.setCells (vs:=[.int .i64 ((n - r.b).tdiv r.a),.string ⟨#[]⟩]) (o:=0);rw [dS _ _ (by rfl),hW4.o] at hB;have hb4:Below w.heap.size w w4:=by rw [<-hW4.o];exact below_setCells HBW.o om_ 0 _
  clear hS hS4 hW4;walk_nrm;go_wp2;refine bodyPost_ret (ay (b:=w.heap.size+1) (o:=0) rfl rfl hB.whole underlying54 rfl (dV _ _)) rfl ?_;exact ⟨rfl,hb4⟩
set_option maxRecDepth 20000 in
theorem nU (f:field.Fd) (lost:ByteArray) (hs:lost.size<=maxLen) (z:Va) (E:Int) (hz:(z,E)=if (f.take (bytesOf lost)).e=0/\(f.take (bytesOf lost)).c=(bytesOf lost).length then (⟨(f.take (bytesOf lost)).n,strOf (f.take (bytesOf lost)).s⟩,0) else (va0,12)) (w:World):
  Calls prog 121 #[zF f,.string lost] w (Gives (.tuple #[zV z,.int .i64 E]) w):=by
 have HW:=hid (W2.all f w);have hcv:(convert 9 91 (.string lost)).run prog (W2 f w)=.ok (.slice (some ⟨(W2 f w).heap.size,0,none⟩) lost.size (grownCap (W2 f w) lost.size 0 5)) (Lib.bytesWorld (W2 f w) 5 lost):=Lib.run_convert_string_bytes _ _ _ _ _ underlying9 underlying91 underlying5;have hbb:Below (W2 f w).heap.size (W2 f w) (Lib.bytesWorld (W2 f w) 5 lost):=⟨rfl,rfl,rfl,by rw [Lib.bytesWorld_size];omega,fun k hk=>Lib.bytesWorld_at_old (W2 f w) _ _ k hk⟩;have hrd:Reads .u8 (Lib.bytesWorld (W2 f w) 5 lost) (some ⟨(W2 f w).heap.size,0,none⟩) lost.size (bytesOf lost):=by
  refine ⟨by rw [bytesOf_length],.inr ⟨_,_,rfl,by rw [Lib.bytesWorld_size];omega,fun i hi=> ?_⟩⟩;rw [Nat.zero_add,Lib.bytesWorld_cell _ _ _ _ hi];have hi':i<lost.data.toList.length:=by rw [Array.length_toList];exact hi
  simp [bytesOf,List.getD_eq_getElem?_getD,List.getElem?_eq_getElem hi']
 have cT:=take_any f (some ⟨(W2 f w).heap.size,0,none⟩) lost.size (grownCap (W2 f w) lost.size 0 5) (bytesOf lost) (Lib.bytesWorld (W2 f w) 5 lost) hrd (dO lost) (grownCap_ge _ _ _ _) (by have:=grownCap_le_maxLen (W2 f w) lost.size 0 5 hs;unfold maxLen at this;omega);obtain ⟨W3,hW3⟩:∃q,Hid (Lib.bytesWorld (W2 f w) 5 lost=q):=⟨_,hid rfl⟩;obtain ⟨cp,hcp⟩:∃q,Hid (grownCap (W2 f w) lost.size 0 5=q):=⟨_,hid rfl⟩;have hle:=fun e=>(field.Fd.jS (f:=f) (dO lost) e).2.1
 have hsz2:(W2 f w).heap.size=w.heap.size+1+1:=by simp [W2]
 rw [hW3.o,hcp.o,hsz2] at cT hcv;rw [hW3.o] at hbb;unfold iD at cT;generalize f.take (bytesOf lost)=T at *;rw [bytesOf_length] at hz hle;obtain ⟨tn,ts,tc,te⟩:=T;simp only at cT hz hle;unfold Gives;have HBB:=hid hbb;have HSZ:=hid hs;clear hrd hbb hsz2 hs hW3 hcp;unfold W2 at hcv HW HBB;by_cases h0:te=0
 ·subst h0;have hle2:=hle rfl;by_cases hc:tc=lost.size
  ·rw [if_pos ⟨rfl,hc⟩] at hz;cases hz
   have d1:decide ((tc:Int)<(lost.size:Int))=false:=decide_eq_false om_;have d2:decide (tc<lost.size)=false:=decide_eq_false om_;have d3:¬tc<lost.size:=by omega
   clear hle hle2 hc;go_enter func121,ntmps121;go_wp2_with (first
    | (go_at_call 98;((with_reducible refine cT.mono ?_);rintro e w4 ⟨rfl,hb4⟩;have hb5:=HBB.o.trans (hb4.mono HBB.o.size);have hN:=ak w4 (.cells #[.int .i64 tn,.string (strOf ts)] 54);obtain ⟨-,k1,hbw⟩:=HW.o _ (hb5.trans (hN.mono hb5.size));have r0:=k1.cell 0;have r1:=k1.cell 1;have g0:=k1.frozen 0;have g1:=k1.frozen 1;have hne:w4.heap.size≠w.heap.size+1:=(by have:=hb5.size;simp at this;omega);have hne2:=hne.symm;clear hb4 hb5 hN)))
   have hB:=(k1.setCell 0 (.int .i64 tn)).setCell 1 (.string (strOf ts));refine bodyPost_ret (ay (b:=w.heap.size+1) (o:=0) rfl rfl hB.whole underlying54 rfl (dV _ _)) rfl ?_;exact ⟨rfl,below_setCells (below_setCells hbw om_ 0 [.int .i64 tn]) om_ 1 [.string (strOf ts)]⟩
  ·rw [if_neg (fun q=>hc q.2)] at hz;cases hz
   have d1:decide ((tc:Int)<(lost.size:Int))=true:=decide_eq_true om_;have d2:decide (tc<lost.size)=true:=decide_eq_true om_;have d3:tc<lost.size:=by omega
   clear hle hle2 hc
   exact t14
 ·rw [if_neg (fun q=>h0 q.1)] at hz;cases hz
  have d1:(te != 0)=true:=by simpa using h0
  clear hle h0
  exact t14
end turn
namespace whole
open Go Go.RowKit schema typing turn
open field (Va ak)
open record (qp wO dJ bZ lu Has aY)
theorem Gq:Hid ((prog.info? 43).map (·.size)=some 2):=by show _=_;kernel_rfl
set_option maxRecDepth 20000 in
set_option maxHeartbeats 1600000 in
theorem Af (v:Int) (a:Option Addr) (cc:Nat) (F:List Fm) (x:En) (w:World) (h:FmL w a F) (hF:Small w F) (hx:EnR w x) (hR:fH (forms F) (aK x.key) x.V):
  Calls prog 44 #[zS v a F.length cc,.agg #[.int .u32 (x.key:Nat),.int .i64 (aK x.key),.slice x.a x.V.length x.c]] w (Gives (.agg #[.int .u32 (x.key:Nat),.string (laid (forms F) x.p).data]) w):=by
 obtain ⟨L,hn,hH⟩:=hR;have hfo:fieldsOf (forms F) (aK x.key)=L:=aZ hn;have hfi:fI (forms F) (aK x.key)=aK x.key:=by unfold fI;rw [hn]
 obtain ⟨W3,hW3,hbw,hsz,hBX⟩:=aS w [(24,zS v a F.length cc),(68,[.int .u32 (x.key:Nat),.int .i64 (aK x.key),.slice x.a x.V.length x.c]),(43,[.int .u32 0,.string ⟨#[]⟩])];simp only [boxes] at hW3;have hlen:=hH.2.2.length;have hl8:=record.pU hH.1;have cF:=zQ v a cc F (aK x.key) W3 (h.below hbw) (hF.below hbw);rw [hfo,hfi] at cF;have cL:=fun (W:World) (fa:Option Addr) (fc:Nat) (hb:Below w.heap.size w W) (hf:field.Fds W fa L)=>qp (aK x.key) fa fc L (aK x.key) x.a x.c x.V W hf (field.Vas.below hx hb) (by unfold maxLen;omega) (by unfold maxLen;omega)
 have hlb:bZ (aK x.key) L (aK x.key) x.V=dJ L x.V:=by unfold bZ;rw [if_pos hH]
 have hld:(laid (forms F) x.p).data=strOf (dJ L x.V):=by unfold laid En.p;rw [hfo]
 simp only [hlb] at cL;rw [hld];unfold wO at cL;unfold Gives;rw [<-hW3.o] at cF;obtain ⟨xk,xa,xc,xV⟩:=x;simp only at *;generalize dJ L xV=ys at *;generalize aK xk=fk at *;generalize lu fk L fk xV=E at *;clear h hF hx hn hH hfo hfi hlen hl8 hlb hld hbw;go_enter func44,ntmps44;go_wp2_with (first
  | (go_at_call 53;((with_reducible refine cF.mono ?_);rintro e w2 ⟨fa,fc,kn,rfl,ho2,hb2⟩;rw [hW3.o] at ho2 hb2;have hN2:=ak w2 (.cells (zS fk fa L.length fc) 49);have hb4:=hb2.trans (hN2.mono hb2.size);obtain ⟨⟨_,k1,_,_⟩,hbw4⟩:=hBX.o _ hb4;have y1:=k1.cell 1;have y2:=k1.cell 2;have f0:=(Block.new w2 49 (zS fk fa L.length fc)).cell 0;have f1:=(Block.new w2 49 (zS fk fa L.length fc)).cell 1;have cL4:=cL (w2.alloc (.cells (zS fk fa L.length fc) 49)) fa fc hbw4 (eu (ai ho2 hN2)).1;have HB4:=hid hb4;clear k1 hN2 hb2 hb4 hbw4 ho2))
  | (go_at_call 80;((with_reducible refine cL4.mono ?_);rintro e w5 ⟨z,rfl,ho5,hb5⟩;obtain ⟨zx,zc,rfl,_⟩:=aA ho5;have hcv:=(Reads.own (xs:=ys) ho5).str (P:=prog) 91 5 underlying91 underlying5 zc 9 underlying9;have hb45:=HB4.o.trans (hb5.mono HB4.o.size);obtain ⟨⟨_,k1,k2,_⟩,hbw5⟩:=hBX.o _ hb45;have y0:=k1.cell 0;have e0:=k2.cell 0;have e1:=k2.cell 1;have g0:=k2.frozen 0;have g1:=k2.frozen 1;have K2:=hid k2;have HBW:=hid hbw5;clear k1 k2 hb45 hbw5 ho5 hb5)))
 have hB:=(K2.o.setCell 0 (.int .u32 (xk:Nat))).setCell 1 (.string (strOf ys));refine bodyPost_ret (aI (b:=w.heap.size+1+1) (o:=0) rfl rfl hB.whole underlying43 rfl Gq.o) rfl ?_;exact ⟨rfl,below_setCells (below_setCells HBW.o om_ 0 [.int .u32 (xk:Nat)]) om_ 1 [.string (strOf ys)]⟩
end whole
namespace typing
open Go.RowKit schema
open step (St Sts StL sps jA nV)
theorem Ht {w:World} {a:Option Addr} {F:List Fm} {L:List St} (h:FmL w a F) (hg:(kW (forms F) || decide (jA (sps L)))=false):Small w F/\∀p∈L,p.s.l.length<=40:=by
 simp only [Bool.or_eq_false_iff,decide_eq_false_iff_not] at hg;obtain ⟨h1,h2⟩:=Eg hg.1;have h3:=(nV hg.2).2;rw [aF] at h1;exact ⟨⟨h1,fun p hp=>⟨(h.2 p hp).rf,h2 p.p (List.mem_map_of_mem hp)⟩⟩,fun p hp=>(h3 p.s (List.mem_map_of_mem hp)).2⟩
end typing
namespace item
open Go.RowKit
theorem sD (a:Option Addr) (c:Nat) (L:List It) (x:Nat) (w:World) (h:Its w a L) (hL:L.length<=maxLen):
  Calls prog 18 #[.slice a L.length c,.int .u32 (x:Int)] w (Finds (find x L) w):=by
 have hml:(L.length:Int)<=9223372036854775807:=by unfold maxLen at hL;omega
 have HF:=hid h;obtain ⟨r,hr⟩:∃r,Hid (find x L=r):=⟨_,rfl⟩;rw [hr.o];unfold Finds;clear h hL;go_enter func18,ntmps18;go_wp2;go_loopw [6] (fun n wr=>∃k:Nat,k<=L.length/\n=.int .i64 (k:Int)/\Hid (find x (L.take k)=none)/\Hid (Below w.heap.size w wr)) (fun n _=>L.length - (intOf n).toNat);case atStart=>exact ⟨0,Nat.zero_le _,rfl,hid rfl,hid (Below.refl _ _)⟩
 case round=>
  obtain ⟨k,hk,rfl,HN,HB⟩:=hrel;by_cases hlt:k<L.length
  ·obtain ⟨g,off,p,rfl,hbl,hp,c0,c1⟩:=qj HF.o HB.o hlt;have i1:(k:Int)<L.length:=by omega
   by_cases hpx:p.key=x
   ·obtain rfl:some p=r:=by rw [<-hr.o];exact (zL (f:=fun p:It=>p.key == x) hp HN.o (by simp [hpx])).symm
    have hd:((p.key:Int) == (x:Int))=true:=by simp [hpx]
    clear hp hpx;go_wp2;go_ret2;exact ⟨rfl,HB.o⟩
   ·have HN1:=hid (IG (f:=fun p:It=>p.key == x) hp HN.o (by simp [hpx]));have hd:((p.key:Int) == (x:Int))=false:=by rw [beq_eq_false_iff_ne];omega
    clear hp hpx;go_wp2;exact ⟨⟨k+1,by omega,by go_num,hid HN1.o,HB⟩,by simp [intOf];omega⟩
  ·obtain rfl:k=L.length:=by omega
   obtain rfl:none=r:=by rw [<-hr.o,<-HN.o,List.take_of_length_le (Nat.le_refl _)]
   go_wp2;go_ret2;exact ⟨rfl,HB.o⟩
end item
end Go.Proofs.YtogkgbnpodojjaaGreat
