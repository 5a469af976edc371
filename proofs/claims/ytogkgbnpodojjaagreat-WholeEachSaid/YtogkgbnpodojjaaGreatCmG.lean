/- Contracts and lemmas that claims of this seat share: SchemaFields, SchemaFine, Stay, RecordRow, CloneV, StepRow. Each says its own conditions. -/
import Derived.Test.YtogkgbnpodojjaaGreatCmWord
import Derived.Maps.AppendAt
import Derived.Conc.WalkWords
import Derived.Test.YtogkgbnpodojjaaGreatCmE
import Derived.Test.YtogkgbnpodojjaaGreatCmF
import Derived.Test.YtogkgbnpodojjaaGreatCmC
set_option linter.unusedVariables false
namespace Go.Proofs.YtogkgbnpodojjaaGreat
open Go.Proofs.Tryz
theorem t112{P:Prop}(h:P:=by
 go_ret;exact ⟨rfl,HB.o.trans ((aP hb2).mono HB.o.size)⟩):P:=h
theorem t28{P:Prop}(h:P:=by
 go_wp2;go_ret;exact ⟨rfl,Below.refl _ _⟩):P:=h
namespace schema
open Go.RowKit
open field (Gives ak aj aX)
theorem dK (n lo hi:Int) (w:World):Calls prog 89 #[.int .i64 n,.int .i64 lo,.int .i64 hi] w (Gives (.bool (decide (lo<=n/\n<=hi))) w):=by
 obtain ⟨v,hv⟩:∃v:Bool,Hid (decide (lo<=n/\n<=hi)=v):=⟨_,rfl⟩;rw [hv.o];unfold Gives;by_cases h1:lo<=n
 ·by_cases h2:n<=hi
  ·obtain rfl:true=v:=by rw [<-hv.o];simp [h1,h2]
   go_enter func89,ntmps89
   exact t28
  ·obtain rfl:false=v:=by rw [<-hv.o];simp [h1,h2]
   have hd:decide (n<=hi)=false:=decide_eq_false h2;go_enter func89,ntmps89
   exact t28
 ·obtain rfl:false=v:=by rw [<-hv.o];simp [h1]
  have hd:decide (lo<=n)=false:=decide_eq_false h1;go_enter func89,ntmps89
  exact t28
def oL (l:List Int):List Value:=(List.range 256).map fun j:Nat=>Value.bool (decide ((j:Int)∈l))
theorem vF (l:List Int) (n:Nat) (h:n<256):(oL l)[n]?=some (.bool (decide ((n:Int)∈l))):=by simp [oL,h]
theorem EP (l:List Int) (n:Nat) (h:n<256):(oL l).set n (.bool true)=oL (l++[(n:Int)]):=by
 apply List.ext_getElem?;intro i;rw [List.getElem?_set];by_cases hi:i<256
 ·rw [vF _ i hi,vF _ i hi];by_cases hn:n=i
  ·subst hn;simp [oL,h]
  ·rw [if_neg hn];simp;omega
 ·simp [oL];simp [hi];omega
theorem CG:Tryz.zeroCells223=(oL []).toArray:=by kernel_rfl
theorem uD (a:Option Addr) (cap:Nat) (L:List field.Fd) (w:World) (h:field.Fds w a L) (hL:L.length<=maxLen):
  Calls prog 137 #[.slice a L.length cap] w (Gives (.bool (decide (jC L))) w):=by
 have hml:(L.length:Int)<=9223372036854775807:=by unfold maxLen at hL;omega
 obtain ⟨v,hv⟩:∃v:Bool,Hid (decide (jC L)=v):=⟨_,rfl⟩;rw [hv.o];unfold Gives;have HF:=hid h;have HZ:Hid (Block (w.alloc (.cells Tryz.zeroCells223 223)) w.heap.size 223 (oL [])):=by rw [CG];exact hid (Block.new w 223 (oL []))
 have HN:=hid (ak w (.cells Tryz.zeroCells223 223));clear h hL;go_enter func137,ntmps137;go_wp2;generalize w.alloc (.cells Tryz.zeroCells223 223)=w1 at *;obtain ⟨B,hB⟩:∃B:Nat,Hid (w.heap.size=B):=⟨_,rfl⟩;rw [hB.o] at HZ ⊢;go_loopw [8] (fun n wr=>∃k:Nat,k<=L.length/\n=.int .i64 (k:Int)/\Hid (jC (L.take k))/\Hid (Block wr B 223 (oL (ids (L.take k))))/\Hid (Below w.heap.size w wr)) (fun n _=>L.length - (intOf n).toNat);case atStart=>exact ⟨0,Nat.zero_le _,rfl,hid jC.nil,HZ,HN⟩
 case round=>
  obtain ⟨k,hk,rfl,HOK,HBl,HB⟩:=hrel;by_cases hlt:k<L.length
  ·obtain ⟨b,off,p,rfl,hbl,hp,c0,c1,c2,c3,c4⟩:=eP HF.o HB.o hlt;have i1:(k:Int)<L.length:=by omega
   have HP:=hid hp;have HNO:=hid (Gf hp);have HSUC:=hid (uz hp);have HIDS:Hid (ids (L.take (k+1))=ids (L.take k)++[p.id]):=hid (by rw [aH hp];simp [ids]);have cs:=fun w'=>aX p w'
   clear hp;generalize hI:ids (L.take k)=I at *;clear hI;by_cases hr:p.Right
   ·obtain ⟨n,hn⟩:=Int.eq_ofNat_of_zero_le hr.1.1;have hn2:n<=255:=by have:=hr.1.2;omega
    rw [decide_eq_true hr] at cs;have HR:=hid hr;clear hr;obtain ⟨q,qk,ql,qh,qm⟩:=p;simp only at hn HNO HSUC HIDS HR c0 c1 c2 c3 c4 cs;subst hn;have hsd:=vF I n om_;by_cases hm:(n:Int)∈I
    ·rw [decide_eq_true hm] at hsd;obtain rfl:false=v:=by rw [<-hv.o];exact (decide_eq_false (HNO.o (fun h=>h.2 hm))).symm
     clear hm;have H5:=hid (field.five ⟨n,qk,ql,qh,qm⟩ wr);go_wp2_with (go_at_call 153;((with_reducible refine (cs _).mono ?_);rintro e w2 ⟨rfl,hb2⟩;have hc:=((HBl.o.alloc _).later hb2).cell n;rw [hsd] at hc;have z0:=(H5.o w2 hb2).1))
     exact t112
    ·rw [decide_eq_false hm] at hsd;have HM:=hid hm;clear hm;have H5:=hid (field.five ⟨n,qk,ql,qh,qm⟩ wr);have HLT:=hid (show w.heap.size<=B by rw [hB.o];exact Nat.le_refl _);go_wp2_with (go_at_call 153;((with_reducible refine (cs _).mono ?_);rintro e w2 ⟨rfl,hb2⟩;have hblk:=(HBl.o.alloc _).later hb2;have hc:=hblk.cell n;rw [hsd] at hc;have z0:=(H5.o w2 hb2).1;have hfz:=hblk.frozen n;have HBK:=hid hblk;clear hblk));refine ⟨⟨k+1,by omega,by go_num,hid (HSUC.o.2 ⟨HOK.o,HR.o,HM.o⟩),hid ?_,hid ?_⟩,by simp [intOf];omega⟩
     ·have:=HBK.o.setCell n (.bool true);rw [EP _ _ om_] at this;rw [HIDS.o];exact this
     ·exact below_setCells (HB.o.trans ((aP hb2).mono HB.o.size)) HLT.o n [.bool true]
   ·obtain rfl:false=v:=by rw [<-hv.o];exact (decide_eq_false (HNO.o (fun h=>hr h.1))).symm
    rw [decide_eq_false hr] at cs;clear hr;go_wp2_with (go_at_call 153;((with_reducible refine (cs _).mono ?_);rintro e w2 ⟨rfl,hb2⟩))
    exact t112
  ·obtain rfl:k=L.length:=by omega
   obtain rfl:true=v:=by rw [<-hv.o];have:=HOK.o;rw [List.take_of_length_le (Nat.le_refl _)] at this;exact (decide_eq_true this).symm
   go_wp2;go_ret;exact ⟨rfl,HB.o⟩
end schema
theorem t6{P:Prop}(h:P:=by
 go_enter func90,ntmps90;go_wp2_with (first
  | (go_at_call 89;((with_reducible refine (cA _ br_).mono ?_);rintro e w2 ⟨rfl,hb2⟩;obtain ⟨z0,z1,hbo⟩:=HX.o _ hb2))
  | (go_at_call 89;((with_reducible refine (cB _ br_).mono ?_);rintro e w2 ⟨rfl,hb2⟩;obtain ⟨z0,z1,hbo⟩:=HX.o _ hb2))
  | (go_at_call 137;((with_reducible refine (cC _ br_).mono ?_);rintro e w2 ⟨rfl,hb2⟩;obtain ⟨z0,z1,hbo⟩:=HX.o _ hb2))
  | (go_at_call 138;((with_reducible refine (cD _ br_).mono ?_);rintro e w2 ⟨rfl,hb2⟩;obtain ⟨z0,z1,hbo⟩:=HX.o _ hb2)))
 go_ret;exact ⟨by first | rfl | exact dA (by assumption),by assumption⟩):P:=h
namespace schema
open Go.RowKit
open field (Gives ak aj)
theorem Bv (i:Int) (a:Option Addr) (L:List field.Fd) (cap:Nat) (w w':World) (hb:Below (w.alloc (.cells (zS i a L.length cap) 49)).heap.size (w.alloc (.cells (zS i a L.length cap) 49)) w'):w'.cell? ⟨w.heap.size,0,none⟩=some (.int .i64 i)/\w'.cell? ⟨w.heap.size,1,none⟩=some (.slice a L.length cap)/\Below w.heap.size w w':=by
 have hB:=(Block.new w 49 (zS i a L.length cap)).later hb;exact ⟨hB.cell 0,hB.cell 1,aP hb⟩
abbrev From (F:FuncId) (args:Array Value) (v:Value) (w0:World):Prop:=∀w',Below w0.heap.size w0 w'->Calls prog F args w' fun e w2=>e=.returned v/\Below w0.heap.size w0 w2
theorem fG {F:FuncId} {args:Array Value} {v:Value} (w0:World) (h:∀w',Calls prog F args w' (Gives v w')):From F args v w0:=fun w' hb=>aj (h w') hb
theorem rP {F:FuncId} {args:Array Value} {v:Value} {a:Option Addr} {L:List field.Fd} {w0:World} (hf:field.Fds w0 a L) (h:∀w',field.Fds w' a L->Calls prog F args w' (Gives v w')):From F args v w0:=fun w' hb=>aj (h w' (hf.below hb)) hb
theorem nN (n lo hi:Int) (w0:World) (v:Bool) (h:decide (lo<=n/\n<=hi)=v):From 89 #[.int .i64 n,.int .i64 lo,.int .i64 hi] (.bool v) w0:=fG w0 (fun w'=>h ▸ dK n lo hi w')
theorem gQ (i:Int) (a:Option Addr) (cap:Nat) (L:List field.Fd) (w:World) (h:field.Fds w a L) (hL:L.length<=maxLen):
  Calls prog 90 #[zS i a L.length cap] w (Gives (.bool (decide (Fine (i,L)))) w):=by
 have HX:=hid (Bv i a L cap w);have HF:=h.below (ak w (.cells (zS i a L.length cap) 49));obtain ⟨v,hv⟩:∃v:Bool,Hid (decide (Fine (i,L))=v):=⟨_,rfl⟩;rw [hv.o];unfold Gives;have cA:=fun v h=>nN i 0 200 (w.alloc (.cells (zS i a L.length cap) 49)) v h
 have cB:=fun v h=>nN (L.length:Int) 1 8 (w.alloc (.cells (zS i a L.length cap) 49)) v h
 have cC:=rP HF (fun w' h'=>uD a cap L w' h' hL);clear h;by_cases h1:0<=i/\i<=200
 ·replace cA:=cA true (decide_eq_true h1);by_cases h2:1<=L.length/\L.length<=8
  ·replace cB:=cB true (decide_eq_true om_);have cD:=rP HF (fun w' h'=>GH i a cap L w' h' om_);by_cases h3:jC L
   ·rw [decide_eq_true h3] at cC;have hsz:=size_le L;by_cases h4:size L<=64
    ·obtain rfl:true=v:=by rw [<-hv.o];exact (decide_eq_true ⟨h1,h2,h3,h4⟩).symm
     have hd:decide ((size L:Int)<=64)=true:=decide_eq_true om_;clear h3 HF;generalize size L=s at *
     exact t6
    ·obtain rfl:false=v:=by rw [<-hv.o];exact (decide_eq_false (fun h=>h4 h.2.2.2)).symm
     have hd:decide ((size L:Int)<=64)=false:=decide_eq_false om_;clear h3 HF h4;generalize size L=s at *
     exact t6
   ·obtain rfl:false=v:=by rw [<-hv.o];exact (decide_eq_false (fun h=>h3 h.2.2.1)).symm
    rw [decide_eq_false h3] at cC;clear h3 HF cD
    exact t6
  ·obtain rfl:false=v:=by rw [<-hv.o];exact (decide_eq_false (fun h=>h2 h.2.1)).symm
   replace cB:=cB false (decide_eq_false om_);clear HF cC h2
   exact t6
 ·obtain rfl:false=v:=by rw [<-hv.o];exact (decide_eq_false (fun h=>h1 h.1)).symm
  replace cA:=cA false (decide_eq_false h1);clear HF cC cB h1
  exact t6
theorem uH (x y:Value):(prog.info? 49).map (·.size)=some [x,y].length:=by kernel_rfl
end schema
theorem t97{P:Prop}(h:P:=by
 rintro rfl;unfold Block at hB;rw [hB] at hk;exact ht (Obj.cells.inj (Option.some.inj hk)).2.1):P:=h
namespace schema
open Go.RowKit
def dX (e:TypeId) (w w':World):Prop:=∀(k:Nat) (cs:Array Value) (fr:Nat×Nat),w.heap[k]?=some (Obj.cells cs e fr)->w'.heap[k]?=some (Obj.cells cs e fr)
theorem dX.trans {e:TypeId} {a b c:World} (h:dX e a b) (k:dX e b c):dX e a c:=fun i cs fr hi=>k i cs fr (h i cs fr hi)
theorem iI (e:TypeId) {B e2 sz n:Nat} {u:Value} {xs:List Value} {w w':World} (ho:w.ownsRow B e2 sz u n xs) (hg:w.grownBy w' u.ownBlock) (ht:e2≠e):dX e w w':=by
 intro k cs fr hk;refine (hg.block k (Array.getElem?_eq_some_iff.1 hk).1 ?_).trans hk;intro he;rcases ho.2 with ⟨hv,_⟩ | ⟨g,cap,cur,hv,_,hh,_⟩
 ·rw [hv] at he;simp [Value.ownBlock] at he
 ·rw [hv] at he;simp [Value.ownBlock] at he;subst he;rw [hh] at hk;exact ht (Obj.cells.inj (Option.some.inj hk)).2.1
theorem jX (e:TypeId) {g:Nat} {t:TypeId} {cs:List Value} {w:World} (hB:Block w g t cs) (ht:t≠e) (o:Nat) (v:Value):dX e w (w.setCell ⟨g,o,none⟩ v):=by
 intro k cs' fr hk;refine (Below.heap_setCell w ⟨g,o,none⟩ v k ?_).trans hk
 exact t97
theorem dX.block {w w':World} {k:Nat} {e:TypeId} {cs:List Value} (h:dX e w w') (hB:Block w k e cs):Block w' k e cs:=h k _ _ hB
theorem dX.row {w w':World} {B e sz n:Nat} {v:Value} {xs:List Value} (h:dX e w w') (ho:w.ownsRow B e sz v n xs):w'.ownsRow B e sz v n xs:=by
 refine ⟨ho.1, ?_⟩;rcases ho.2 with h0 | ⟨g,cap,cur,hv,h1,hg,h2⟩
 ·exact .inl h0
 ·exact .inr ⟨g,cap,cur,hv,h1,h g _ _ hg,h2⟩
theorem qN {o:Oper} {act:Act} {w:World} {x y:Operand} {u:Value} {B n g sz bytes:Nat} {t e:TypeId} {i:TypeInfo} {z:Value} {xs news:List Value}
  (ht:prog.underlying t=some (.slice e)) (hi:prog.info? e=some i) (hz:i.zero=some z) (hsz:i.size=sz) (hby:i.bytes=bytes) (hzs:z.cells.size=sz) (h0:0<sz)
  (ho:o.op=.call { callee:=.builtin .append,args:=#[x,y],argTypes:=#[t,t]}) (hx:act.eval x=u) (hy:act.eval y=.slice (some ⟨g,0,none⟩) 1 1)
  (hown:w.ownsRow B e sz u n xs) (hl:news.length=sz) (hc:∀j v,news[j]?=some v->w.cell? ⟨g,j,none⟩=some v) (h1:∀v∈news,v.oneCell'=true) (hbytes:(n+1)*bytes<=140737488355328) (hn:n+1<=1000000) (hB:B<=w.heap.size):
  ∃q w',(execOp act.eval o).run prog w=.ok (.value q) w'/\w'.ownsRow B e sz q (n+1) (xs++news)/\w.grownBy w' u.ownBlock:=by
 obtain ⟨q,w',h2,h3,h4,_,_⟩:=run_append_own_at w B t o.type e i z sz bytes ht hi hz hsz hby hzs h0 u n xs hown ⟨g,0,none⟩ 1 1 news om_
  (fun j v hj=>by rw [Addr.add_lit,Nat.zero_add];exact hc j v hj) h1 (by unfold maxLen;omega) hbytes hB
 refine ⟨q,w', ?_,h3,h4⟩;unfold execOp;simp [ho,resolve,invoke,builtin,hx,hy,h2,Result.andThen]
theorem kQ {w:World} {base n sz:Nat} {a:Option Addr} {cap:Nat} {xs:List Value} {e:TypeId} (h:w.ownsRow base e sz (.slice a n cap) n xs):n<=cap/\cap<=maxLen:=by
 rcases h.2 with ⟨hv,h0⟩ | ⟨b,cap',cur,hv,_,hg,h1,h2,_⟩
 ·cases hv;exact ⟨by omega,by unfold maxLen;omega⟩
 ·cases hv;exact ⟨h1,h2⟩
theorem aG {o:Oper} {a:Act} {w:World} {ty:TypeId} {x:Operand} {ad:Addr} {q:Option Addr} {n c:Nat} (ho:o.op=.load ty x) (hc:w.cell? ad=some (.slice q n c)) (hu:∀w',(isAgg ty).run prog w'=.ok false w') (hx:a.eval x=.pointer (some ad):=by kernel_rfl):
  (execOp a.eval o).run prog w=.ok (.value (.slice q n c)) w:=by
 unfold execOp;rw [ho];simp only [hx];go_simp
end schema
namespace plan
open Go Go.RowKit
theorem ni {P:Program} {md:Region.Mode} {Q:Exit->Act->World->Prop} {l:List Oper} {S:World->Prop} {listed:Array Bool} {a:Act} {w w1:World} (i:Nat) (o:Oper) (hi:l[i]?=some o) (hg:o.guard=none) (hd:o.dst=none)
  (hv:(execOp a.eval o).run P w=.ok .skip w1) (hS:S w1) (h:Q .normal a w1) (hr:Region.ready md l.toArray listed=[i]:=by kernel_rfl) (hr2:Region.ready md l.toArray (listed.setIfInBounds i true)=[]:=by kernel_rfl):wpAnyH P md l.toArray (NoPanic Q) S 1 listed a w:=by
 refine wpAnyH_all hr si_ fun j hj=> ?_
 obtain rfl:j=i:=by simpa using hj
 have hi':l.toArray[j]?=some o:=by simpa using hi
 have hw:Region.wanted o (yielded l.toArray a.tmps)=true:=by unfold Region.wanted;rw [hg]
 unfold wpOp;have e:a.put o.dst undef=a:=by rw [hd];rfl
 simp only [hi',hw,if_true,Oper.wp,hv,Oper.upon];exact .inl ⟨hS,hr2,NoPanic.normal (by rw [e];exact h)⟩
end plan
theorem t109{P:Prop}(h:P:=by
 simp only [Prod.mk.injEq] at he;exact ⟨i,hi,he.1,he.2.1,he.2.2⟩):P:=h
namespace record
open Go.RowKit
open field (Va)
open schema (qN aW)
def vaC (p:Va):List Value:=(zV p)
def vaV:List Va->List Value
 | []=>[]
 | p :: L=>vaC p++vaV L
theorem gX:∀a b,vaV (a++b)=vaV a++vaV b
 | [],_=>rfl
 | p :: a,b=>by rw [List.cons_append,vaV,vaV,gX a b,List.append_assoc]
theorem dR:∀L,(vaV L).length=L.length*2
 | []=>rfl
 | p :: L=>by rw [vaV];simp only [vaC,List.length_append,List.length_cons,List.length_nil,dR L];omega
theorem DR (p:Va):∀u∈vaC p,u.oneCell'=true:=by intro u hu;simp [vaC] at hu;rcases hu with rfl | rfl <;> rfl
theorem vS:∀(L:List Va) (i:Nat) (p:Va) (c:Nat),L[i]?=some p->c<2->(vaV L)[i*2+c]?=(vaC p)[c]?
 | [],i,p,c,h,_=>by simp at h
 | q :: L,0,p,c,h,hc=>by
  simp at h;subst h;rw [vaV,List.getElem?_append_left (by simp [vaC];omega)];simp
 | q :: L,i+1,p,c,h,hc=>by
  rw [vaV,List.getElem?_append_right (by simp [vaC];omega)];rw [<-vS L i p c (by simpa using h) hc];congr 1;simp only [vaC,List.length_cons,List.length_nil];omega
theorem tC {w:World} {base n:Nat} {a:Option Addr} {cap:Nat} {L:List Va} {e:TypeId} (h:w.ownsRow base e 2 (.slice a n cap) n (vaV L)):field.Vas w a L/\n=L.length/\n<=cap:=by
 obtain ⟨hl,hr⟩:=h;have hn:n=L.length:=by have:=dR L;rw [hl] at this;omega
 rcases hr with ⟨hv,h0⟩ | ⟨b,cap',cur,hv,_,hg,hcp,_,_,htake⟩
 ·cases hv
  exact ⟨.inl (List.eq_nil_of_length_eq_zero om_),hn,by omega⟩
 ·cases hv
  refine ⟨.inr ⟨b,0,rfl,(Array.getElem?_eq_some_iff.1 hg).1,fun i p hp=> ?_⟩,hn,hcp⟩;have hi:i<L.length:=(List.getElem?_eq_some_iff.1 hp).1;have key:∀c x,c<2->(vaC p)[c]?=some x->w.cell? ⟨b,0+(i*2+c),none⟩=some x:=by
   intro c x hc hx;have h1:=vS L i p c hp hc;rw [hx,<-htake,List.getElem?_take,if_pos om_] at h1;rw [cell_of_row w b _ cur _ _ hg,Nat.zero_add,<-h1,Array.getElem?_toList]
  exact ⟨key 0 _ om_ rfl,key 1 _ om_ rfl⟩
theorem Jj:(prog.info? 54).map (fun i=>(i.zero,i.size,i.bytes))=some (some (.agg #[.int .i64 0,.string ⟨#[]⟩]),2,24):=by kernel_rfl
theorem jk:∃i,prog.info? 54=some i/\i.zero=some (.agg #[.int .i64 0,.string ⟨#[]⟩])/\i.size=2/\i.bytes=24:=by
 obtain ⟨i,hi,he⟩:=Option.map_eq_some_iff.1 Jj
 exact t109
theorem bg (v0 v1:Value):(prog.info? 66).map (·.size)=some [v0,v1].length:=by kernel_rfl
theorem JJ (i:Int) (a:Option Addr) (V:List Va) (cap:Nat) (w w':World) (hb:Below (w.alloc (.cells (zS i a V.length cap) 66)).heap.size (w.alloc (.cells (zS i a V.length cap) 66)) w'):w'.cell? ⟨w.heap.size,0,none⟩=some (.int .i64 i)/\w'.cell? ⟨w.heap.size,1,none⟩=some (.slice a V.length cap)/\Below w.heap.size w w':=by
 have hB:=(Block.new w 66 (zS i a V.length cap)).later hb;exact ⟨hB.cell 0,hB.cell 1,schema.aP hb⟩
theorem Ih {w w':World} {a:Option Addr} {V:List Va} (h:field.Vas w a V) (hb:Below w.heap.size w w') {k:Nat} (hk:k<V.length):
  ∃b off p,a=some ⟨b,off,none⟩/\b<w'.heap.size/\V[k]?=some p/\w'.cell? ⟨b,off+k*2,none⟩=some (.int .i64 p.n)/\w'.cell? ⟨b,off+k*2+1,none⟩=some (.string p.s):=by
 obtain ⟨b,off,p,h1,h2,h3,h4,h5⟩:=(h.below hb).at hk;exact ⟨b,off,p,h1,h2,h3,h4,h5⟩
structure RS (i:Int) (w0:World) (F:Nat) (V:List Va) (n:Nat) (u:Value) (wr:World):Prop where
 f:Block wr F 66 [.int .i64 i,u]
 row:wr.ownsRow (F+1) 54 2 u n (vaV V)
 low:Below w0.heap.size w0 wr
 at':w0.heap.size=F
variable {i:Int} {F n:Nat} {w0:World} {V:List Va} {u:Value}
theorem RS.later {w w':World} (h:RS i w0 F V n u w) (hb:Below w.heap.size w w'):RS i w0 F V n u w':=
 ⟨h.f.later hb,ai h.row hb,h.low.trans (hb.mono h.low.size),h.at'⟩
theorem RS.held {w w':World} (h:RS i w0 F V n u w) (hg:w.grownBy w' u.ownBlock):Block w' F 66 [.int .i64 i,u]:=
 (hg.block F h.f.lt (by intro he;have:=World.ownsRow.lt h.row F he.symm;omega)).trans h.f
theorem RS.push {w w':World} {p:Va} {z:Value} (h:RS i w0 F V n u w) (hg:w.grownBy w' u.ownBlock) (ho:w'.ownsRow (F+1) 54 2 z (n+1) (vaV (V++[p]))):
  RS i w0 F (V++[p]) (n+1) z (w'.setCell ⟨F,1,none⟩ z):=by
 have hF:=h.held hg;refine ⟨hF.setCell 1 z,bT ho (fun g hg=> ?_), ?_,h.at'⟩
 ·have:=World.ownsRow.lt ho g hg;exact Below.heap_setCell w' ⟨F,1,none⟩ z g (by show g≠F;omega)
 ·have hl:=h.low.grown hg (by have:=h.low.size;omega) (fun k hk=>by have:=World.ownsRow.lt h.row k hk;have:=h.at';omega);exact below_setCells hl (Nat.le_of_eq h.at') 1 [z]
theorem RS.start (w1:World) (i:Int):RS i w1 w1.heap.size [] 0 (.slice none 0 0) (w1.alloc (.cells (zS i none 0 0) 66)):=
 ⟨Block.new w1 66 (zS i none 0 0),World.ownsRow_nil _ _ _ _,field.ak _ _,rfl⟩
theorem RS.len {w:World} (h:RS i w0 F V n u w):n=V.length:=by have h1:=h.row.1;rw [dR] at h1;omega
end record
namespace record
open Go.RowKit schema
open field (Va)
theorem qF:∀L,∀u∈vaV L,u.oneCell'=true
 | [],u,h=>by simp [vaV] at h
 | p :: L,u,h=>by
  rw [vaV,List.mem_append] at h;rcases h with h | h
  ·simp [vaC] at h;rcases h with rfl | rfl <;> rfl
  ·exact qF L u h
theorem DT:∀(L:List Va) (j:Nat) (u:Value),(vaV L)[j]?=some u->∃i p c,L[i]?=some p/\j=i*2+c/\c<2/\(vaC p)[c]?=some u
 | [],j,u,h=>by simp [vaV] at h
 | p :: L,j,u,h=>by
  rw [vaV] at h;by_cases hj:j<2
  ·rw [List.getElem?_append_left (by simp [vaC];omega)] at h;exact ⟨0,p,j,rfl,by omega,hj,h⟩
  ·rw [List.getElem?_append_right (by simp [vaC];omega)] at h;obtain ⟨i,q,c,h1,h2,h3,h4⟩:=DT L _ u h;simp only [vaC,List.length_cons,List.length_nil] at h2;exact ⟨i+1,q,c,by simpa using h1,by omega,h3,h4⟩
theorem Ij {w:World} {a:Option Addr} {L:List Va} (h:field.Vas w a L):L.length=0\/∃ad,a=some ad/\∀j u,(vaV L)[j]?=some u->w.cell? (ad.add j)=some u:=by
 rcases h with h | ⟨b,off,ha,hlt,hc⟩
 ·exact .inl (by rw [h];rfl)
 ·refine .inr ⟨_,ha,fun j u hj=> ?_⟩;obtain ⟨i,p,c,h1,rfl,h3,h4⟩:=DT L j u hj;obtain ⟨c0,c1⟩:=hc i p h1;rw [Addr.add_lit];match c,h3,h4 with
  | 0,_,h4=>rw [show (some u)=some (.int .i64 p.n) from h4.symm.trans rfl];exact c0
  | 1,_,h4=>rw [show (some u)=some (.string p.s) from h4.symm.trans rfl,<-Nat.add_assoc];exact c1
theorem DU (W:World) (a:Option Addr) (n c:Nat):(binOp .eql 64 (.slice a n c) (.slice none 0 0)).run prog W=.ok (.bool a.isNone) W:=by
 have h:=run_equal_slice_nil (P:=prog) W 64 54 a n c underlying64;simp [binOp,h,Result.andThen]
def wP (L:List Va) (w:World) (e:Ending) (w':World):Prop:=∃v,e=.returned v/\w'.ownsRow w.heap.size 54 2 v L.length (vaV L)/\Below w.heap.size w w'
theorem um (a:Option Addr) (cap:Nat) (L:List Va) (w:World) (h:field.Vas w a L) (hL:L.length<=1000000):
  Calls prog 159 #[.slice a L.length cap] w (wP L w):=by
 obtain ⟨i0,hi,hz0,hz1,hz2⟩:=jk;cases a with
 | none=>
  have en:=DU w none L.length cap;simp only [Option.isNone_none] at en;have hl:L=[]:=by
   rcases h with h | ⟨b,off,h,_⟩
   ·exact h
   ·cases h
  have HR:Hid (wP L w (.returned (.slice none 0 0)) w):=hid ⟨_,rfl,by rw [hl];exact World.ownsRow_nil _ _ _ _,Below.refl _ _⟩;clear h hl hL;generalize wP L w=R at *;generalize L.length=n at *;go_enter func159,ntmps159;go_wp2;exact HR.o
 | some ad=>
  have en:=DU w (some ad) L.length cap;simp only [Option.isNone_some] at en;have hb:Below w.heap.size w (w.alloc (.cells #[] 54)):=(Below.refl _ _).alloc (Nat.le_refl _) _;have HB:=hid hb;have HN:=hid (Ij (h.below hb));have HU:=hid (dR L);have HN2:Hid (0+L.length<=maxLen):=by show _<=_;unfold maxLen;omega
  have HN3:Hid ((0+L.length)*24<=140737488355328):=by show _<=_;omega
  have HO:=hid (World.ownsRow_made (base:=w.heap.size) (e:=54) (size:=2) w #[] 0 (Nat.le_refl _) (Nat.zero_le _) rfl);have H1:=hid (qF L);clear h hb hL;unfold wP;generalize hX:vaV L=X at *;clear hX;generalize hn:L.length=n at *;clear hn;go_enter func159,ntmps159;go_wp2_with (at_builtin;refine aO rfl _ _ 64 rfl w.heap.size 54 i0 _ 2 24 underlying64 hi hz0 hz1 hz2 (by simp [Value.cells]) om_ (.slice (some ⟨w.heap.size,0,none⟩) 0 0) 0 [] rfl HO.o (some ad) n cap X rfl HU.o HN.o H1.o HN2.o HN3.o HB.o.size ?_);intro v' w1 ho hg;have hbl:Below w.heap.size w w1:=HB.o.grown hg HB.o.size (fun k hk=>by cases hk;exact Nat.le_refl _);have ho':w1.ownsRow w.heap.size 54 2 v' n X:=by simpa using ho
  have HO2:=hid ho';have HB2:=hid hbl;clear ho ho' hbl hg;go_wp2;go_ret;exact ⟨_,rfl,HO2.o,HB2.o⟩
end record
namespace step
open Go.RowKit
open schema (qN)
abbrev Z16:List Value:=zZ
end step
end Go.Proofs.YtogkgbnpodojjaaGreat
