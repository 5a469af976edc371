/- Contracts and lemmas that claims of this seat share: SchemaFine. Each says its own conditions. -/
import Derived.Test.YtogfefdlffmioaaGreatCmWord
import Derived.Test.YtogfefdlffmioaaGreatCmP
set_option linter.unusedVariables false
namespace Go.Proofs.YtogfefdlffmioaaGreat
open Go.Proofs.Tryz
theorem t5{P:Prop}(h:P:=by
 go_enter func62,ntmps62;go_wp2_with (first
  | (go_at_call 61;((with_reducible refine(cA _ br_).mono ?_);rintro e w2 ⟨rfl,aj⟩;obtain⟨z0,z1,aN⟩:=HX.o _ aj))
  | (go_at_call 61;((with_reducible refine(cB _ br_).mono ?_);rintro e w2 ⟨rfl,aj⟩;obtain⟨z0,z1,aN⟩:=HX.o _ aj))
  | (go_at_call 88;((with_reducible refine(cC _ br_).mono ?_);rintro e w2 ⟨rfl,aj⟩;obtain⟨z0,z1,aN⟩:=HX.o _ aj))
  | (go_at_call 89;((with_reducible refine(cD _ br_).mono ?_);rintro e w2 ⟨rfl,aj⟩;obtain⟨z0,z1,aN⟩:=HX.o _ aj)))
 go_ret;exact⟨by first | rfl | exact ret_bool (by assumption),by assumption⟩):P:=h
namespace schema
open Go.RowKit
open field (Gives newB gives_from)
theorem boxM(i:Int)(a:Option Addr)(L:List field.Fd)(cap:Nat)(w w':World)(hb:Below (w.alloc (.cells (zS i a L.length cap) 43)).heap.size (w.alloc (.cells (zS i a L.length cap) 43)) w'):w'.cell? ⟨w.heap.size,0,none⟩=some (.int .i64 i)/\w'.cell? ⟨w.heap.size,1,none⟩=some (.slice a L.length cap)/\Below w.heap.size w w':=by
 have hB:=(Block.new w 43 (zS i a L.length cap)).later hb;exact⟨hB.cell 0,hB.cell 1,below_out hb⟩
abbrev From(F:FuncId)(args:Array Value)(v:Value)(w0:World):Prop:=∀w',Below w0.heap.size w0 w'->Calls prog F args w' fun e w2=>e=.returned v/\Below w0.heap.size w0 w2
theorem from_all{F:FuncId}{args:Array Value}{v:Value}(w0:World)(h:∀w',Calls prog F args w' (Gives v w')):From F args v w0:=fun w' hb=>gives_from (h w') hb
theorem from_fields{F:FuncId}{args:Array Value}{v:Value}{a:Option Addr}{L:List field.Fd}{w0:World}(hf:field.Fds w0 a L)(h:∀w',field.Fds w' a L->Calls prog F args w' (Gives v w')):From F args v w0:=fun w' hb=>gives_from (h w' (hf.below hb)) hb
theorem within_from(n lo hi:Int)(w0:World)(v:Bool)(h:decide (lo<=n/\n<=hi)=v):From 61 #[.int .i64 n,.int .i64 lo,.int .i64 hi] (.bool v) w0:=from_all w0 (fun w'=>h ▸ within_any n lo hi w')
theorem fine_any(i:Int)(a:Option Addr)(cap:Nat)(L:List field.Fd)(w:World)(h:field.Fds w a L)(hL:L.length<=maxLen):
  Calls prog 62 #[zS i a L.length cap] w (Gives (.bool (decide (Fine (i,L)))) w):=by
 have HX:=hid (boxM i a L cap w);have HF:=h.below (newB w (.cells (zS i a L.length cap) 43));obtain⟨v,hv⟩:∃v:Bool,Hid (decide (Fine (i,L))=v):=⟨_,rfl⟩;rw[hv.o];unfold Gives;have cA:=fun v h=>within_from i 0 200 (w.alloc (.cells (zS i a L.length cap) 43)) v h
 have cB:=fun v h=>within_from (L.length:Int) 1 8 (w.alloc (.cells (zS i a L.length cap) 43)) v h
 have cC:=from_fields HF (fun w' h'=>fineFields_any a cap L w' h' hL);clear h;by_cases h1:0<=i/\i<=200
 ·replace cA:=cA true (decide_eq_true h1);by_cases h2:1<=L.length/\L.length<=8
  ·replace cB:=cB true (decide_eq_true om_);have cD:=from_fields HF (fun w' h'=>long_any i a cap L w' h' om_);by_cases h3:FineF L
   ·rw[decide_eq_true h3] at cC;have hsz:=size_le L;by_cases h4:size L<=64
    ·obtain rfl:true=v:=by rw[<-hv.o];exact(decide_eq_true ⟨h1,h2,h3,h4⟩).symm
     have hd:decide ((size L:Int)<=64)=true:=decide_eq_true om_;clear h3 HF;generalize size L=s at *
     exact t5
    ·obtain rfl:false=v:=by rw[<-hv.o];exact(decide_eq_false (fun h=>h4 h.2.2.2)).symm
     have hd:decide ((size L:Int)<=64)=false:=decide_eq_false om_;clear h3 HF h4;generalize size L=s at *
     exact t5
   ·obtain rfl:false=v:=by rw[<-hv.o];exact(decide_eq_false (fun h=>h3 h.2.2.1)).symm
    rw[decide_eq_false h3] at cC;clear h3 HF cD
    exact t5
  ·obtain rfl:false=v:=by rw[<-hv.o];exact(decide_eq_false (fun h=>h2 h.2.1)).symm
   replace cB:=cB false (decide_eq_false om_);clear HF cC h2
   exact t5
 ·obtain rfl:false=v:=by rw[<-hv.o];exact(decide_eq_false (fun h=>h1 h.1)).symm
  replace cA:=cA false (decide_eq_false h1);clear HF cC cB h1
  exact t5
theorem fm_info2(x y:Value):(prog.info? 43).map (·.size)=some [x,y].length:=by kernel_rfl
end schema
end Go.Proofs.YtogfefdlffmioaaGreat
