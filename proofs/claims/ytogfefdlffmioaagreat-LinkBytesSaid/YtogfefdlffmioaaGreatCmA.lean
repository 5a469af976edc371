/- Contracts and lemmas that claims of this seat share: Kit, Open. Each says its own conditions. -/
import Derived.Test.YtogfefdlffmioaaGreatCmWord
import Derived.Test.YtogfefdlffmioaaGreatRows
import Derived.WalkKit
import Derived.BigQuiet
import Derived.ProofKit
import Derived.OpenShut
import Derived.ShutString
import Derived.ChangeOld
import Derived.Below
import Derived.SizedLaws
namespace Go.Proofs.YtogfefdlffmioaaGreat
open Go.Proofs.Tryz
section
open Go.RowKit
theorem hid{p:Prop}(h:p):Hid p:=h
theorem ret_int{k:IntKind}{a b:Int}(h:a=b):Ending.returned (.int k a)=.returned (.int k b):=by rw[h]
theorem ret_bool{a b:Bool}(h:a=b):Ending.returned (.bool a)=.returned (.bool b):=by rw[h]
def Quiet(v:Value)(w:World)(e:Ending)(w':World):Prop:=e=.returned v/\∃n,w'=w.drewN n
theorem _root_.quietAt{P:Program}{f:FuncId}{args:Array Value}{w:World}{n:Nat}{v:Value}
  (h:Calls P f args (w.drewN n) (Quiet v (w.drewN n))):Calls P f args (w.drewN n) fun e w''=>e=.returned v/\∃m,w''=w.drewN m:=
 h.mono fun _ _ ⟨he,m,hm⟩=>⟨he,n+m,by rw[hm,World.drewN_drewN]⟩
theorem below_drewN{B:Nat}{a w:World}(h:Below B a w)(n:Nat):Below B a (w.drewN n):=
 ⟨h.os,h.tape,h.output,h.size,h.block⟩
theorem _root_.Go.World.ownsRow.drewN{w:World}{base e size n:Nat}{v:Value}{xs:List Value}(h:w.ownsRow base e size v n xs)(m:Nat):(w.drewN m).ownsRow base e size v n xs:=h
def Reads(k:IntKind)(w:World)(a:Option Addr)(len:Nat)(xs:List Nat):Prop:=
 xs.length=len/\(len=0\/∃b off,a=some ⟨b,off,none⟩/\b<w.heap.size/\∀i,i<len->w.cell? ⟨b,off+i,none⟩=some (.int k ((xs.getD i 0:Nat):Int)))
theorem Reads.at{k:IntKind}{w:World}{a:Option Addr}{len:Nat}{xs:List Nat}(h:Reads k w a len xs){i:Nat}(hi:i<len):
  ∃b off,a=some ⟨b,off,none⟩/\b<w.heap.size/\∀i,i<len->w.cell? ⟨b,off+i,none⟩=some (.int k ((xs.getD i 0:Nat):Int)):=by
 rcases h.2 with h | h
 ·omega
 ·exact h
theorem Reads.below{k:IntKind}{w w':World}{a:Option Addr}{len:Nat}{xs:List Nat}(h:Reads k w a len xs)(hb:Below w.heap.size w w'):Reads k w' a len xs:=by
 refine⟨h.1, ?_⟩;rcases h.2 with h | ⟨b,off,ha,au,hc⟩
 ·exact .inl h
 ·exact .inr ⟨b,off,ha,Nat.lt_of_lt_of_le au hb.size,fun i hi=>by rw[hb.cell (p:=⟨b,off+i,none⟩) au];exact hc i hi⟩
theorem Reads.drewN{k:IntKind}{w:World}{a:Option Addr}{len:Nat}{xs:List Nat}(h:Reads k w a len xs)(n:Nat):Reads k (w.drewN n) a len xs:=
 h.below (below_drewN (Below.refl _ _) n)
theorem Reads.nil{k:IntKind}{w:World}{a:Option Addr}:Reads k w a 0 []:=⟨rfl,.inl rfl⟩
theorem Reads.own{k:IntKind}{w:World}{base e n:Nat}{a:Option Addr}{cap:Nat}{xs:List Nat}(h:w.ownsRow base e 1 (.slice a n cap) n (xs.map fun x:Nat=>Value.int k (x:Int))):
  Reads k w a n xs:=by
 obtain⟨hl,hr⟩:=h;simp at hl;refine⟨hl, ?_⟩;rcases hr with ⟨hv,h0⟩ | ⟨g,cap',cur,hv,_,hg,_,_,_,dP⟩
 ·exact .inl h0
 ·cases hv
  refine .inr ⟨g,0,rfl,(Array.getElem?_eq_some_iff.1 hg).1,fun i hi=> ?_⟩;rw[Nat.zero_add,cell_of_row w g i cur e (0,0) hg];have h2:(cur.toList.take (n*1))[i]?=((xs.map fun x:Nat=>Value.int k (x:Int)))[i]?:=by rw[dP]
  rw[List.getElem?_take,if_pos om_,List.getElem?_map] at h2;rw[Array.getElem?_toList] at h2;rw[h2,List.getD_eq_getElem?_getD,List.getElem?_eq_getElem om_];simp
end
theorem t98{P:Prop}(h:P:=by
 simp[Lit.wf,IntKind.min,IntKind.max,IntKind.signed,IntKind.bits] at h;omega):P:=h
theorem t97{P:Prop}(h:P:=by
 have:=World.block_lt_of_cell? W _ (hcell 0 om_);simpa[Addr.add] using this):P:=h
section
open Go.ChangeShapes Go.WideShapes Go.ChangeAt Go.RowKit
open Go.ChangeMaps (open_string shut_string)
theorem own:ownKnob prog.godebug=none:=by kernel_rfl
theorem laidOut:laidOutB prog=true:=by kernel_rfl
def Yes(w:World)(e:Ending)(w':World):Prop:=e=.returned (.bool true)/\Below w.heap.size w w'
theorem wf_u8(n:Int)(h:(Lit.int .u8 n).wf=true):0<=n/\n<256:=by
 exact t98
theorem wf_i64(n:Int)(h:(Lit.int .i64 n).wf=true): -9223372036854775808<=n/\n<=9223372036854775807:=by
 exact t98
theorem open_uints{H:Type}{enc:TypeId×Value->H}{P:Program}{W:World}{t e:TypeId}{k:IntKind}{M bytes:Nat}{a:Option Addr}{len cap:Nat}{d:DataW H}{p:List MemPlace}{ts:List TypeId}{ds:List (DataW H)}{j:Nat}
  (ht:P.underlying t=some (.slice e)) (he:P.underlying e=some (.int k)) (lI:P.bytesOf e=bytes)
  (hM:∀n:Int,(Lit.int k n).wf=true->0<=n/\n<M)
  (h0:DataW.Trod enc P W 0 (fun _=>true) true t (.slice a len cap) d p)
  (hsz:(DataW.weightsEach P ts ds).all (· <=reachBytes)=true) (rP:ts[j]?=some t) (hds:ds[j]?=some d) (hc:P.cellsOf e=1:=by kernel_rfl):
  ∃xs:List Nat,Reads k W a len xs/\(∀x∈xs,x<M)/\len<=cap/\cap*bytes<=140737488351232:=by
 have jP:=h0;obtain⟨fuel,hf⟩:=h0;rcases open_ints ht he hc hf with ⟨hcs,_⟩ | ⟨x,l,c,zs,hcs,_,hl,hm,hz,hx,hcell,hwz⟩
 ·simp[Value.cells] at hcs;obtain⟨rfl,rfl,rfl⟩:=hcs;exact⟨[],Reads.nil,by simp,Nat.le_refl _,by omega⟩
 ·simp[Value.cells] at hcs;obtain⟨rfl,rfl,rfl⟩:=hcs;simp only[if_true] at hz;have hd:d=.slice (lits k (zs.take len)) (lits k (zs.drop len)):=by
   have:=congrArg Prod.fst hx;simpa using this
  have hs:=sized_slice hsz rP (by rw[hds,hd]) ht;rw[lI] at hs;simp only[lits,List.length_map,List.length_take,List.length_drop,reachBytes,hz] at hs;rw[show min len cap+(cap - len)=cap from by omega] at hs;have au:=jP;refine⟨(zs.take len).map Int.toNat,⟨by simp;omega, ?_⟩, ?_,hl,by simpa using hs⟩
  ·by_cases h:len=0
   ·exact .inl h
   ·right;obtain⟨b,off,spot⟩:=x;have hspot:spot=none:=by simpa[Addr.add] using World.cell?_spot (hcell 0 om_)
    subst hspot;have hb:b<W.heap.size:=by
     exact t97
    refine⟨b,off,rfl,hb,fun i hi=> ?_⟩;have h1:=hcell i om_;rw[Addr.add_lit] at h1;rw[h1];have hi':i<zs.length:=by omega
    have hn:0<=zs[i]:=(hM _ (hwz _ (List.getElem_mem hi'))).1;simp[List.getD,hi,hi'];omega
  ·intro y hy;obtain⟨z,hz',rfl⟩:=List.mem_map.1 hy;have:=hM z (hwz z (List.mem_of_mem_take hz'));omega
theorem ownsRow_slice{w:World}{base e size n:Nat}{v:Value}{xs:List Value}(h:w.ownsRow base e size v n xs):∃a cap,v=.slice a n cap/\n<=cap:=by
 rcases h.2 with ⟨hv,h0⟩ | ⟨g,cap,cur,hv,hb,hg,h1,h2,_⟩
 ·exact⟨none,0,by rw[hv,h0],by omega⟩
 ·exact⟨_,cap,hv,h1⟩
def strOf(xs:List Nat):ByteArray:=strOfNums (xs.map fun x:Nat=>(x:Int))
theorem Reads.str{P:Program}{w:World}{a:Option Addr}{len:Nat}{xs:List Nat}(h:Reads .u8 w a len xs)(src e:TypeId)(hs:P.underlying src=some (.slice e))(he:P.underlying e=some (.int .u8))(cap:Nat):
  ∀dst,P.underlying dst=some .string->(convert src dst (.slice a len cap)).run P w=.ok (.string (strOf xs)) w:=by
 intro dst hd;by_cases h0:len=0
 ·subst h0;obtain rfl:xs=[]:=List.eq_nil_of_length_eq_zero h.1;cases a with
  | none=>exact run_convert_bytes_nil w src e hs he 0 cap dst hd
  | some x=>
   rw[run_convert_bytes_string w src dst e _ 0 cap hs he hd];exact run_bytesToString w x 0 cap [] (by simpa using run_loadCells_list (P:=P) w x [] (fun j v hj=>by simp at hj))
 ·obtain⟨b,off,rfl,_,hc⟩:=h.at (i:=0) om_;refine run_convert_bytes_arg w src e hs he b off len cap _ (by simpa using h.1) (fun i hi=> ?_) dst hd;rw[hc i hi];have:i<xs.length:=by rw[h.1];exact hi
  simp[List.getD,this]
theorem cells_new(w:World)(e:TypeId)(vs:List Value):∀(j:Nat) (u:Value),vs[j]?=some u->(w.alloc (.cells vs.toArray e)).cell? ((⟨w.heap.size,0,none⟩:Addr).add j)=some u:=by
 intro j u h;rw[Addr.add_lit,Nat.zero_add,World.cell?_alloc_new];simpa using h
theorem one_new(w:World)(e:TypeId)(v:Value):∀(j:Nat) (u:Value),[v][j]?=some u->(w.alloc (.cells #[v] e)).cell? ((⟨w.heap.size,0,none⟩:Addr).add j)=some u:=
 cells_new w e [v]
theorem one_cell{v:Value}(h:v.oneCell'=true):∀u∈[v],u.oneCell'=true:=by
 intro u hu;rw[List.mem_singleton] at hu;rw[hu];exact h
end
end Go.Proofs.YtogfefdlffmioaaGreat
