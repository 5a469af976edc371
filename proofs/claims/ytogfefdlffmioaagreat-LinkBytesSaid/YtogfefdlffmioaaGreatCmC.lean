/- Contracts and lemmas that claims of this seat share: FieldMath. Each says its own conditions. -/
import Derived.Test.YtogfefdlffmioaaGreatCmWord
import Derived.Lib.AppendStr
import Derived.Test.YtogfefdlffmioaaGreatCmB
set_option linter.unusedVariables false
namespace Go.Proofs.YtogfefdlffmioaaGreat
open Go.Proofs.Tryz
namespace field
open Go.RowKit
def bytesOf(s:ByteArray):List Nat:=s.data.toList.map UInt8.toNat
theorem bytesOf_length(s:ByteArray):(bytesOf s).length=s.size:=by unfold bytesOf;rw[List.length_map,Array.length_toList];rfl
theorem bytesOf_lt(s:ByteArray):∀x∈bytesOf s,x<256:=by
 intro x hx;obtain⟨b,_,rfl⟩:=List.mem_map.1 hx;exact b.toNat_lt
theorem bytes_strOf{xs:List Nat}(h:∀x∈xs,x<256):bytesOf (strOf xs)=xs:=by
 unfold strOf strOfNums bytesOf;simp only[List.map_map];conv=>rhs;rw[<-List.map_id xs]
 apply List.map_congr_left;intro x hx;have:=h x hx;simp[UInt8.toNat_ofNat',Nat.mod_eq_of_lt this]
theorem strOf_size(xs:List Nat):(strOf xs).size=xs.length:=by unfold strOf;rw[strOfNums_size];simp
def Fd.Right(f:Fd):Prop:=
 (0<=f.id/\f.id<=255)/\((f.kind=1/\f.lo<=f.hi/\ -1099511627776<=f.lo/\f.hi<=1099511627776/\f.most=0)\/(f.kind=2/\(f.lo=0/\f.hi=0)/\f.most=0)\/
  (f.kind=3/\(f.lo=0/\f.hi=0)/\1<=f.most/\f.most<=1000)\/(f.kind=4/\(f.lo=0/\f.hi=0)/\0<=f.most/\f.most<=32))
instance (f:Fd):Decidable f.Right:=by unfold Fd.Right;infer_instance
def Fd.great(f:Fd):Int:=if f.kind=1 then f.hi else if f.kind=2 then 1 else if f.kind=3 then f.most - 1 else 0
def Fd.long(f:Fd):Int:=if f.kind=4 then f.most else 0
def Fd.Has(f:Fd)(v:Va):Prop:=f.Right/\(f.lo<=v.n/\v.n<=f.great)/\(v.s.size:Int)<=f.long
instance (f:Fd) (v:Va):Decidable (f.Has v):=by unfold Fd.Has;infer_instance
def Fd.Wider(f g:Fd):Prop:=f.Right/\g.Right/\f.kind=g.kind/\g.lo<=f.lo/\f.hi<=g.hi/\f.most<=g.most
instance (f g:Fd):Decidable (f.Wider g):=by unfold Fd.Wider;infer_instance
def wide(n:Nat):Nat:=if n=0 then 0 else if n<256 then 1 else if n<65536 then 2 else if n<16777216 then 3 else if n<4294967296 then 4 else if n<1099511627776 then 5 else 6
theorem wide_le(n:Nat):wide n<=6:=by
 unfold wide;repeat' split
 all_goals omega
theorem wide_div{n:Nat}(h:0<n)(hn:n<281474976710656):wide n=wide (n / 256)+1:=by
 unfold wide;repeat' split
 all_goals omega
def Fd.size(f:Fd):Nat:=if f.Right then(if f.kind=4 then 1+f.most.toNat else wide (f.great - f.lo).toNat) else 0
theorem Fd.size_le(f:Fd):f.size<=33:=by
 unfold Fd.size;split
 ·rename_i h;unfold Fd.Right at h;have:=wide_le (f.great - f.lo).toNat;split <;> omega
 ·omega
def num(xs:List Nat):Nat:=xs.foldl (fun a x=>256*a+x) 0
structure Tk where
 (n:Int) (s:List Nat) (c:Nat) (e:Int)
def Fd.take(f:Fd)(xs:List Nat):Tk:=
 if ¬f.Right then ⟨0,[],0,2⟩ else if f.kind=4 then
  (if xs.length<1 then ⟨0,[],0,5⟩ else if f.most<(xs.getD 0 0:Nat) then ⟨0,[],0,16⟩ else if xs.length<1+xs.getD 0 0 then ⟨0,[],0,5⟩ else ⟨0,(xs.drop 1).take (xs.getD 0 0),1+xs.getD 0 0,0⟩)
 else if xs.length<f.size then ⟨0,[],0,5⟩ else if f.great - f.lo<(num (xs.take f.size):Nat) then ⟨0,[],0,16⟩ else ⟨f.lo+(num (xs.take f.size):Nat),[],f.size,0⟩
theorem Fd.Right.span{f:Fd}(h:f.Right):f.lo<=f.great/\f.great - f.lo<=2199023255552/\ -1099511627776<=f.lo/\f.lo<=1099511627776/\0<=f.long/\f.long<=32:=by
 unfold Fd.Right at h;unfold Fd.great Fd.long;obtain⟨_,h⟩:=h;rcases h with h | h | h | h <;> obtain⟨h1,h2⟩:=h <;> rw[h1] <;> simp <;> omega
theorem Fd.Wider.has{f g:Fd}{v:Va}(h:f.Wider g)(hv:f.Has v):g.Has v:=by
 obtain⟨h1,h2,h3,h4,h5,h6⟩:=h;obtain⟨_,⟨h7,h8⟩,h9⟩:=hv;refine⟨h2,⟨by omega, ?_⟩, ?_⟩
 ·unfold Fd.great at h8 ⊢;rw[<-h3];split <;> rename_i hk
  ·simp[hk] at h8;omega
  ·simp only[hk,if_false] at h8;split <;> rename_i gq
   ·simp[gq] at h8;omega
   ·simp only[gq,if_false] at h8;split <;> rename_i iJ
    ·simp[iJ] at h8;omega
    ·simp only[iJ,if_false] at h8;omega
 ·unfold Fd.long at h9 ⊢;rw[<-h3];split <;> rename_i hk
  ·simp[hk] at h9;omega
  ·simp only[hk,if_false] at h9;omega
end field
end Go.Proofs.YtogfefdlffmioaaGreat
