/-
  No cell of these rows narrows 'for every input' (looked for: loops, veiled, ifaces, maps, wideKeys, modest, calm, conditions, laid).
  DERIVED. THE GIVEN ROWS OF THIS SEAT. 4 by the template 'for every input the law returns true; each argument reads behind the call as it read before'; 0 by the template 'total and deterministic' (their statements: YtcgfinfafphapaaTotals.lean).
  GIVEN WITH THE SEED: the statements are not yours to turn. If you find one false, say at which input.
  Laid BY PROGRAM, IN A SANDBOX (cutbox-rows.mjs): the forced cells as the released guide's own fill.sh prints them over the translation bf1f882198127dcd… (all of the seat's roots in one cut). By AI agents, Wed Nov 11 2026. No macro, syntax, notation, axiom, sorry.
-/
import Derived.Test.YtcgfinfafphapaaChecked
import GoSem.Claim
import GoSem.ClaimJoined
import GoSem.ClaimMapViews
import Derived.JoinedTies
import Derived.KernelRfl
namespace Go.Proofs.Ytcgfinfafphapaa
/- THE CELL 'sum', in the pinned program and in every row, IS THE sha256 OF THE DUMP (.gsa) THAT YtcgfinfafphapaaProg.lean LOADS. Nothing in Lean hashes anything: it is a label: what it is worth is what the hold of that sum in a sandbox is worth. -/
noncomputable def Try.pinned : Pinned := { name := "ytcgfinfafphapaa", sum := "bf1f882198127dcd38566766b47ff83659557db38059e24d0e6f01ffd6eee45d", checked := Try.checked }
namespace Rows
def none {H : Type} : Left H := { results := [], args := [] }

/-- 'instarlaw02.ZerosSums': WHATEVER THE INPUT: true; the input reads as it did. -/
def zerosSumsSpec : ChangeSpec := { name := "zerosSums", fn := fun _ => fun
  | [d] => { results := [.lit (.bool true)], args := [d] }
  | _ => none }
def zerosSumsRow : OpenClaim := { program := "ytcgfinfafphapaa", sum := "bf1f882198127dcd38566766b47ff83659557db38059e24d0e6f01ffd6eee45d", func := "instar/instarlaw02.ZerosSums", spec := "zerosSums", apart := false }
def ZerosSumsSaid : Prop := zerosSumsRow.holds Try.pinned (OpenSpec.ofChange zerosSumsSpec)

/-- ITS FALSE NEIGHBOUR: 'it returns false'. Refute it at one input. -/
def zerosSumsWrong : ChangeSpec := { name := "zerosSums", fn := fun _ => fun
  | [d] => { results := [.lit (.bool false)], args := [d] }
  | _ => none }
def ZerosSumsWrongFalsely : Prop := zerosSumsRow.holds Try.pinned (OpenSpec.ofChange zerosSumsWrong)

/-- 'instarlaw02.ZerosTwins': WHATEVER THE INPUT: true; the input reads as it did. -/
def zerosTwinsSpec : ChangeSpec := { name := "zerosTwins", fn := fun _ => fun
  | [d1, d2] => { results := [.lit (.bool true)], args := [d1, d2] }
  | _ => none }
def zerosTwinsRow : OpenClaim := { program := "ytcgfinfafphapaa", sum := "bf1f882198127dcd38566766b47ff83659557db38059e24d0e6f01ffd6eee45d", func := "instar/instarlaw02.ZerosTwins", spec := "zerosTwins", apart := false }
def ZerosTwinsSaid : Prop := zerosTwinsRow.holds Try.pinned (OpenSpec.ofChange zerosTwinsSpec)

/-- ITS FALSE NEIGHBOUR: 'it returns false'. Refute it at one input. -/
def zerosTwinsWrong : ChangeSpec := { name := "zerosTwins", fn := fun _ => fun
  | [d1, d2] => { results := [.lit (.bool false)], args := [d1, d2] }
  | _ => none }
def ZerosTwinsWrongFalsely : Prop := zerosTwinsRow.holds Try.pinned (OpenSpec.ofChange zerosTwinsWrong)

/-- 'instarlaw02.ZerosSure': WHATEVER THE INPUT: true; the input reads as it did. -/
def zerosSureSpec : ChangeSpec := { name := "zerosSure", fn := fun _ => fun
  | [d1, d2] => { results := [.lit (.bool true)], args := [d1, d2] }
  | _ => none }
def zerosSureRow : OpenClaim := { program := "ytcgfinfafphapaa", sum := "bf1f882198127dcd38566766b47ff83659557db38059e24d0e6f01ffd6eee45d", func := "instar/instarlaw02.ZerosSure", spec := "zerosSure", apart := false }
def ZerosSureSaid : Prop := zerosSureRow.holds Try.pinned (OpenSpec.ofChange zerosSureSpec)

/-- ITS FALSE NEIGHBOUR: 'it returns false'. Refute it at one input. -/
def zerosSureWrong : ChangeSpec := { name := "zerosSure", fn := fun _ => fun
  | [d1, d2] => { results := [.lit (.bool false)], args := [d1, d2] }
  | _ => none }
def ZerosSureWrongFalsely : Prop := zerosSureRow.holds Try.pinned (OpenSpec.ofChange zerosSureWrong)

/-- 'instarlaw02.ZerosOne': WHATEVER THE INPUT: true; the input reads as it did. -/
def zerosOneSpec : ChangeSpec := { name := "zerosOne", fn := fun _ => fun
  | [d1, d2] => { results := [.lit (.bool true)], args := [d1, d2] }
  | _ => none }
def zerosOneRow : OpenClaim := { program := "ytcgfinfafphapaa", sum := "bf1f882198127dcd38566766b47ff83659557db38059e24d0e6f01ffd6eee45d", func := "instar/instarlaw02.ZerosOne", spec := "zerosOne", apart := false }
def ZerosOneSaid : Prop := zerosOneRow.holds Try.pinned (OpenSpec.ofChange zerosOneSpec)

/-- ITS FALSE NEIGHBOUR: 'it returns false'. Refute it at one input. -/
def zerosOneWrong : ChangeSpec := { name := "zerosOne", fn := fun _ => fun
  | [d1, d2] => { results := [.lit (.bool false)], args := [d1, d2] }
  | _ => none }
def ZerosOneWrongFalsely : Prop := zerosOneRow.holds Try.pinned (OpenSpec.ofChange zerosOneWrong)

/- THE SECOND FORM. 'bulk': how many values and letters a reading holds, each counted each time it is reached (what is shared counts as often as it is met; a slice's spare places count too). A statement '..UptoSaid' is the law's where the arguments, and the package variables that the reading takes, are together of bulk at most 1048576: NARROWER than '..Said'. Prove '..Said' where nothing that the law and all that it calls make is longer than what came in: it says more and counts as full. Else prove '..UptoSaid'. A law counts once. -/
mutual
def uptoBulk {H : Type} : DataW H → Nat
  | .lit (.string bytes) => bytes.length + 1
  | .lit _ => 1
  | .nil => 1
  | .ptr d => uptoBulk d + 1
  | .slice elems spare => uptoBulkAll elems + uptoBulkAll spare + 1
  | .agg parts => uptoBulkAll parts + 1
  | .iface _ d => uptoBulk d + 1
  | .map entries => uptoBulkEntries entries + 1
  | .held _ => 1
def uptoBulkAll {H : Type} : List (DataW H) → Nat
  | [] => 0
  | d :: r => uptoBulk d + uptoBulkAll r
def uptoBulkEntries {H : Type} : List (Lit × DataW H) → Nat
  | [] => 0
  | x :: r => uptoBulkEntry x + uptoBulkEntries r
def uptoBulkEntry {H : Type} : Lit × DataW H → Nat
  | (.string bytes, d) => bytes.length + uptoBulk d + 1
  | (_, d) => uptoBulk d + 1
 end
def uptoSmall : (H : Type) → List (DataW H) → Bool := fun _ ds => decide (uptoBulkAll ds ≤ 1048576)
def OpenSpec.upto (s : _root_.Go.ChangeSpec) : _root_.Go.OpenSpec := { _root_.Go.OpenSpec.ofChange s with cond := some uptoSmall }

/-- 'instarlaw02.ZerosSums', WHERE WHAT IT READS IS OF BULK AT MOST 1048576: true; the input reads as it did. -/
def zerosSumsUptoRow : OpenClaim := { program := "ytcgfinfafphapaa", sum := "bf1f882198127dcd38566766b47ff83659557db38059e24d0e6f01ffd6eee45d", func := "instar/instarlaw02.ZerosSums", spec := "zerosSums", apart := false, narrowed := true }
def ZerosSumsUptoSaid : Prop := zerosSumsUptoRow.holds Try.pinned (OpenSpec.upto zerosSumsSpec)

/-- 'instarlaw02.ZerosTwins', WHERE WHAT IT READS IS OF BULK AT MOST 1048576: true; the input reads as it did. -/
def zerosTwinsUptoRow : OpenClaim := { program := "ytcgfinfafphapaa", sum := "bf1f882198127dcd38566766b47ff83659557db38059e24d0e6f01ffd6eee45d", func := "instar/instarlaw02.ZerosTwins", spec := "zerosTwins", apart := false, narrowed := true }
def ZerosTwinsUptoSaid : Prop := zerosTwinsUptoRow.holds Try.pinned (OpenSpec.upto zerosTwinsSpec)

/-- 'instarlaw02.ZerosSure', WHERE WHAT IT READS IS OF BULK AT MOST 1048576: true; the input reads as it did. -/
def zerosSureUptoRow : OpenClaim := { program := "ytcgfinfafphapaa", sum := "bf1f882198127dcd38566766b47ff83659557db38059e24d0e6f01ffd6eee45d", func := "instar/instarlaw02.ZerosSure", spec := "zerosSure", apart := false, narrowed := true }
def ZerosSureUptoSaid : Prop := zerosSureUptoRow.holds Try.pinned (OpenSpec.upto zerosSureSpec)

/-- 'instarlaw02.ZerosOne', WHERE WHAT IT READS IS OF BULK AT MOST 1048576: true; the input reads as it did. -/
def zerosOneUptoRow : OpenClaim := { program := "ytcgfinfafphapaa", sum := "bf1f882198127dcd38566766b47ff83659557db38059e24d0e6f01ffd6eee45d", func := "instar/instarlaw02.ZerosOne", spec := "zerosOne", apart := false, narrowed := true }
def ZerosOneUptoSaid : Prop := zerosOneUptoRow.holds Try.pinned (OpenSpec.upto zerosOneSpec)

end Rows
end Go.Proofs.Ytcgfinfafphapaa
