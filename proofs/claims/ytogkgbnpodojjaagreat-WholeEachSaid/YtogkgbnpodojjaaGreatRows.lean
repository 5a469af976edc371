/-
  No cell of these rows narrows 'for every input' (looked for: loops, veiled, ifaces, maps, wideKeys, modest, calm, conditions, laid).
  DERIVED. THE GIVEN ROWS OF THIS SEAT. 4 by the template 'for every input the law returns true; each argument reads behind the call as it read before'; 0 by the template 'total and deterministic' (their statements: YtogkgbnpodojjaaGreatTotals.lean).
  GIVEN WITH THE SEED: the statements are not yours to turn. If you find one false, say at which input.
  Laid BY PROGRAM, IN A SANDBOX (cutbox-rows.mjs): the forced cells as the released guide's own fill.sh prints them over the translation 846bd698395b29ff… (all of the seat's roots in one cut). By AI agents, Wed Nov 11 2026. No macro, syntax, notation, axiom, sorry.
-/
import Derived.Test.YtogkgbnpodojjaaGreatChecked
import GoSem.Claim
import GoSem.ClaimJoined
import GoSem.ClaimMapViews
import Derived.JoinedTies
import Derived.KernelRfl
namespace Go.Proofs.YtogkgbnpodojjaaGreat
/- THE CELL 'sum', in the pinned program and in every row, IS THE sha256 OF THE DUMP (.gsa) THAT YtogkgbnpodojjaaGreatProg.lean LOADS. Nothing in Lean hashes anything: it is a label: what it is worth is what the hold of that sum in a sandbox is worth. -/
noncomputable def Tryz.pinned : Pinned := { name := "ytogkgbnpodojjaagreat", sum := "846bd698395b29ff072fd99bc26fa7158a86b924344fa46f8a1c18f6a7a42542", checked := Tryz.checked }
namespace Rows
def none {H : Type} : Left H := { results := [], args := [] }

/-- 'instarlaw20.WholeOn': WHATEVER THE INPUT: true; the input reads as it did. -/
def wholeOnSpec : ChangeSpec := { name := "wholeOn", fn := fun _ => fun
  | [d] => { results := [.lit (.bool true)], args := [d] }
  | _ => none }
def wholeOnRow : OpenClaim := { program := "ytogkgbnpodojjaagreat", sum := "846bd698395b29ff072fd99bc26fa7158a86b924344fa46f8a1c18f6a7a42542", func := "instar/instarlaw20.WholeOn", spec := "wholeOn", inPlace := ["slices.overlaps[instar/api.Form]", "slices.overlaps[instar/api.Field]", "slices.overlaps[instar/api.Value]"], unfollowed := true, recurses := true, apart := false }
def WholeOnSaid : Prop := wholeOnRow.holds Tryz.pinned (OpenSpec.ofChange wholeOnSpec)

/-- ITS FALSE NEIGHBOUR: 'it returns false'. Refute it at one input. -/
def wholeOnWrong : ChangeSpec := { name := "wholeOn", fn := fun _ => fun
  | [d] => { results := [.lit (.bool false)], args := [d] }
  | _ => none }
def WholeOnWrongFalsely : Prop := wholeOnRow.holds Tryz.pinned (OpenSpec.ofChange wholeOnWrong)

/-- 'instarlaw20.WholeBacks': WHATEVER THE INPUT: true; the input reads as it did. -/
def wholeBacksSpec : ChangeSpec := { name := "wholeBacks", fn := fun _ => fun
  | [d] => { results := [.lit (.bool true)], args := [d] }
  | _ => none }
def wholeBacksRow : OpenClaim := { program := "ytogkgbnpodojjaagreat", sum := "846bd698395b29ff072fd99bc26fa7158a86b924344fa46f8a1c18f6a7a42542", func := "instar/instarlaw20.WholeBacks", spec := "wholeBacks", inPlace := ["slices.overlaps[instar/api.Form]", "slices.overlaps[instar/api.Field]", "slices.overlaps[instar/api.Value]"], unfollowed := true, recurses := true, apart := false }
def WholeBacksSaid : Prop := wholeBacksRow.holds Tryz.pinned (OpenSpec.ofChange wholeBacksSpec)

/-- ITS FALSE NEIGHBOUR: 'it returns false'. Refute it at one input. -/
def wholeBacksWrong : ChangeSpec := { name := "wholeBacks", fn := fun _ => fun
  | [d] => { results := [.lit (.bool false)], args := [d] }
  | _ => none }
def WholeBacksWrongFalsely : Prop := wholeBacksRow.holds Tryz.pinned (OpenSpec.ofChange wholeBacksWrong)

/-- 'instarlaw20.WholeBack': WHATEVER THE INPUT: true; the input reads as it did. -/
def wholeBackSpec : ChangeSpec := { name := "wholeBack", fn := fun _ => fun
  | [d] => { results := [.lit (.bool true)], args := [d] }
  | _ => none }
def wholeBackRow : OpenClaim := { program := "ytogkgbnpodojjaagreat", sum := "846bd698395b29ff072fd99bc26fa7158a86b924344fa46f8a1c18f6a7a42542", func := "instar/instarlaw20.WholeBack", spec := "wholeBack", inPlace := ["slices.overlaps[instar/api.Form]", "slices.overlaps[instar/api.Field]", "slices.overlaps[instar/api.Value]"], unfollowed := true, recurses := true, apart := false }
def WholeBackSaid : Prop := wholeBackRow.holds Tryz.pinned (OpenSpec.ofChange wholeBackSpec)

/-- ITS FALSE NEIGHBOUR: 'it returns false'. Refute it at one input. -/
def wholeBackWrong : ChangeSpec := { name := "wholeBack", fn := fun _ => fun
  | [d] => { results := [.lit (.bool false)], args := [d] }
  | _ => none }
def WholeBackWrongFalsely : Prop := wholeBackRow.holds Tryz.pinned (OpenSpec.ofChange wholeBackWrong)

/-- 'instarlaw20.WholeEach': WHATEVER THE INPUT: true; the input reads as it did. -/
def wholeEachSpec : ChangeSpec := { name := "wholeEach", fn := fun _ => fun
  | [d1, d2] => { results := [.lit (.bool true)], args := [d1, d2] }
  | _ => none }
def wholeEachRow : OpenClaim := { program := "ytogkgbnpodojjaagreat", sum := "846bd698395b29ff072fd99bc26fa7158a86b924344fa46f8a1c18f6a7a42542", func := "instar/instarlaw20.WholeEach", spec := "wholeEach", inPlace := ["slices.overlaps[instar/api.Form]", "slices.overlaps[instar/api.Field]", "slices.overlaps[instar/api.Value]"], unfollowed := true, recurses := true, apart := false }
def WholeEachSaid : Prop := wholeEachRow.holds Tryz.pinned (OpenSpec.ofChange wholeEachSpec)

/-- ITS FALSE NEIGHBOUR: 'it returns false'. Refute it at one input. -/
def wholeEachWrong : ChangeSpec := { name := "wholeEach", fn := fun _ => fun
  | [d1, d2] => { results := [.lit (.bool false)], args := [d1, d2] }
  | _ => none }
def WholeEachWrongFalsely : Prop := wholeEachRow.holds Tryz.pinned (OpenSpec.ofChange wholeEachWrong)

/- THE SECOND FORM. 'bulk': how many values and letters a reading holds, each counted each time it is reached (what is shared counts as often as it is met; a slice's spare places count too). A statement '..UptoSaid' is the law's where the arguments, and the package variables that the reading takes, are together of bulk at most 1048576: NARROWER than '..Said'. Prove '..Said' where nothing that the law and all that it calls make is longer than what came in: it says more and counts as full. Else prove '..UptoSaid'. A law counts once. -/
mutual
def uptoBulk {H : Type} : DataW H → Nat
  | .lit (.string bytes) => bytes.length + 1
  | .lit _ => 1
  | .nil => 1
  | .ptr d => uptoBulk d + 1
  | .slice elems spare => uptoBulkAll elems + uptoBulkAll spare + 1
  | .agg parts => uptoBulkAll parts + 1
  | .iface _ d => uptoBulk d + 1
  | .map entries => uptoBulkEntries entries + 1
  | .held _ => 1
def uptoBulkAll {H : Type} : List (DataW H) → Nat
  | [] => 0
  | d :: r => uptoBulk d + uptoBulkAll r
def uptoBulkEntries {H : Type} : List (Lit × DataW H) → Nat
  | [] => 0
  | x :: r => uptoBulkEntry x + uptoBulkEntries r
def uptoBulkEntry {H : Type} : Lit × DataW H → Nat
  | (.string bytes, d) => bytes.length + uptoBulk d + 1
  | (_, d) => uptoBulk d + 1
 end
def uptoSmall : (H : Type) → List (DataW H) → Bool := fun _ ds => decide (uptoBulkAll ds ≤ 1048576)
def OpenSpec.upto (s : _root_.Go.ChangeSpec) : _root_.Go.OpenSpec := { _root_.Go.OpenSpec.ofChange s with cond := some uptoSmall }

/-- 'instarlaw20.WholeOn', WHERE WHAT IT READS IS OF BULK AT MOST 1048576: true; the input reads as it did. -/
def wholeOnUptoRow : OpenClaim := { program := "ytogkgbnpodojjaagreat", sum := "846bd698395b29ff072fd99bc26fa7158a86b924344fa46f8a1c18f6a7a42542", func := "instar/instarlaw20.WholeOn", spec := "wholeOn", inPlace := ["slices.overlaps[instar/api.Form]", "slices.overlaps[instar/api.Field]", "slices.overlaps[instar/api.Value]"], unfollowed := true, recurses := true, apart := false, narrowed := true }
def WholeOnUptoSaid : Prop := wholeOnUptoRow.holds Tryz.pinned (OpenSpec.upto wholeOnSpec)

/-- 'instarlaw20.WholeBacks', WHERE WHAT IT READS IS OF BULK AT MOST 1048576: true; the input reads as it did. -/
def wholeBacksUptoRow : OpenClaim := { program := "ytogkgbnpodojjaagreat", sum := "846bd698395b29ff072fd99bc26fa7158a86b924344fa46f8a1c18f6a7a42542", func := "instar/instarlaw20.WholeBacks", spec := "wholeBacks", inPlace := ["slices.overlaps[instar/api.Form]", "slices.overlaps[instar/api.Field]", "slices.overlaps[instar/api.Value]"], unfollowed := true, recurses := true, apart := false, narrowed := true }
def WholeBacksUptoSaid : Prop := wholeBacksUptoRow.holds Tryz.pinned (OpenSpec.upto wholeBacksSpec)

/-- 'instarlaw20.WholeBack', WHERE WHAT IT READS IS OF BULK AT MOST 1048576: true; the input reads as it did. -/
def wholeBackUptoRow : OpenClaim := { program := "ytogkgbnpodojjaagreat", sum := "846bd698395b29ff072fd99bc26fa7158a86b924344fa46f8a1c18f6a7a42542", func := "instar/instarlaw20.WholeBack", spec := "wholeBack", inPlace := ["slices.overlaps[instar/api.Form]", "slices.overlaps[instar/api.Field]", "slices.overlaps[instar/api.Value]"], unfollowed := true, recurses := true, apart := false, narrowed := true }
def WholeBackUptoSaid : Prop := wholeBackUptoRow.holds Tryz.pinned (OpenSpec.upto wholeBackSpec)

/-- 'instarlaw20.WholeEach', WHERE WHAT IT READS IS OF BULK AT MOST 1048576: true; the input reads as it did. -/
def wholeEachUptoRow : OpenClaim := { program := "ytogkgbnpodojjaagreat", sum := "846bd698395b29ff072fd99bc26fa7158a86b924344fa46f8a1c18f6a7a42542", func := "instar/instarlaw20.WholeEach", spec := "wholeEach", inPlace := ["slices.overlaps[instar/api.Form]", "slices.overlaps[instar/api.Field]", "slices.overlaps[instar/api.Value]"], unfollowed := true, recurses := true, apart := false, narrowed := true }
def WholeEachUptoSaid : Prop := wholeEachUptoRow.holds Tryz.pinned (OpenSpec.upto wholeEachSpec)

end Rows
end Go.Proofs.YtogkgbnpodojjaaGreat
