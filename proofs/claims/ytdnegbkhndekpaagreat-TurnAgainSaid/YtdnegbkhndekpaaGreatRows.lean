/-
  No cell of these rows narrows 'for every input' (looked for: loops, veiled, ifaces, maps, wideKeys, modest, calm, conditions, laid).
  DERIVED. THE GIVEN ROWS OF THIS SEAT. 3 by the template 'for every input the law returns true; each argument reads behind the call as it read before'; 0 by the template 'total and deterministic' (their statements: YtdnegbkhndekpaaGreatTotals.lean).
  GIVEN WITH THE SEED: the statements are not yours to turn. If you find one false, say at which input.
  Laid BY PROGRAM, IN A SANDBOX (cutbox-rows.mjs): the forced cells as the released guide's own fill.sh prints them over the translation 954044085d004248… (all of the seat's roots in one cut). By AI agents, Wed Nov 11 2026. No macro, syntax, notation, axiom, sorry.
-/
import Derived.Test.YtdnegbkhndekpaaGreatChecked
import GoSem.Claim
import GoSem.ClaimJoined
import GoSem.ClaimMapViews
import Derived.JoinedTies
import Derived.KernelRfl
namespace Go.Proofs.YtdnegbkhndekpaaGreat
/- THE CELL 'sum', in the pinned program and in every row, IS THE sha256 OF THE DUMP (.gsa) THAT YtdnegbkhndekpaaGreatProg.lean LOADS. Nothing in Lean hashes anything: it is a label: what it is worth is what the hold of that sum in a sandbox is worth. -/
noncomputable def Tryz.pinned : Pinned := { name := "ytdnegbkhndekpaagreat", sum := "954044085d004248127a66d7eea0017ac828fe6d39f0533e14649892e26f98d4", checked := Tryz.checked }
namespace Rows
def none {H : Type} : Left H := { results := [], args := [] }

/-- 'instarlaw19.TurnOn': WHATEVER THE INPUT: true; the input reads as it did. -/
def turnOnSpec : ChangeSpec := { name := "turnOn", fn := fun _ => fun
  | [d] => { results := [.lit (.bool true)], args := [d] }
  | _ => none }
def turnOnRow : OpenClaim := { program := "ytdnegbkhndekpaagreat", sum := "954044085d004248127a66d7eea0017ac828fe6d39f0533e14649892e26f98d4", func := "instar/instarlaw19.TurnOn", spec := "turnOn", inPlace := ["slices.overlaps[instar/api.Form]", "slices.overlaps[instar/api.Field]", "slices.overlaps[instar/api.Value]"], unfollowed := true, recurses := true, apart := false }
def TurnOnSaid : Prop := turnOnRow.holds Tryz.pinned (OpenSpec.ofChange turnOnSpec)

/-- ITS FALSE NEIGHBOUR: 'it returns false'. Refute it at one input. -/
def turnOnWrong : ChangeSpec := { name := "turnOn", fn := fun _ => fun
  | [d] => { results := [.lit (.bool false)], args := [d] }
  | _ => none }
def TurnOnWrongFalsely : Prop := turnOnRow.holds Tryz.pinned (OpenSpec.ofChange turnOnWrong)

/-- 'instarlaw19.TurnBack': WHATEVER THE INPUT: true; the input reads as it did. -/
def turnBackSpec : ChangeSpec := { name := "turnBack", fn := fun _ => fun
  | [d] => { results := [.lit (.bool true)], args := [d] }
  | _ => none }
def turnBackRow : OpenClaim := { program := "ytdnegbkhndekpaagreat", sum := "954044085d004248127a66d7eea0017ac828fe6d39f0533e14649892e26f98d4", func := "instar/instarlaw19.TurnBack", spec := "turnBack", inPlace := ["slices.overlaps[instar/api.Form]", "slices.overlaps[instar/api.Field]", "slices.overlaps[instar/api.Value]"], unfollowed := true, recurses := true, apart := false }
def TurnBackSaid : Prop := turnBackRow.holds Tryz.pinned (OpenSpec.ofChange turnBackSpec)

/-- ITS FALSE NEIGHBOUR: 'it returns false'. Refute it at one input. -/
def turnBackWrong : ChangeSpec := { name := "turnBack", fn := fun _ => fun
  | [d] => { results := [.lit (.bool false)], args := [d] }
  | _ => none }
def TurnBackWrongFalsely : Prop := turnBackRow.holds Tryz.pinned (OpenSpec.ofChange turnBackWrong)

/-- 'instarlaw19.TurnAgain': WHATEVER THE INPUT: true; the input reads as it did. -/
def turnAgainSpec : ChangeSpec := { name := "turnAgain", fn := fun _ => fun
  | [d1, d2, d3] => { results := [.lit (.bool true)], args := [d1, d2, d3] }
  | _ => none }
def turnAgainRow : OpenClaim := { program := "ytdnegbkhndekpaagreat", sum := "954044085d004248127a66d7eea0017ac828fe6d39f0533e14649892e26f98d4", func := "instar/instarlaw19.TurnAgain", spec := "turnAgain", inPlace := ["slices.overlaps[instar/api.Form]", "slices.overlaps[instar/api.Field]", "slices.overlaps[instar/api.Value]"], unfollowed := true, recurses := true, apart := false }
def TurnAgainSaid : Prop := turnAgainRow.holds Tryz.pinned (OpenSpec.ofChange turnAgainSpec)

/-- ITS FALSE NEIGHBOUR: 'it returns false'. Refute it at one input. -/
def turnAgainWrong : ChangeSpec := { name := "turnAgain", fn := fun _ => fun
  | [d1, d2, d3] => { results := [.lit (.bool false)], args := [d1, d2, d3] }
  | _ => none }
def TurnAgainWrongFalsely : Prop := turnAgainRow.holds Tryz.pinned (OpenSpec.ofChange turnAgainWrong)

/- THE SECOND FORM. 'bulk': how many values and letters a reading holds, each counted each time it is reached (what is shared counts as often as it is met; a slice's spare places count too). A statement '..UptoSaid' is the law's where the arguments, and the package variables that the reading takes, are together of bulk at most 1048576: NARROWER than '..Said'. Prove '..Said' where nothing that the law and all that it calls make is longer than what came in: it says more and counts as full. Else prove '..UptoSaid'. A law counts once. -/
mutual
def uptoBulk {H : Type} : DataW H → Nat
  | .lit (.string bytes) => bytes.length + 1
  | .lit _ => 1
  | .nil => 1
  | .ptr d => uptoBulk d + 1
  | .slice elems spare => uptoBulkAll elems + uptoBulkAll spare + 1
  | .agg parts => uptoBulkAll parts + 1
  | .iface _ d => uptoBulk d + 1
  | .map entries => uptoBulkEntries entries + 1
  | .held _ => 1
def uptoBulkAll {H : Type} : List (DataW H) → Nat
  | [] => 0
  | d :: r => uptoBulk d + uptoBulkAll r
def uptoBulkEntries {H : Type} : List (Lit × DataW H) → Nat
  | [] => 0
  | x :: r => uptoBulkEntry x + uptoBulkEntries r
def uptoBulkEntry {H : Type} : Lit × DataW H → Nat
  | (.string bytes, d) => bytes.length + uptoBulk d + 1
  | (_, d) => uptoBulk d + 1
 end
def uptoSmall : (H : Type) → List (DataW H) → Bool := fun _ ds => decide (uptoBulkAll ds ≤ 1048576)
def OpenSpec.upto (s : _root_.Go.ChangeSpec) : _root_.Go.OpenSpec := { _root_.Go.OpenSpec.ofChange s with cond := some uptoSmall }

/-- 'instarlaw19.TurnOn', WHERE WHAT IT READS IS OF BULK AT MOST 1048576: true; the input reads as it did. -/
def turnOnUptoRow : OpenClaim := { program := "ytdnegbkhndekpaagreat", sum := "954044085d004248127a66d7eea0017ac828fe6d39f0533e14649892e26f98d4", func := "instar/instarlaw19.TurnOn", spec := "turnOn", inPlace := ["slices.overlaps[instar/api.Form]", "slices.overlaps[instar/api.Field]", "slices.overlaps[instar/api.Value]"], unfollowed := true, recurses := true, apart := false, narrowed := true }
def TurnOnUptoSaid : Prop := turnOnUptoRow.holds Tryz.pinned (OpenSpec.upto turnOnSpec)

/-- 'instarlaw19.TurnBack', WHERE WHAT IT READS IS OF BULK AT MOST 1048576: true; the input reads as it did. -/
def turnBackUptoRow : OpenClaim := { program := "ytdnegbkhndekpaagreat", sum := "954044085d004248127a66d7eea0017ac828fe6d39f0533e14649892e26f98d4", func := "instar/instarlaw19.TurnBack", spec := "turnBack", inPlace := ["slices.overlaps[instar/api.Form]", "slices.overlaps[instar/api.Field]", "slices.overlaps[instar/api.Value]"], unfollowed := true, recurses := true, apart := false, narrowed := true }
def TurnBackUptoSaid : Prop := turnBackUptoRow.holds Tryz.pinned (OpenSpec.upto turnBackSpec)

/-- 'instarlaw19.TurnAgain', WHERE WHAT IT READS IS OF BULK AT MOST 1048576: true; the input reads as it did. -/
def turnAgainUptoRow : OpenClaim := { program := "ytdnegbkhndekpaagreat", sum := "954044085d004248127a66d7eea0017ac828fe6d39f0533e14649892e26f98d4", func := "instar/instarlaw19.TurnAgain", spec := "turnAgain", inPlace := ["slices.overlaps[instar/api.Form]", "slices.overlaps[instar/api.Field]", "slices.overlaps[instar/api.Value]"], unfollowed := true, recurses := true, apart := false, narrowed := true }
def TurnAgainUptoSaid : Prop := turnAgainUptoRow.holds Tryz.pinned (OpenSpec.upto turnAgainSpec)

end Rows
end Go.Proofs.YtdnegbkhndekpaaGreat
