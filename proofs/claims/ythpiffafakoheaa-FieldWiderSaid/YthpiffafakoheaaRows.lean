/-
  No cell of these rows narrows 'for every input' (looked for: loops, veiled, ifaces, maps, wideKeys, modest, calm, conditions, laid).
  DERIVED. THE GIVEN ROWS OF THIS SEAT. 4 by the template 'for every input the law returns true; each argument reads behind the call as it read before'; 0 by the template 'total and deterministic' (their statements: YthpiffafakoheaaTotals.lean).
  GIVEN WITH THE SEED: the statements are not yours to turn. If you find one false, say at which input.
  Laid BY PROGRAM, IN A SANDBOX (cutbox-rows.mjs): the forced cells as the released guide's own fill.sh prints them over the translation b631eb08e9d2c5b9… (all of the seat's roots in one cut). By AI agents, Wed Nov 11 2026. No macro, syntax, notation, axiom, sorry.
-/
import Derived.Test.YthpiffafakoheaaChecked
import GoSem.Claim
import GoSem.ClaimJoined
import GoSem.ClaimMapViews
import Derived.JoinedTies
import Derived.KernelRfl
namespace Go.Proofs.Ythpiffafakoheaa
/- THE CELL 'sum', in the pinned program and in every row, IS THE sha256 OF THE DUMP (.gsa) THAT YthpiffafakoheaaProg.lean LOADS. Nothing in Lean hashes anything: it is a label: what it is worth is what the hold of that sum in a sandbox is worth. -/
noncomputable def Try.pinned : Pinned := { name := "ythpiffafakoheaa", sum := "b631eb08e9d2c5b9f20c63b423364140e6a5e60de49dc7dbdf3e4c65a36b256c", checked := Try.checked }
namespace Rows
def none {H : Type} : Left H := { results := [], args := [] }

/-- 'instarlaw12.FieldTypes': WHATEVER THE INPUT: true; the input reads as it did. -/
def fieldTypesSpec : ChangeSpec := { name := "fieldTypes", fn := fun _ => fun
  | [d1, d2, d3] => { results := [.lit (.bool true)], args := [d1, d2, d3] }
  | _ => none }
def fieldTypesRow : OpenClaim := { program := "ythpiffafakoheaa", sum := "b631eb08e9d2c5b9f20c63b423364140e6a5e60de49dc7dbdf3e4c65a36b256c", func := "instar/instarlaw12.FieldTypes", spec := "fieldTypes", apart := false }
def FieldTypesSaid : Prop := fieldTypesRow.holds Try.pinned (OpenSpec.ofChange fieldTypesSpec)

/-- ITS FALSE NEIGHBOUR: 'it returns false'. Refute it at one input. -/
def fieldTypesWrong : ChangeSpec := { name := "fieldTypes", fn := fun _ => fun
  | [d1, d2, d3] => { results := [.lit (.bool false)], args := [d1, d2, d3] }
  | _ => none }
def FieldTypesWrongFalsely : Prop := fieldTypesRow.holds Try.pinned (OpenSpec.ofChange fieldTypesWrong)

/-- 'instarlaw12.FieldBytes': WHATEVER THE INPUT: true; the input reads as it did. -/
def fieldBytesSpec : ChangeSpec := { name := "fieldBytes", fn := fun _ => fun
  | [d1, d2, d3] => { results := [.lit (.bool true)], args := [d1, d2, d3] }
  | _ => none }
def fieldBytesRow : OpenClaim := { program := "ythpiffafakoheaa", sum := "b631eb08e9d2c5b9f20c63b423364140e6a5e60de49dc7dbdf3e4c65a36b256c", func := "instar/instarlaw12.FieldBytes", spec := "fieldBytes", apart := false }
def FieldBytesSaid : Prop := fieldBytesRow.holds Try.pinned (OpenSpec.ofChange fieldBytesSpec)

/-- ITS FALSE NEIGHBOUR: 'it returns false'. Refute it at one input. -/
def fieldBytesWrong : ChangeSpec := { name := "fieldBytes", fn := fun _ => fun
  | [d1, d2, d3] => { results := [.lit (.bool false)], args := [d1, d2, d3] }
  | _ => none }
def FieldBytesWrongFalsely : Prop := fieldBytesRow.holds Try.pinned (OpenSpec.ofChange fieldBytesWrong)

/-- 'instarlaw12.FieldBack': WHATEVER THE INPUT: true; the input reads as it did. -/
def fieldBackSpec : ChangeSpec := { name := "fieldBack", fn := fun _ => fun
  | [d1, d2, d3] => { results := [.lit (.bool true)], args := [d1, d2, d3] }
  | _ => none }
def fieldBackRow : OpenClaim := { program := "ythpiffafakoheaa", sum := "b631eb08e9d2c5b9f20c63b423364140e6a5e60de49dc7dbdf3e4c65a36b256c", func := "instar/instarlaw12.FieldBack", spec := "fieldBack", apart := false }
def FieldBackSaid : Prop := fieldBackRow.holds Try.pinned (OpenSpec.ofChange fieldBackSpec)

/-- ITS FALSE NEIGHBOUR: 'it returns false'. Refute it at one input. -/
def fieldBackWrong : ChangeSpec := { name := "fieldBack", fn := fun _ => fun
  | [d1, d2, d3] => { results := [.lit (.bool false)], args := [d1, d2, d3] }
  | _ => none }
def FieldBackWrongFalsely : Prop := fieldBackRow.holds Try.pinned (OpenSpec.ofChange fieldBackWrong)

/-- 'instarlaw12.FieldWider': WHATEVER THE INPUT: true; the input reads as it did. -/
def fieldWiderSpec : ChangeSpec := { name := "fieldWider", fn := fun _ => fun
  | [d1, d2, d3] => { results := [.lit (.bool true)], args := [d1, d2, d3] }
  | _ => none }
def fieldWiderRow : OpenClaim := { program := "ythpiffafakoheaa", sum := "b631eb08e9d2c5b9f20c63b423364140e6a5e60de49dc7dbdf3e4c65a36b256c", func := "instar/instarlaw12.FieldWider", spec := "fieldWider", apart := false }
def FieldWiderSaid : Prop := fieldWiderRow.holds Try.pinned (OpenSpec.ofChange fieldWiderSpec)

/-- ITS FALSE NEIGHBOUR: 'it returns false'. Refute it at one input. -/
def fieldWiderWrong : ChangeSpec := { name := "fieldWider", fn := fun _ => fun
  | [d1, d2, d3] => { results := [.lit (.bool false)], args := [d1, d2, d3] }
  | _ => none }
def FieldWiderWrongFalsely : Prop := fieldWiderRow.holds Try.pinned (OpenSpec.ofChange fieldWiderWrong)

/- THE SECOND FORM. 'bulk': how many values and letters a reading holds, each counted each time it is reached (what is shared counts as often as it is met; a slice's spare places count too). A statement '..UptoSaid' is the law's where the arguments, and the package variables that the reading takes, are together of bulk at most 1048576: NARROWER than '..Said'. Prove '..Said' where nothing that the law and all that it calls make is longer than what came in: it says more and counts as full. Else prove '..UptoSaid'. A law counts once. -/
mutual
def uptoBulk {H : Type} : DataW H → Nat
  | .lit (.string bytes) => bytes.length + 1
  | .lit _ => 1
  | .nil => 1
  | .ptr d => uptoBulk d + 1
  | .slice elems spare => uptoBulkAll elems + uptoBulkAll spare + 1
  | .agg parts => uptoBulkAll parts + 1
  | .iface _ d => uptoBulk d + 1
  | .map entries => uptoBulkEntries entries + 1
  | .held _ => 1
def uptoBulkAll {H : Type} : List (DataW H) → Nat
  | [] => 0
  | d :: r => uptoBulk d + uptoBulkAll r
def uptoBulkEntries {H : Type} : List (Lit × DataW H) → Nat
  | [] => 0
  | x :: r => uptoBulkEntry x + uptoBulkEntries r
def uptoBulkEntry {H : Type} : Lit × DataW H → Nat
  | (.string bytes, d) => bytes.length + uptoBulk d + 1
  | (_, d) => uptoBulk d + 1
 end
def uptoSmall : (H : Type) → List (DataW H) → Bool := fun _ ds => decide (uptoBulkAll ds ≤ 1048576)
def OpenSpec.upto (s : _root_.Go.ChangeSpec) : _root_.Go.OpenSpec := { _root_.Go.OpenSpec.ofChange s with cond := some uptoSmall }

/-- 'instarlaw12.FieldTypes', WHERE WHAT IT READS IS OF BULK AT MOST 1048576: true; the input reads as it did. -/
def fieldTypesUptoRow : OpenClaim := { program := "ythpiffafakoheaa", sum := "b631eb08e9d2c5b9f20c63b423364140e6a5e60de49dc7dbdf3e4c65a36b256c", func := "instar/instarlaw12.FieldTypes", spec := "fieldTypes", apart := false, narrowed := true }
def FieldTypesUptoSaid : Prop := fieldTypesUptoRow.holds Try.pinned (OpenSpec.upto fieldTypesSpec)

/-- 'instarlaw12.FieldBytes', WHERE WHAT IT READS IS OF BULK AT MOST 1048576: true; the input reads as it did. -/
def fieldBytesUptoRow : OpenClaim := { program := "ythpiffafakoheaa", sum := "b631eb08e9d2c5b9f20c63b423364140e6a5e60de49dc7dbdf3e4c65a36b256c", func := "instar/instarlaw12.FieldBytes", spec := "fieldBytes", apart := false, narrowed := true }
def FieldBytesUptoSaid : Prop := fieldBytesUptoRow.holds Try.pinned (OpenSpec.upto fieldBytesSpec)

/-- 'instarlaw12.FieldBack', WHERE WHAT IT READS IS OF BULK AT MOST 1048576: true; the input reads as it did. -/
def fieldBackUptoRow : OpenClaim := { program := "ythpiffafakoheaa", sum := "b631eb08e9d2c5b9f20c63b423364140e6a5e60de49dc7dbdf3e4c65a36b256c", func := "instar/instarlaw12.FieldBack", spec := "fieldBack", apart := false, narrowed := true }
def FieldBackUptoSaid : Prop := fieldBackUptoRow.holds Try.pinned (OpenSpec.upto fieldBackSpec)

/-- 'instarlaw12.FieldWider', WHERE WHAT IT READS IS OF BULK AT MOST 1048576: true; the input reads as it did. -/
def fieldWiderUptoRow : OpenClaim := { program := "ythpiffafakoheaa", sum := "b631eb08e9d2c5b9f20c63b423364140e6a5e60de49dc7dbdf3e4c65a36b256c", func := "instar/instarlaw12.FieldWider", spec := "fieldWider", apart := false, narrowed := true }
def FieldWiderUptoSaid : Prop := fieldWiderUptoRow.holds Try.pinned (OpenSpec.upto fieldWiderSpec)

end Rows
end Go.Proofs.Ythpiffafakoheaa
