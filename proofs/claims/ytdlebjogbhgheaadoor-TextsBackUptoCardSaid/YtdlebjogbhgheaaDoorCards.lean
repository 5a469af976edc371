/-
  DERIVED. GIVEN WITH THE SEED: THE CARDS: each row of YtdlebjogbhgheaaDoorRows.lean that lists a variable, with what it lists TIED to the program's text (the seventh form; the later family's looks); each row that meets fmt, with fmt's text TOLD by the authors' own Lean function (tested against real Go, not proved from fmt's source: count such statements apart). THE CARD IS WHAT COUNTS. Prove the row's statement (the work); the ties are given (YtdlebjogbhgheaaDoorTie.lean); close each card by the builder's one call (the guide's Derived/Test/ToyasCard.lean, 'card_holds'). Laid BY PROGRAM, IN A SANDBOX (cutbox-door.mjs). By AI agents, Wed Nov 11 2026. No macro, syntax, notation, axiom, sorry.
-/
import Derived.Test.YtdlebjogbhgheaaDoorRows
import GoSem.ClaimSeven
namespace Go.Proofs.YtdlebjogbhgheaaDoor
namespace Rows

/-- THE TIED CARD OF 'instarlaw04.TextsNums'. -/
def textsNumsCard : Claim7 := { stood := { row := textsNumsRow, standIns := [], harness := (true, "f95954d8141f7c517fd6f9ae04ab06f4d22547df60946037791b1dab734967a9"), looks := true }, kinds := [], alts := [], laidByText := true, laidKinds := [.data, .data, .data, .data, .sentinel, .sentinel, .pinned], laidTests := true, laidLooks := .later }
def TextsNumsCardSaid : Prop := Claim7.holds Tryd.pinned (.plain (OpenSpec.ofChange textsNumsSpec)) textsNumsCard

/-- THE TIED CARD OF 'instarlaw04.TextsBytes'. -/
def textsBytesCard : Claim7 := { stood := { row := textsBytesRow, standIns := [], harness := (true, "f95954d8141f7c517fd6f9ae04ab06f4d22547df60946037791b1dab734967a9"), looks := true }, kinds := [], alts := [], laidByText := true, laidKinds := [.data, .data, .data, .data, .sentinel, .sentinel, .pinned], laidTests := true, laidLooks := .later }
def TextsBytesCardSaid : Prop := Claim7.holds Tryd.pinned (.plain (OpenSpec.ofChange textsBytesSpec)) textsBytesCard

/-- THE TIED CARD OF 'instarlaw04.TextsLines'. -/
def textsLinesCard : Claim7 := { stood := { row := textsLinesRow, standIns := [], harness := (true, "f95954d8141f7c517fd6f9ae04ab06f4d22547df60946037791b1dab734967a9"), looks := true }, kinds := [], alts := [], laidByText := true, laidKinds := [.data, .data, .data, .data, .sentinel, .sentinel, .pinned], laidTests := true, laidLooks := .later }
def TextsLinesCardSaid : Prop := Claim7.holds Tryd.pinned (.plain (OpenSpec.ofChange textsLinesSpec)) textsLinesCard

/-- THE TIED CARD OF 'instarlaw04.TextsBack'. -/
def textsBackCard : Claim7 := { stood := { row := textsBackRow, standIns := [], harness := (true, "f95954d8141f7c517fd6f9ae04ab06f4d22547df60946037791b1dab734967a9"), looks := true }, kinds := [], alts := [], laidByText := true, laidKinds := [.data, .data, .data, .data, .sentinel, .sentinel, .pinned], laidTests := true, laidLooks := .later }
def TextsBackCardSaid : Prop := Claim7.holds Tryd.pinned (.plain (OpenSpec.ofChange textsBackSpec)) textsBackCard

/-- THE SECOND FORM's CARD OF 'instarlaw04.TextsNums'. -/
def textsNumsUptoCard : Claim7 := { stood := { row := textsNumsUptoRow, standIns := [], harness := (true, "f95954d8141f7c517fd6f9ae04ab06f4d22547df60946037791b1dab734967a9"), looks := true }, kinds := [], alts := [], laidByText := true, laidKinds := [.data, .data, .data, .data, .sentinel, .sentinel, .pinned], laidTests := true, laidLooks := .later }
def TextsNumsUptoCardSaid : Prop := Claim7.holds Tryd.pinned (.plain (OpenSpec.upto textsNumsSpec)) textsNumsUptoCard

/-- THE SECOND FORM's CARD OF 'instarlaw04.TextsBytes'. -/
def textsBytesUptoCard : Claim7 := { stood := { row := textsBytesUptoRow, standIns := [], harness := (true, "f95954d8141f7c517fd6f9ae04ab06f4d22547df60946037791b1dab734967a9"), looks := true }, kinds := [], alts := [], laidByText := true, laidKinds := [.data, .data, .data, .data, .sentinel, .sentinel, .pinned], laidTests := true, laidLooks := .later }
def TextsBytesUptoCardSaid : Prop := Claim7.holds Tryd.pinned (.plain (OpenSpec.upto textsBytesSpec)) textsBytesUptoCard

/-- THE SECOND FORM's CARD OF 'instarlaw04.TextsLines'. -/
def textsLinesUptoCard : Claim7 := { stood := { row := textsLinesUptoRow, standIns := [], harness := (true, "f95954d8141f7c517fd6f9ae04ab06f4d22547df60946037791b1dab734967a9"), looks := true }, kinds := [], alts := [], laidByText := true, laidKinds := [.data, .data, .data, .data, .sentinel, .sentinel, .pinned], laidTests := true, laidLooks := .later }
def TextsLinesUptoCardSaid : Prop := Claim7.holds Tryd.pinned (.plain (OpenSpec.upto textsLinesSpec)) textsLinesUptoCard

/-- THE SECOND FORM's CARD OF 'instarlaw04.TextsBack'. -/
def textsBackUptoCard : Claim7 := { stood := { row := textsBackUptoRow, standIns := [], harness := (true, "f95954d8141f7c517fd6f9ae04ab06f4d22547df60946037791b1dab734967a9"), looks := true }, kinds := [], alts := [], laidByText := true, laidKinds := [.data, .data, .data, .data, .sentinel, .sentinel, .pinned], laidTests := true, laidLooks := .later }
def TextsBackUptoCardSaid : Prop := Claim7.holds Tryd.pinned (.plain (OpenSpec.upto textsBackSpec)) textsBackUptoCard
end Rows
end Go.Proofs.YtdlebjogbhgheaaDoor
