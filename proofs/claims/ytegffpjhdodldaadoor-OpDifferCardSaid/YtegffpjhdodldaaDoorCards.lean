/-
  DERIVED. GIVEN WITH THE SEED: THE CARDS: each row of YtegffpjhdodldaaDoorRows.lean that lists a variable, with what it lists TIED to the program's text (the seventh form; the later family's looks); each row that meets fmt, with fmt's text TOLD by the authors' own Lean function (tested against real Go, not proved from fmt's source: count such statements apart). THE CARD IS WHAT COUNTS. Prove the row's statement (the work); the ties are given (YtegffpjhdodldaaDoorTie.lean); close each card by the builder's one call (the guide's Derived/Test/ToyasCard.lean, 'card_holds'). Laid BY PROGRAM, IN A SANDBOX (cutbox-door.mjs). By AI agents, Wed Nov 11 2026. No macro, syntax, notation, axiom, sorry.
-/
import Derived.Test.YtegffpjhdodldaaDoorRows
import GoSem.ClaimSeven
namespace Go.Proofs.YtegffpjhdodldaaDoor
namespace Rows

/-- THE TIED CARD OF 'braidlaw06.OpSigned'. -/
def opSignedCard : Claim7 := { stood := { row := opSignedRow, standIns := [], harness := (true, "2ccb7478bcbdc534ad768616bd61497ae2f709df5c41280b941ca82eae457ed3"), looks := false }, kinds := [], alts := [], laidByText := true, laidKinds := [.data, .data], laidTests := true, laidLooks := .later }
def OpSignedCardSaid : Prop := Claim7.holds Tryd.pinned (.plain (OpenSpec.ofChange opSignedSpec)) opSignedCard

/-- THE TIED CARD OF 'braidlaw06.OpDiffer'. -/
def opDifferCard : Claim7 := { stood := { row := opDifferRow, standIns := [], harness := (true, "2ccb7478bcbdc534ad768616bd61497ae2f709df5c41280b941ca82eae457ed3"), looks := false }, kinds := [], alts := [], laidByText := true, laidKinds := [.data, .data], laidTests := true, laidLooks := .later }
def OpDifferCardSaid : Prop := Claim7.holds Tryd.pinned (.plain (OpenSpec.ofChange opDifferSpec)) opDifferCard

/-- THE TIED CARD OF 'braidlaw01.DigestOn'. -/
def digestOnCard : Claim7 := { stood := { row := digestOnRow, standIns := [], harness := (true, "2ccb7478bcbdc534ad768616bd61497ae2f709df5c41280b941ca82eae457ed3"), looks := false }, kinds := [], alts := [], laidByText := true, laidKinds := [.data, .data], laidTests := true, laidLooks := .later }
def DigestOnCardSaid : Prop := Claim7.holds Tryd.pinned (.plain (OpenSpec.ofChange digestOnSpec)) digestOnCard

/-- THE SECOND FORM's CARD OF 'braidlaw06.OpSigned'. -/
def opSignedUptoCard : Claim7 := { stood := { row := opSignedUptoRow, standIns := [], harness := (true, "2ccb7478bcbdc534ad768616bd61497ae2f709df5c41280b941ca82eae457ed3"), looks := false }, kinds := [], alts := [], laidByText := true, laidKinds := [.data, .data], laidTests := true, laidLooks := .later }
def OpSignedUptoCardSaid : Prop := Claim7.holds Tryd.pinned (.plain (OpenSpec.upto opSignedSpec)) opSignedUptoCard

/-- THE SECOND FORM's CARD OF 'braidlaw06.OpDiffer'. -/
def opDifferUptoCard : Claim7 := { stood := { row := opDifferUptoRow, standIns := [], harness := (true, "2ccb7478bcbdc534ad768616bd61497ae2f709df5c41280b941ca82eae457ed3"), looks := false }, kinds := [], alts := [], laidByText := true, laidKinds := [.data, .data], laidTests := true, laidLooks := .later }
def OpDifferUptoCardSaid : Prop := Claim7.holds Tryd.pinned (.plain (OpenSpec.upto opDifferSpec)) opDifferUptoCard

/-- THE SECOND FORM's CARD OF 'braidlaw01.DigestOn'. -/
def digestOnUptoCard : Claim7 := { stood := { row := digestOnUptoRow, standIns := [], harness := (true, "2ccb7478bcbdc534ad768616bd61497ae2f709df5c41280b941ca82eae457ed3"), looks := false }, kinds := [], alts := [], laidByText := true, laidKinds := [.data, .data], laidTests := true, laidLooks := .later }
def DigestOnUptoCardSaid : Prop := Claim7.holds Tryd.pinned (.plain (OpenSpec.upto digestOnSpec)) digestOnUptoCard
end Rows
end Go.Proofs.YtegffpjhdodldaaDoor
