/-
  DERIVED. GIVEN WITH THE SEED: THE CARDS: each row of YtfaojjleapenaabGreatDoorRows.lean that lists a variable, with what it lists TIED to the program's text (the seventh form; the later family's looks); each row that meets fmt, with fmt's text TOLD by the authors' own Lean function (tested against real Go, not proved from fmt's source: count such statements apart). THE CARD IS WHAT COUNTS. Prove the row's statement (the work); the ties are given (YtfaojjleapenaabGreatDoorTie.lean); close each card by the builder's one call (the guide's Derived/Test/ToyasCard.lean, 'card_holds'). Laid BY PROGRAM, IN A SANDBOX (cutbox-door.mjs). By AI agents, Wed Nov 11 2026. No macro, syntax, notation, axiom, sorry.
-/
import Derived.Test.YtfaojjleapenaabGreatDoorRows
import GoSem.ClaimSeven
namespace Go.Proofs.YtfaojjleapenaabGreatDoor
namespace Rows

/-- THE TIED CARD OF 'braidlaw08.JudgeNames'. -/
def judgeNamesCard : Claim7 := { stood := { row := judgeNamesRow, standIns := [], harness := (true, "1788cde66f52002aa6f8c95198628b3f5eb21096bf27dc6eae5a6a343a866a04"), looks := false }, kinds := [], alts := [], laidByText := true, laidKinds := [.data, .data], laidTests := true, laidLooks := .later }
def JudgeNamesCardSaid : Prop := Claim7.holds Tryz.pinned (.plain (OpenSpec.ofChange judgeNamesSpec)) judgeNamesCard

/-- THE TIED CARD OF 'braidlaw06.OpNames'. -/
def opNamesCard : Claim7 := { stood := { row := opNamesRow, standIns := [], harness := (true, "1788cde66f52002aa6f8c95198628b3f5eb21096bf27dc6eae5a6a343a866a04"), looks := false }, kinds := [], alts := [], laidByText := true, laidKinds := [.data, .data], laidTests := true, laidLooks := .later }
def OpNamesCardSaid : Prop := Claim7.holds Tryz.pinned (.plain (OpenSpec.ofChange opNamesSpec)) opNamesCard

/-- THE TIED CARD OF 'braidtop.TopSign'. -/
def topSignCard : Claim7 := { stood := { row := topSignRow, standIns := [], harness := (true, "1788cde66f52002aa6f8c95198628b3f5eb21096bf27dc6eae5a6a343a866a04"), looks := false }, kinds := [], alts := [], laidByText := true, laidKinds := [.data, .data], laidTests := true, laidLooks := .later }
def TopSignCardSaid : Prop := Claim7.holds Tryz.pinned (.plain (OpenSpec.ofChange topSignSpec)) topSignCard

/-- THE SECOND FORM's CARD OF 'braidlaw08.JudgeNames'. -/
def judgeNamesUptoCard : Claim7 := { stood := { row := judgeNamesUptoRow, standIns := [], harness := (true, "1788cde66f52002aa6f8c95198628b3f5eb21096bf27dc6eae5a6a343a866a04"), looks := false }, kinds := [], alts := [], laidByText := true, laidKinds := [.data, .data], laidTests := true, laidLooks := .later }
def JudgeNamesUptoCardSaid : Prop := Claim7.holds Tryz.pinned (.plain (OpenSpec.upto judgeNamesSpec)) judgeNamesUptoCard

/-- THE SECOND FORM's CARD OF 'braidlaw06.OpNames'. -/
def opNamesUptoCard : Claim7 := { stood := { row := opNamesUptoRow, standIns := [], harness := (true, "1788cde66f52002aa6f8c95198628b3f5eb21096bf27dc6eae5a6a343a866a04"), looks := false }, kinds := [], alts := [], laidByText := true, laidKinds := [.data, .data], laidTests := true, laidLooks := .later }
def OpNamesUptoCardSaid : Prop := Claim7.holds Tryz.pinned (.plain (OpenSpec.upto opNamesSpec)) opNamesUptoCard

/-- THE SECOND FORM's CARD OF 'braidtop.TopSign'. -/
def topSignUptoCard : Claim7 := { stood := { row := topSignUptoRow, standIns := [], harness := (true, "1788cde66f52002aa6f8c95198628b3f5eb21096bf27dc6eae5a6a343a866a04"), looks := false }, kinds := [], alts := [], laidByText := true, laidKinds := [.data, .data], laidTests := true, laidLooks := .later }
def TopSignUptoCardSaid : Prop := Claim7.holds Tryz.pinned (.plain (OpenSpec.upto topSignSpec)) topSignUptoCard
end Rows
end Go.Proofs.YtfaojjleapenaabGreatDoor
