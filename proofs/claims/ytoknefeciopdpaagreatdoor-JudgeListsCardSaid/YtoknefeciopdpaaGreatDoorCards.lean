/-
  DERIVED. GIVEN WITH THE SEED: THE CARDS: each row of YtoknefeciopdpaaGreatDoorRows.lean that lists a variable, with what it lists TIED to the program's text (the seventh form; the later family's looks); each row that meets fmt, with fmt's text TOLD by the authors' own Lean function (tested against real Go, not proved from fmt's source: count such statements apart). THE CARD IS WHAT COUNTS. Prove the row's statement (the work); the ties are given (YtoknefeciopdpaaGreatDoorTie.lean); close each card by the builder's one call (the guide's Derived/Test/ToyasCard.lean, 'card_holds'). Laid BY PROGRAM, IN A SANDBOX (cutbox-door.mjs). By AI agents, Wed Nov 11 2026. No macro, syntax, notation, axiom, sorry.
-/
import Derived.Test.YtoknefeciopdpaaGreatDoorRows
import GoSem.ClaimSeven
namespace Go.Proofs.YtoknefeciopdpaaGreatDoor
namespace Rows

/-- THE TIED CARD OF 'braidlaw06.OpOne'. -/
def opOneCard : Claim7 := { stood := { row := opOneRow, standIns := [], harness := (true, "09de16b06d6776746a87a7d2873305a81b91a4babbc18c4846ced8069cc6404b"), looks := false }, kinds := [], alts := [], laidByText := true, laidKinds := [.data, .data], laidTests := true, laidLooks := .later }
def OpOneCardSaid : Prop := Claim7.holds Tryz.pinned (.plain (OpenSpec.ofChange opOneSpec)) opOneCard

/-- THE TIED CARD OF 'braidlaw06.OpReads'. -/
def opReadsCard : Claim7 := { stood := { row := opReadsRow, standIns := [], harness := (true, "09de16b06d6776746a87a7d2873305a81b91a4babbc18c4846ced8069cc6404b"), looks := false }, kinds := [], alts := [], laidByText := true, laidKinds := [.data, .data], laidTests := true, laidLooks := .later }
def OpReadsCardSaid : Prop := Claim7.holds Tryz.pinned (.plain (OpenSpec.ofChange opReadsSpec)) opReadsCard

/-- THE TIED CARD OF 'braidlaw06.OpNames'. -/
def opNamesCard : Claim7 := { stood := { row := opNamesRow, standIns := [], harness := (true, "09de16b06d6776746a87a7d2873305a81b91a4babbc18c4846ced8069cc6404b"), looks := false }, kinds := [], alts := [], laidByText := true, laidKinds := [.data, .data], laidTests := true, laidLooks := .later }
def OpNamesCardSaid : Prop := Claim7.holds Tryz.pinned (.plain (OpenSpec.ofChange opNamesSpec)) opNamesCard

/-- THE TIED CARD OF 'braidlaw08.JudgeNames'. -/
def judgeNamesCard : Claim7 := { stood := { row := judgeNamesRow, standIns := [], harness := (true, "09de16b06d6776746a87a7d2873305a81b91a4babbc18c4846ced8069cc6404b"), looks := false }, kinds := [], alts := [], laidByText := true, laidKinds := [.data, .data], laidTests := true, laidLooks := .later }
def JudgeNamesCardSaid : Prop := Claim7.holds Tryz.pinned (.plain (OpenSpec.ofChange judgeNamesSpec)) judgeNamesCard

/-- THE TIED CARD OF 'braidlaw08.JudgeFinds'. -/
def judgeFindsCard : Claim7 := { stood := { row := judgeFindsRow, standIns := [], harness := (true, "09de16b06d6776746a87a7d2873305a81b91a4babbc18c4846ced8069cc6404b"), looks := false }, kinds := [], alts := [], laidByText := true, laidKinds := [.data, .data], laidTests := true, laidLooks := .later }
def JudgeFindsCardSaid : Prop := Claim7.holds Tryz.pinned (.plain (OpenSpec.ofChange judgeFindsSpec)) judgeFindsCard

/-- THE TIED CARD OF 'braidlaw08.JudgeLists'. -/
def judgeListsCard : Claim7 := { stood := { row := judgeListsRow, standIns := [], harness := (true, "09de16b06d6776746a87a7d2873305a81b91a4babbc18c4846ced8069cc6404b"), looks := false }, kinds := [], alts := [], laidByText := true, laidKinds := [.data, .data], laidTests := true, laidLooks := .later }
def JudgeListsCardSaid : Prop := Claim7.holds Tryz.pinned (.plain (OpenSpec.ofChange judgeListsSpec)) judgeListsCard

/-- THE TIED CARD OF 'braidlaw08.JudgeExact'. -/
def judgeExactCard : Claim7 := { stood := { row := judgeExactRow, standIns := [], harness := (true, "09de16b06d6776746a87a7d2873305a81b91a4babbc18c4846ced8069cc6404b"), looks := false }, kinds := [], alts := [], laidByText := true, laidKinds := [.data, .data], laidTests := true, laidLooks := .later }
def JudgeExactCardSaid : Prop := Claim7.holds Tryz.pinned (.plain (OpenSpec.ofChange judgeExactSpec)) judgeExactCard

/-- THE TIED CARD OF 'braidlaw08.JudgeSigned'. -/
def judgeSignedCard : Claim7 := { stood := { row := judgeSignedRow, standIns := [], harness := (true, "09de16b06d6776746a87a7d2873305a81b91a4babbc18c4846ced8069cc6404b"), looks := false }, kinds := [], alts := [], laidByText := true, laidKinds := [.data, .data], laidTests := true, laidLooks := .later }
def JudgeSignedCardSaid : Prop := Claim7.holds Tryz.pinned (.plain (OpenSpec.ofChange judgeSignedSpec)) judgeSignedCard

/-- THE TIED CARD OF 'braidlaw08.JudgeParts'. -/
def judgePartsCard : Claim7 := { stood := { row := judgePartsRow, standIns := [], harness := (true, "09de16b06d6776746a87a7d2873305a81b91a4babbc18c4846ced8069cc6404b"), looks := false }, kinds := [], alts := [], laidByText := true, laidKinds := [.data, .data], laidTests := true, laidLooks := .later }
def JudgePartsCardSaid : Prop := Claim7.holds Tryz.pinned (.plain (OpenSpec.ofChange judgePartsSpec)) judgePartsCard

/-- THE SECOND FORM's CARD OF 'braidlaw06.OpOne'. -/
def opOneUptoCard : Claim7 := { stood := { row := opOneUptoRow, standIns := [], harness := (true, "09de16b06d6776746a87a7d2873305a81b91a4babbc18c4846ced8069cc6404b"), looks := false }, kinds := [], alts := [], laidByText := true, laidKinds := [.data, .data], laidTests := true, laidLooks := .later }
def OpOneUptoCardSaid : Prop := Claim7.holds Tryz.pinned (.plain (OpenSpec.upto opOneSpec)) opOneUptoCard

/-- THE SECOND FORM's CARD OF 'braidlaw06.OpReads'. -/
def opReadsUptoCard : Claim7 := { stood := { row := opReadsUptoRow, standIns := [], harness := (true, "09de16b06d6776746a87a7d2873305a81b91a4babbc18c4846ced8069cc6404b"), looks := false }, kinds := [], alts := [], laidByText := true, laidKinds := [.data, .data], laidTests := true, laidLooks := .later }
def OpReadsUptoCardSaid : Prop := Claim7.holds Tryz.pinned (.plain (OpenSpec.upto opReadsSpec)) opReadsUptoCard

/-- THE SECOND FORM's CARD OF 'braidlaw06.OpNames'. -/
def opNamesUptoCard : Claim7 := { stood := { row := opNamesUptoRow, standIns := [], harness := (true, "09de16b06d6776746a87a7d2873305a81b91a4babbc18c4846ced8069cc6404b"), looks := false }, kinds := [], alts := [], laidByText := true, laidKinds := [.data, .data], laidTests := true, laidLooks := .later }
def OpNamesUptoCardSaid : Prop := Claim7.holds Tryz.pinned (.plain (OpenSpec.upto opNamesSpec)) opNamesUptoCard

/-- THE SECOND FORM's CARD OF 'braidlaw08.JudgeNames'. -/
def judgeNamesUptoCard : Claim7 := { stood := { row := judgeNamesUptoRow, standIns := [], harness := (true, "09de16b06d6776746a87a7d2873305a81b91a4babbc18c4846ced8069cc6404b"), looks := false }, kinds := [], alts := [], laidByText := true, laidKinds := [.data, .data], laidTests := true, laidLooks := .later }
def JudgeNamesUptoCardSaid : Prop := Claim7.holds Tryz.pinned (.plain (OpenSpec.upto judgeNamesSpec)) judgeNamesUptoCard

/-- THE SECOND FORM's CARD OF 'braidlaw08.JudgeFinds'. -/
def judgeFindsUptoCard : Claim7 := { stood := { row := judgeFindsUptoRow, standIns := [], harness := (true, "09de16b06d6776746a87a7d2873305a81b91a4babbc18c4846ced8069cc6404b"), looks := false }, kinds := [], alts := [], laidByText := true, laidKinds := [.data, .data], laidTests := true, laidLooks := .later }
def JudgeFindsUptoCardSaid : Prop := Claim7.holds Tryz.pinned (.plain (OpenSpec.upto judgeFindsSpec)) judgeFindsUptoCard

/-- THE SECOND FORM's CARD OF 'braidlaw08.JudgeLists'. -/
def judgeListsUptoCard : Claim7 := { stood := { row := judgeListsUptoRow, standIns := [], harness := (true, "09de16b06d6776746a87a7d2873305a81b91a4babbc18c4846ced8069cc6404b"), looks := false }, kinds := [], alts := [], laidByText := true, laidKinds := [.data, .data], laidTests := true, laidLooks := .later }
def JudgeListsUptoCardSaid : Prop := Claim7.holds Tryz.pinned (.plain (OpenSpec.upto judgeListsSpec)) judgeListsUptoCard

/-- THE SECOND FORM's CARD OF 'braidlaw08.JudgeExact'. -/
def judgeExactUptoCard : Claim7 := { stood := { row := judgeExactUptoRow, standIns := [], harness := (true, "09de16b06d6776746a87a7d2873305a81b91a4babbc18c4846ced8069cc6404b"), looks := false }, kinds := [], alts := [], laidByText := true, laidKinds := [.data, .data], laidTests := true, laidLooks := .later }
def JudgeExactUptoCardSaid : Prop := Claim7.holds Tryz.pinned (.plain (OpenSpec.upto judgeExactSpec)) judgeExactUptoCard

/-- THE SECOND FORM's CARD OF 'braidlaw08.JudgeSigned'. -/
def judgeSignedUptoCard : Claim7 := { stood := { row := judgeSignedUptoRow, standIns := [], harness := (true, "09de16b06d6776746a87a7d2873305a81b91a4babbc18c4846ced8069cc6404b"), looks := false }, kinds := [], alts := [], laidByText := true, laidKinds := [.data, .data], laidTests := true, laidLooks := .later }
def JudgeSignedUptoCardSaid : Prop := Claim7.holds Tryz.pinned (.plain (OpenSpec.upto judgeSignedSpec)) judgeSignedUptoCard

/-- THE SECOND FORM's CARD OF 'braidlaw08.JudgeParts'. -/
def judgePartsUptoCard : Claim7 := { stood := { row := judgePartsUptoRow, standIns := [], harness := (true, "09de16b06d6776746a87a7d2873305a81b91a4babbc18c4846ced8069cc6404b"), looks := false }, kinds := [], alts := [], laidByText := true, laidKinds := [.data, .data], laidTests := true, laidLooks := .later }
def JudgePartsUptoCardSaid : Prop := Claim7.holds Tryz.pinned (.plain (OpenSpec.upto judgePartsSpec)) judgePartsUptoCard
end Rows
end Go.Proofs.YtoknefeciopdpaaGreatDoor
