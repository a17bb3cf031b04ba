/-
  DERIVED. GIVEN WITH THE SEED: THE CARDS: each row of YtdlblhoaddfanaaGreatDoorRows.lean that lists a variable, with what it lists TIED to the program's text (the seventh form; the later family's looks); each row that meets fmt, with fmt's text TOLD by the authors' own Lean function (tested against real Go, not proved from fmt's source: count such statements apart). THE CARD IS WHAT COUNTS. Prove the row's statement (the work); the ties are given (YtdlblhoaddfanaaGreatDoorTie.lean); close each card by the builder's one call (the guide's Derived/Test/ToyasCard.lean, 'card_holds'). Laid BY PROGRAM, IN A SANDBOX (cutbox-door.mjs). By AI agents, Wed Nov 11 2026. No macro, syntax, notation, axiom, sorry.
-/
import Derived.Test.YtdlblhoaddfanaaGreatDoorRows
import GoSem.ClaimSeven
namespace Go.Proofs.YtdlblhoaddfanaaGreatDoor
namespace Rows

/-- THE TIED CARD OF 'braidlaw09.DagNames'. -/
def dagNamesCard : Claim7 := { stood := { row := dagNamesRow, standIns := [], harness := (true, "56d1123ca75505deb16427091fb68b5bcbcc322f3f2bee6db6253504de447e3f"), looks := false }, kinds := [], alts := [], laidByText := true, laidKinds := [.data, .data], laidTests := true, laidLooks := .later }
def DagNamesCardSaid : Prop := Claim7.holds Tryz.pinned (.plain (OpenSpec.ofChange dagNamesSpec)) dagNamesCard

/-- THE TIED CARD OF 'braidlaw09.DagMakes'. -/
def dagMakesCard : Claim7 := { stood := { row := dagMakesRow, standIns := [], harness := (true, "56d1123ca75505deb16427091fb68b5bcbcc322f3f2bee6db6253504de447e3f"), looks := false }, kinds := [], alts := [], laidByText := true, laidKinds := [.data, .data], laidTests := true, laidLooks := .later }
def DagMakesCardSaid : Prop := Claim7.holds Tryz.pinned (.plain (OpenSpec.ofChange dagMakesSpec)) dagMakesCard

/-- THE TIED CARD OF 'braidlaw09.DagClosed'. -/
def dagClosedCard : Claim7 := { stood := { row := dagClosedRow, standIns := [], harness := (true, "56d1123ca75505deb16427091fb68b5bcbcc322f3f2bee6db6253504de447e3f"), looks := false }, kinds := [], alts := [], laidByText := true, laidKinds := [.data, .data], laidTests := true, laidLooks := .later }
def DagClosedCardSaid : Prop := Claim7.holds Tryz.pinned (.plain (OpenSpec.ofChange dagClosedSpec)) dagClosedCard

/-- THE TIED CARD OF 'braidlaw09.DagOrders'. -/
def dagOrdersCard : Claim7 := { stood := { row := dagOrdersRow, standIns := [], harness := (true, "56d1123ca75505deb16427091fb68b5bcbcc322f3f2bee6db6253504de447e3f"), looks := false }, kinds := [], alts := [], laidByText := true, laidKinds := [.data, .data], laidTests := true, laidLooks := .later }
def DagOrdersCardSaid : Prop := Claim7.holds Tryz.pinned (.plain (OpenSpec.ofChange dagOrdersSpec)) dagOrdersCard

/-- THE TIED CARD OF 'braidlaw09.DagUnion'. -/
def dagUnionCard : Claim7 := { stood := { row := dagUnionRow, standIns := [], harness := (true, "56d1123ca75505deb16427091fb68b5bcbcc322f3f2bee6db6253504de447e3f"), looks := false }, kinds := [], alts := [], laidByText := true, laidKinds := [.data, .data], laidTests := true, laidLooks := .later }
def DagUnionCardSaid : Prop := Claim7.holds Tryz.pinned (.plain (OpenSpec.ofChange dagUnionSpec)) dagUnionCard

/-- THE TIED CARD OF 'braidlaw06.OpNames'. -/
def opNamesCard : Claim7 := { stood := { row := opNamesRow, standIns := [], harness := (true, "56d1123ca75505deb16427091fb68b5bcbcc322f3f2bee6db6253504de447e3f"), looks := false }, kinds := [], alts := [], laidByText := true, laidKinds := [.data, .data], laidTests := true, laidLooks := .later }
def OpNamesCardSaid : Prop := Claim7.holds Tryz.pinned (.plain (OpenSpec.ofChange opNamesSpec)) opNamesCard

/-- THE SECOND FORM's CARD OF 'braidlaw09.DagNames'. -/
def dagNamesUptoCard : Claim7 := { stood := { row := dagNamesUptoRow, standIns := [], harness := (true, "56d1123ca75505deb16427091fb68b5bcbcc322f3f2bee6db6253504de447e3f"), looks := false }, kinds := [], alts := [], laidByText := true, laidKinds := [.data, .data], laidTests := true, laidLooks := .later }
def DagNamesUptoCardSaid : Prop := Claim7.holds Tryz.pinned (.plain (OpenSpec.upto dagNamesSpec)) dagNamesUptoCard

/-- THE SECOND FORM's CARD OF 'braidlaw09.DagMakes'. -/
def dagMakesUptoCard : Claim7 := { stood := { row := dagMakesUptoRow, standIns := [], harness := (true, "56d1123ca75505deb16427091fb68b5bcbcc322f3f2bee6db6253504de447e3f"), looks := false }, kinds := [], alts := [], laidByText := true, laidKinds := [.data, .data], laidTests := true, laidLooks := .later }
def DagMakesUptoCardSaid : Prop := Claim7.holds Tryz.pinned (.plain (OpenSpec.upto dagMakesSpec)) dagMakesUptoCard

/-- THE SECOND FORM's CARD OF 'braidlaw09.DagClosed'. -/
def dagClosedUptoCard : Claim7 := { stood := { row := dagClosedUptoRow, standIns := [], harness := (true, "56d1123ca75505deb16427091fb68b5bcbcc322f3f2bee6db6253504de447e3f"), looks := false }, kinds := [], alts := [], laidByText := true, laidKinds := [.data, .data], laidTests := true, laidLooks := .later }
def DagClosedUptoCardSaid : Prop := Claim7.holds Tryz.pinned (.plain (OpenSpec.upto dagClosedSpec)) dagClosedUptoCard

/-- THE SECOND FORM's CARD OF 'braidlaw09.DagOrders'. -/
def dagOrdersUptoCard : Claim7 := { stood := { row := dagOrdersUptoRow, standIns := [], harness := (true, "56d1123ca75505deb16427091fb68b5bcbcc322f3f2bee6db6253504de447e3f"), looks := false }, kinds := [], alts := [], laidByText := true, laidKinds := [.data, .data], laidTests := true, laidLooks := .later }
def DagOrdersUptoCardSaid : Prop := Claim7.holds Tryz.pinned (.plain (OpenSpec.upto dagOrdersSpec)) dagOrdersUptoCard

/-- THE SECOND FORM's CARD OF 'braidlaw09.DagUnion'. -/
def dagUnionUptoCard : Claim7 := { stood := { row := dagUnionUptoRow, standIns := [], harness := (true, "56d1123ca75505deb16427091fb68b5bcbcc322f3f2bee6db6253504de447e3f"), looks := false }, kinds := [], alts := [], laidByText := true, laidKinds := [.data, .data], laidTests := true, laidLooks := .later }
def DagUnionUptoCardSaid : Prop := Claim7.holds Tryz.pinned (.plain (OpenSpec.upto dagUnionSpec)) dagUnionUptoCard

/-- THE SECOND FORM's CARD OF 'braidlaw06.OpNames'. -/
def opNamesUptoCard : Claim7 := { stood := { row := opNamesUptoRow, standIns := [], harness := (true, "56d1123ca75505deb16427091fb68b5bcbcc322f3f2bee6db6253504de447e3f"), looks := false }, kinds := [], alts := [], laidByText := true, laidKinds := [.data, .data], laidTests := true, laidLooks := .later }
def OpNamesUptoCardSaid : Prop := Claim7.holds Tryz.pinned (.plain (OpenSpec.upto opNamesSpec)) opNamesUptoCard
end Rows
end Go.Proofs.YtdlblhoaddfanaaGreatDoor
