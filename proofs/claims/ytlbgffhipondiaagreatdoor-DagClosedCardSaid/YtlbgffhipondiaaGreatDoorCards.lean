/-
  DERIVED. GIVEN WITH THE SEED: THE CARDS: each row of YtlbgffhipondiaaGreatDoorRows.lean that lists a variable, with what it lists TIED to the program's text (the seventh form; the later family's looks); each row that meets fmt, with fmt's text TOLD by the authors' own Lean function (tested against real Go, not proved from fmt's source: count such statements apart). THE CARD IS WHAT COUNTS. Prove the row's statement (the work); the ties are given (YtlbgffhipondiaaGreatDoorTie.lean); close each card by the builder's one call (the guide's Derived/Test/ToyasCard.lean, 'card_holds'). Laid BY PROGRAM, IN A SANDBOX (cutbox-door.mjs). By AI agents, Wed Nov 11 2026. No macro, syntax, notation, axiom, sorry.
-/
import Derived.Test.YtlbgffhipondiaaGreatDoorRows
import GoSem.ClaimSeven
namespace Go.Proofs.YtlbgffhipondiaaGreatDoor
namespace Rows

/-- THE TIED CARD OF 'braidlaw09.DagNames'. -/
def dagNamesCard : Claim7 := { stood := { row := dagNamesRow, standIns := [], harness := (true, "c9dfcaec4c63dfc895f415f557422a99cd69970e9db71ab4365ae1edef36b7c2"), looks := false }, kinds := [], alts := [], laidByText := true, laidKinds := [.data, .data], laidTests := true, laidLooks := .later }
def DagNamesCardSaid : Prop := Claim7.holds Tryz.pinned (.plain (OpenSpec.ofChange dagNamesSpec)) dagNamesCard

/-- THE TIED CARD OF 'braidlaw09.DagMakes'. -/
def dagMakesCard : Claim7 := { stood := { row := dagMakesRow, standIns := [], harness := (true, "c9dfcaec4c63dfc895f415f557422a99cd69970e9db71ab4365ae1edef36b7c2"), looks := false }, kinds := [], alts := [], laidByText := true, laidKinds := [.data, .data], laidTests := true, laidLooks := .later }
def DagMakesCardSaid : Prop := Claim7.holds Tryz.pinned (.plain (OpenSpec.ofChange dagMakesSpec)) dagMakesCard

/-- THE TIED CARD OF 'braidlaw09.DagClosed'. -/
def dagClosedCard : Claim7 := { stood := { row := dagClosedRow, standIns := [], harness := (true, "c9dfcaec4c63dfc895f415f557422a99cd69970e9db71ab4365ae1edef36b7c2"), looks := false }, kinds := [], alts := [], laidByText := true, laidKinds := [.data, .data], laidTests := true, laidLooks := .later }
def DagClosedCardSaid : Prop := Claim7.holds Tryz.pinned (.plain (OpenSpec.ofChange dagClosedSpec)) dagClosedCard

/-- THE TIED CARD OF 'braidlaw09.DagOrders'. -/
def dagOrdersCard : Claim7 := { stood := { row := dagOrdersRow, standIns := [], harness := (true, "c9dfcaec4c63dfc895f415f557422a99cd69970e9db71ab4365ae1edef36b7c2"), looks := false }, kinds := [], alts := [], laidByText := true, laidKinds := [.data, .data], laidTests := true, laidLooks := .later }
def DagOrdersCardSaid : Prop := Claim7.holds Tryz.pinned (.plain (OpenSpec.ofChange dagOrdersSpec)) dagOrdersCard

/-- THE TIED CARD OF 'braidlaw09.DagUnion'. -/
def dagUnionCard : Claim7 := { stood := { row := dagUnionRow, standIns := [], harness := (true, "c9dfcaec4c63dfc895f415f557422a99cd69970e9db71ab4365ae1edef36b7c2"), looks := false }, kinds := [], alts := [], laidByText := true, laidKinds := [.data, .data], laidTests := true, laidLooks := .later }
def DagUnionCardSaid : Prop := Claim7.holds Tryz.pinned (.plain (OpenSpec.ofChange dagUnionSpec)) dagUnionCard

/-- THE TIED CARD OF 'braidlaw10.AncestryNames'. -/
def ancestryNamesCard : Claim7 := { stood := { row := ancestryNamesRow, standIns := [], harness := (true, "c9dfcaec4c63dfc895f415f557422a99cd69970e9db71ab4365ae1edef36b7c2"), looks := false }, kinds := [], alts := [], laidByText := true, laidKinds := [.data, .data], laidTests := true, laidLooks := .later }
def AncestryNamesCardSaid : Prop := Claim7.holds Tryz.pinned (.plain (OpenSpec.ofChange ancestryNamesSpec)) ancestryNamesCard

/-- THE TIED CARD OF 'braidlaw10.AncestryFinds'. -/
def ancestryFindsCard : Claim7 := { stood := { row := ancestryFindsRow, standIns := [], harness := (true, "c9dfcaec4c63dfc895f415f557422a99cd69970e9db71ab4365ae1edef36b7c2"), looks := false }, kinds := [], alts := [], laidByText := true, laidKinds := [.data, .data], laidTests := true, laidLooks := .later }
def AncestryFindsCardSaid : Prop := Claim7.holds Tryz.pinned (.plain (OpenSpec.ofChange ancestryFindsSpec)) ancestryFindsCard

/-- THE TIED CARD OF 'braidlaw10.AncestryLists'. -/
def ancestryListsCard : Claim7 := { stood := { row := ancestryListsRow, standIns := [], harness := (true, "c9dfcaec4c63dfc895f415f557422a99cd69970e9db71ab4365ae1edef36b7c2"), looks := false }, kinds := [], alts := [], laidByText := true, laidKinds := [.data, .data], laidTests := true, laidLooks := .later }
def AncestryListsCardSaid : Prop := Claim7.holds Tryz.pinned (.plain (OpenSpec.ofChange ancestryListsSpec)) ancestryListsCard

/-- THE TIED CARD OF 'braidlaw10.AncestryLeast'. -/
def ancestryLeastCard : Claim7 := { stood := { row := ancestryLeastRow, standIns := [], harness := (true, "c9dfcaec4c63dfc895f415f557422a99cd69970e9db71ab4365ae1edef36b7c2"), looks := false }, kinds := [], alts := [], laidByText := true, laidKinds := [.data, .data], laidTests := true, laidLooks := .later }
def AncestryLeastCardSaid : Prop := Claim7.holds Tryz.pinned (.plain (OpenSpec.ofChange ancestryLeastSpec)) ancestryLeastCard

/-- THE TIED CARD OF 'braidlaw10.AncestryOrder'. -/
def ancestryOrderCard : Claim7 := { stood := { row := ancestryOrderRow, standIns := [], harness := (true, "c9dfcaec4c63dfc895f415f557422a99cd69970e9db71ab4365ae1edef36b7c2"), looks := false }, kinds := [], alts := [], laidByText := true, laidKinds := [.data, .data], laidTests := true, laidLooks := .later }
def AncestryOrderCardSaid : Prop := Claim7.holds Tryz.pinned (.plain (OpenSpec.ofChange ancestryOrderSpec)) ancestryOrderCard

/-- THE TIED CARD OF 'braidlaw10.AncestryHeads'. -/
def ancestryHeadsCard : Claim7 := { stood := { row := ancestryHeadsRow, standIns := [], harness := (true, "c9dfcaec4c63dfc895f415f557422a99cd69970e9db71ab4365ae1edef36b7c2"), looks := false }, kinds := [], alts := [], laidByText := true, laidKinds := [.data, .data], laidTests := true, laidLooks := .later }
def AncestryHeadsCardSaid : Prop := Claim7.holds Tryz.pinned (.plain (OpenSpec.ofChange ancestryHeadsSpec)) ancestryHeadsCard

/-- THE TIED CARD OF 'braidlaw10.AncestryDeep'. -/
def ancestryDeepCard : Claim7 := { stood := { row := ancestryDeepRow, standIns := [], harness := (true, "c9dfcaec4c63dfc895f415f557422a99cd69970e9db71ab4365ae1edef36b7c2"), looks := false }, kinds := [], alts := [], laidByText := true, laidKinds := [.data, .data], laidTests := true, laidLooks := .later }
def AncestryDeepCardSaid : Prop := Claim7.holds Tryz.pinned (.plain (OpenSpec.ofChange ancestryDeepSpec)) ancestryDeepCard

/-- THE SECOND FORM's CARD OF 'braidlaw09.DagNames'. -/
def dagNamesUptoCard : Claim7 := { stood := { row := dagNamesUptoRow, standIns := [], harness := (true, "c9dfcaec4c63dfc895f415f557422a99cd69970e9db71ab4365ae1edef36b7c2"), looks := false }, kinds := [], alts := [], laidByText := true, laidKinds := [.data, .data], laidTests := true, laidLooks := .later }
def DagNamesUptoCardSaid : Prop := Claim7.holds Tryz.pinned (.plain (OpenSpec.upto dagNamesSpec)) dagNamesUptoCard

/-- THE SECOND FORM's CARD OF 'braidlaw09.DagMakes'. -/
def dagMakesUptoCard : Claim7 := { stood := { row := dagMakesUptoRow, standIns := [], harness := (true, "c9dfcaec4c63dfc895f415f557422a99cd69970e9db71ab4365ae1edef36b7c2"), looks := false }, kinds := [], alts := [], laidByText := true, laidKinds := [.data, .data], laidTests := true, laidLooks := .later }
def DagMakesUptoCardSaid : Prop := Claim7.holds Tryz.pinned (.plain (OpenSpec.upto dagMakesSpec)) dagMakesUptoCard

/-- THE SECOND FORM's CARD OF 'braidlaw09.DagClosed'. -/
def dagClosedUptoCard : Claim7 := { stood := { row := dagClosedUptoRow, standIns := [], harness := (true, "c9dfcaec4c63dfc895f415f557422a99cd69970e9db71ab4365ae1edef36b7c2"), looks := false }, kinds := [], alts := [], laidByText := true, laidKinds := [.data, .data], laidTests := true, laidLooks := .later }
def DagClosedUptoCardSaid : Prop := Claim7.holds Tryz.pinned (.plain (OpenSpec.upto dagClosedSpec)) dagClosedUptoCard

/-- THE SECOND FORM's CARD OF 'braidlaw09.DagOrders'. -/
def dagOrdersUptoCard : Claim7 := { stood := { row := dagOrdersUptoRow, standIns := [], harness := (true, "c9dfcaec4c63dfc895f415f557422a99cd69970e9db71ab4365ae1edef36b7c2"), looks := false }, kinds := [], alts := [], laidByText := true, laidKinds := [.data, .data], laidTests := true, laidLooks := .later }
def DagOrdersUptoCardSaid : Prop := Claim7.holds Tryz.pinned (.plain (OpenSpec.upto dagOrdersSpec)) dagOrdersUptoCard

/-- THE SECOND FORM's CARD OF 'braidlaw09.DagUnion'. -/
def dagUnionUptoCard : Claim7 := { stood := { row := dagUnionUptoRow, standIns := [], harness := (true, "c9dfcaec4c63dfc895f415f557422a99cd69970e9db71ab4365ae1edef36b7c2"), looks := false }, kinds := [], alts := [], laidByText := true, laidKinds := [.data, .data], laidTests := true, laidLooks := .later }
def DagUnionUptoCardSaid : Prop := Claim7.holds Tryz.pinned (.plain (OpenSpec.upto dagUnionSpec)) dagUnionUptoCard

/-- THE SECOND FORM's CARD OF 'braidlaw10.AncestryNames'. -/
def ancestryNamesUptoCard : Claim7 := { stood := { row := ancestryNamesUptoRow, standIns := [], harness := (true, "c9dfcaec4c63dfc895f415f557422a99cd69970e9db71ab4365ae1edef36b7c2"), looks := false }, kinds := [], alts := [], laidByText := true, laidKinds := [.data, .data], laidTests := true, laidLooks := .later }
def AncestryNamesUptoCardSaid : Prop := Claim7.holds Tryz.pinned (.plain (OpenSpec.upto ancestryNamesSpec)) ancestryNamesUptoCard

/-- THE SECOND FORM's CARD OF 'braidlaw10.AncestryFinds'. -/
def ancestryFindsUptoCard : Claim7 := { stood := { row := ancestryFindsUptoRow, standIns := [], harness := (true, "c9dfcaec4c63dfc895f415f557422a99cd69970e9db71ab4365ae1edef36b7c2"), looks := false }, kinds := [], alts := [], laidByText := true, laidKinds := [.data, .data], laidTests := true, laidLooks := .later }
def AncestryFindsUptoCardSaid : Prop := Claim7.holds Tryz.pinned (.plain (OpenSpec.upto ancestryFindsSpec)) ancestryFindsUptoCard

/-- THE SECOND FORM's CARD OF 'braidlaw10.AncestryLists'. -/
def ancestryListsUptoCard : Claim7 := { stood := { row := ancestryListsUptoRow, standIns := [], harness := (true, "c9dfcaec4c63dfc895f415f557422a99cd69970e9db71ab4365ae1edef36b7c2"), looks := false }, kinds := [], alts := [], laidByText := true, laidKinds := [.data, .data], laidTests := true, laidLooks := .later }
def AncestryListsUptoCardSaid : Prop := Claim7.holds Tryz.pinned (.plain (OpenSpec.upto ancestryListsSpec)) ancestryListsUptoCard

/-- THE SECOND FORM's CARD OF 'braidlaw10.AncestryLeast'. -/
def ancestryLeastUptoCard : Claim7 := { stood := { row := ancestryLeastUptoRow, standIns := [], harness := (true, "c9dfcaec4c63dfc895f415f557422a99cd69970e9db71ab4365ae1edef36b7c2"), looks := false }, kinds := [], alts := [], laidByText := true, laidKinds := [.data, .data], laidTests := true, laidLooks := .later }
def AncestryLeastUptoCardSaid : Prop := Claim7.holds Tryz.pinned (.plain (OpenSpec.upto ancestryLeastSpec)) ancestryLeastUptoCard

/-- THE SECOND FORM's CARD OF 'braidlaw10.AncestryOrder'. -/
def ancestryOrderUptoCard : Claim7 := { stood := { row := ancestryOrderUptoRow, standIns := [], harness := (true, "c9dfcaec4c63dfc895f415f557422a99cd69970e9db71ab4365ae1edef36b7c2"), looks := false }, kinds := [], alts := [], laidByText := true, laidKinds := [.data, .data], laidTests := true, laidLooks := .later }
def AncestryOrderUptoCardSaid : Prop := Claim7.holds Tryz.pinned (.plain (OpenSpec.upto ancestryOrderSpec)) ancestryOrderUptoCard

/-- THE SECOND FORM's CARD OF 'braidlaw10.AncestryHeads'. -/
def ancestryHeadsUptoCard : Claim7 := { stood := { row := ancestryHeadsUptoRow, standIns := [], harness := (true, "c9dfcaec4c63dfc895f415f557422a99cd69970e9db71ab4365ae1edef36b7c2"), looks := false }, kinds := [], alts := [], laidByText := true, laidKinds := [.data, .data], laidTests := true, laidLooks := .later }
def AncestryHeadsUptoCardSaid : Prop := Claim7.holds Tryz.pinned (.plain (OpenSpec.upto ancestryHeadsSpec)) ancestryHeadsUptoCard

/-- THE SECOND FORM's CARD OF 'braidlaw10.AncestryDeep'. -/
def ancestryDeepUptoCard : Claim7 := { stood := { row := ancestryDeepUptoRow, standIns := [], harness := (true, "c9dfcaec4c63dfc895f415f557422a99cd69970e9db71ab4365ae1edef36b7c2"), looks := false }, kinds := [], alts := [], laidByText := true, laidKinds := [.data, .data], laidTests := true, laidLooks := .later }
def AncestryDeepUptoCardSaid : Prop := Claim7.holds Tryz.pinned (.plain (OpenSpec.upto ancestryDeepSpec)) ancestryDeepUptoCard
end Rows
end Go.Proofs.YtlbgffhipondiaaGreatDoor
