/-
  DERIVED. GIVEN WITH THE SEED: THE CARDS: each row of YtddelpjlcmaomaaDoorRows.lean that lists a variable, with what it lists TIED to the program's text (the seventh form; the later family's looks); each row that meets fmt, with fmt's text TOLD by the authors' own Lean function (tested against real Go, not proved from fmt's source: count such statements apart). THE CARD IS WHAT COUNTS. Prove the row's statement (the work); the ties are given (YtddelpjlcmaomaaDoorTie.lean); close each card by the builder's one call (the guide's Derived/Test/ToyasCard.lean, 'card_holds'). Laid BY PROGRAM, IN A SANDBOX (cutbox-door.mjs). By AI agents, Wed Nov 11 2026. No macro, syntax, notation, axiom, sorry.
-/
import Derived.Test.YtddelpjlcmaomaaDoorRows
import GoSem.ClaimSeven
namespace Go.Proofs.YtddelpjlcmaomaaDoor
namespace Rows

/-- THE TIED CARD OF 'braidlaw06.OpMakes'. -/
def opMakesCard : Claim7 := { stood := { row := opMakesRow, standIns := [], harness := (true, "b8f85567537e5ea786f1cc20af51dc55d12e2fc42f16f93dcfc07b545bf836e6"), looks := false }, kinds := [], alts := [], laidByText := true, laidKinds := [.data, .data], laidTests := true, laidLooks := .later }
def OpMakesCardSaid : Prop := Claim7.holds Tryd.pinned (.plain (OpenSpec.ofChange opMakesSpec)) opMakesCard

/-- THE TIED CARD OF 'braidlaw06.OpSigned'. -/
def opSignedCard : Claim7 := { stood := { row := opSignedRow, standIns := [], harness := (true, "b8f85567537e5ea786f1cc20af51dc55d12e2fc42f16f93dcfc07b545bf836e6"), looks := false }, kinds := [], alts := [], laidByText := true, laidKinds := [.data, .data], laidTests := true, laidLooks := .later }
def OpSignedCardSaid : Prop := Claim7.holds Tryd.pinned (.plain (OpenSpec.ofChange opSignedSpec)) opSignedCard

/-- THE TIED CARD OF 'braidlaw06.OpDiffer'. -/
def opDifferCard : Claim7 := { stood := { row := opDifferRow, standIns := [], harness := (true, "b8f85567537e5ea786f1cc20af51dc55d12e2fc42f16f93dcfc07b545bf836e6"), looks := false }, kinds := [], alts := [], laidByText := true, laidKinds := [.data, .data], laidTests := true, laidLooks := .later }
def OpDifferCardSaid : Prop := Claim7.holds Tryd.pinned (.plain (OpenSpec.ofChange opDifferSpec)) opDifferCard

/-- THE TIED CARD OF 'braidlaw01.DigestSums'. -/
def digestSumsCard : Claim7 := { stood := { row := digestSumsRow, standIns := [], harness := (true, "b8f85567537e5ea786f1cc20af51dc55d12e2fc42f16f93dcfc07b545bf836e6"), looks := false }, kinds := [], alts := [], laidByText := true, laidKinds := [.data, .data], laidTests := true, laidLooks := .later }
def DigestSumsCardSaid : Prop := Claim7.holds Tryd.pinned (.plain (OpenSpec.ofChange digestSumsSpec)) digestSumsCard

/-- THE TIED CARD OF 'braidlaw01.DigestMills'. -/
def digestMillsCard : Claim7 := { stood := { row := digestMillsRow, standIns := [], harness := (true, "b8f85567537e5ea786f1cc20af51dc55d12e2fc42f16f93dcfc07b545bf836e6"), looks := false }, kinds := [], alts := [], laidByText := true, laidKinds := [.data, .data], laidTests := true, laidLooks := .later }
def DigestMillsCardSaid : Prop := Claim7.holds Tryd.pinned (.plain (OpenSpec.ofChange digestMillsSpec)) digestMillsCard

/-- THE TIED CARD OF 'braidlaw01.DigestOn'. -/
def digestOnCard : Claim7 := { stood := { row := digestOnRow, standIns := [], harness := (true, "b8f85567537e5ea786f1cc20af51dc55d12e2fc42f16f93dcfc07b545bf836e6"), looks := false }, kinds := [], alts := [], laidByText := true, laidKinds := [.data, .data], laidTests := true, laidLooks := .later }
def DigestOnCardSaid : Prop := Claim7.holds Tryd.pinned (.plain (OpenSpec.ofChange digestOnSpec)) digestOnCard

/-- THE SECOND FORM's CARD OF 'braidlaw06.OpMakes'. -/
def opMakesUptoCard : Claim7 := { stood := { row := opMakesUptoRow, standIns := [], harness := (true, "b8f85567537e5ea786f1cc20af51dc55d12e2fc42f16f93dcfc07b545bf836e6"), looks := false }, kinds := [], alts := [], laidByText := true, laidKinds := [.data, .data], laidTests := true, laidLooks := .later }
def OpMakesUptoCardSaid : Prop := Claim7.holds Tryd.pinned (.plain (OpenSpec.upto opMakesSpec)) opMakesUptoCard

/-- THE SECOND FORM's CARD OF 'braidlaw06.OpSigned'. -/
def opSignedUptoCard : Claim7 := { stood := { row := opSignedUptoRow, standIns := [], harness := (true, "b8f85567537e5ea786f1cc20af51dc55d12e2fc42f16f93dcfc07b545bf836e6"), looks := false }, kinds := [], alts := [], laidByText := true, laidKinds := [.data, .data], laidTests := true, laidLooks := .later }
def OpSignedUptoCardSaid : Prop := Claim7.holds Tryd.pinned (.plain (OpenSpec.upto opSignedSpec)) opSignedUptoCard

/-- THE SECOND FORM's CARD OF 'braidlaw06.OpDiffer'. -/
def opDifferUptoCard : Claim7 := { stood := { row := opDifferUptoRow, standIns := [], harness := (true, "b8f85567537e5ea786f1cc20af51dc55d12e2fc42f16f93dcfc07b545bf836e6"), looks := false }, kinds := [], alts := [], laidByText := true, laidKinds := [.data, .data], laidTests := true, laidLooks := .later }
def OpDifferUptoCardSaid : Prop := Claim7.holds Tryd.pinned (.plain (OpenSpec.upto opDifferSpec)) opDifferUptoCard

/-- THE SECOND FORM's CARD OF 'braidlaw01.DigestSums'. -/
def digestSumsUptoCard : Claim7 := { stood := { row := digestSumsUptoRow, standIns := [], harness := (true, "b8f85567537e5ea786f1cc20af51dc55d12e2fc42f16f93dcfc07b545bf836e6"), looks := false }, kinds := [], alts := [], laidByText := true, laidKinds := [.data, .data], laidTests := true, laidLooks := .later }
def DigestSumsUptoCardSaid : Prop := Claim7.holds Tryd.pinned (.plain (OpenSpec.upto digestSumsSpec)) digestSumsUptoCard

/-- THE SECOND FORM's CARD OF 'braidlaw01.DigestMills'. -/
def digestMillsUptoCard : Claim7 := { stood := { row := digestMillsUptoRow, standIns := [], harness := (true, "b8f85567537e5ea786f1cc20af51dc55d12e2fc42f16f93dcfc07b545bf836e6"), looks := false }, kinds := [], alts := [], laidByText := true, laidKinds := [.data, .data], laidTests := true, laidLooks := .later }
def DigestMillsUptoCardSaid : Prop := Claim7.holds Tryd.pinned (.plain (OpenSpec.upto digestMillsSpec)) digestMillsUptoCard

/-- THE SECOND FORM's CARD OF 'braidlaw01.DigestOn'. -/
def digestOnUptoCard : Claim7 := { stood := { row := digestOnUptoRow, standIns := [], harness := (true, "b8f85567537e5ea786f1cc20af51dc55d12e2fc42f16f93dcfc07b545bf836e6"), looks := false }, kinds := [], alts := [], laidByText := true, laidKinds := [.data, .data], laidTests := true, laidLooks := .later }
def DigestOnUptoCardSaid : Prop := Claim7.holds Tryd.pinned (.plain (OpenSpec.upto digestOnSpec)) digestOnUptoCard
end Rows
end Go.Proofs.YtddelpjlcmaomaaDoor
