/-
  DERIVED. GIVEN WITH THE SEED: THE CARDS: each row of YtfncepfjnljhlaaDoorRows.lean that lists a variable, with what it lists TIED to the program's text (the seventh form; the later family's looks); each row that meets fmt, with fmt's text TOLD by the authors' own Lean function (tested against real Go, not proved from fmt's source: count such statements apart). THE CARD IS WHAT COUNTS. Prove the row's statement (the work); the ties are given (YtfncepfjnljhlaaDoorTie.lean); close each card by the builder's one call (the guide's Derived/Test/ToyasCard.lean, 'card_holds'). Laid BY PROGRAM, IN A SANDBOX (cutbox-door.mjs). By AI agents, Wed Nov 11 2026. No macro, syntax, notation, axiom, sorry.
-/
import Derived.Test.YtfncepfjnljhlaaDoorRows
import GoSem.ClaimSeven
namespace Go.Proofs.YtfncepfjnljhlaaDoor
namespace Rows

/-- THE TIED CARD OF 'braidlaw01.DigestNames'. -/
def digestNamesCard : Claim7 := { stood := { row := digestNamesRow, standIns := [], harness := (true, "e5a951e8fed1625e059d18bfc42cbf01c0e566a9f4c248310dbfe8141aac4e37"), looks := false }, kinds := [], alts := [], laidByText := true, laidKinds := [.data, .data], laidTests := true, laidLooks := .later }
def DigestNamesCardSaid : Prop := Claim7.holds Tryd.pinned (.plain (OpenSpec.ofChange digestNamesSpec)) digestNamesCard

/-- THE TIED CARD OF 'braidlaw01.DigestSums'. -/
def digestSumsCard : Claim7 := { stood := { row := digestSumsRow, standIns := [], harness := (true, "e5a951e8fed1625e059d18bfc42cbf01c0e566a9f4c248310dbfe8141aac4e37"), looks := false }, kinds := [], alts := [], laidByText := true, laidKinds := [.data, .data], laidTests := true, laidLooks := .later }
def DigestSumsCardSaid : Prop := Claim7.holds Tryd.pinned (.plain (OpenSpec.ofChange digestSumsSpec)) digestSumsCard

/-- THE TIED CARD OF 'braidlaw01.DigestMills'. -/
def digestMillsCard : Claim7 := { stood := { row := digestMillsRow, standIns := [], harness := (true, "e5a951e8fed1625e059d18bfc42cbf01c0e566a9f4c248310dbfe8141aac4e37"), looks := false }, kinds := [], alts := [], laidByText := true, laidKinds := [.data, .data], laidTests := true, laidLooks := .later }
def DigestMillsCardSaid : Prop := Claim7.holds Tryd.pinned (.plain (OpenSpec.ofChange digestMillsSpec)) digestMillsCard

/-- THE TIED CARD OF 'braidlaw01.DigestOn'. -/
def digestOnCard : Claim7 := { stood := { row := digestOnRow, standIns := [], harness := (true, "e5a951e8fed1625e059d18bfc42cbf01c0e566a9f4c248310dbfe8141aac4e37"), looks := false }, kinds := [], alts := [], laidByText := true, laidKinds := [.data, .data], laidTests := true, laidLooks := .later }
def DigestOnCardSaid : Prop := Claim7.holds Tryd.pinned (.plain (OpenSpec.ofChange digestOnSpec)) digestOnCard

/-- THE TIED CARD OF 'braidlaw03.SignNames'. -/
def signNamesCard : Claim7 := { stood := { row := signNamesRow, standIns := [], harness := (true, "e5a951e8fed1625e059d18bfc42cbf01c0e566a9f4c248310dbfe8141aac4e37"), looks := false }, kinds := [], alts := [], laidByText := true, laidKinds := [.data, .data], laidTests := true, laidLooks := .later }
def SignNamesCardSaid : Prop := Claim7.holds Tryd.pinned (.plain (OpenSpec.ofChange signNamesSpec)) signNamesCard

/-- THE TIED CARD OF 'braidlaw03.SignMakes'. -/
def signMakesCard : Claim7 := { stood := { row := signMakesRow, standIns := [], harness := (true, "e5a951e8fed1625e059d18bfc42cbf01c0e566a9f4c248310dbfe8141aac4e37"), looks := false }, kinds := [], alts := [], laidByText := true, laidKinds := [.data, .data], laidTests := true, laidLooks := .later }
def SignMakesCardSaid : Prop := Claim7.holds Tryd.pinned (.plain (OpenSpec.ofChange signMakesSpec)) signMakesCard

/-- THE TIED CARD OF 'braidlaw03.SignVerifies'. -/
def signVerifiesCard : Claim7 := { stood := { row := signVerifiesRow, standIns := [], harness := (true, "e5a951e8fed1625e059d18bfc42cbf01c0e566a9f4c248310dbfe8141aac4e37"), looks := false }, kinds := [], alts := [], laidByText := true, laidKinds := [.data, .data], laidTests := true, laidLooks := .later }
def SignVerifiesCardSaid : Prop := Claim7.holds Tryd.pinned (.plain (OpenSpec.ofChange signVerifiesSpec)) signVerifiesCard

/-- THE TIED CARD OF 'braidlaw03.SignRight'. -/
def signRightCard : Claim7 := { stood := { row := signRightRow, standIns := [], harness := (true, "e5a951e8fed1625e059d18bfc42cbf01c0e566a9f4c248310dbfe8141aac4e37"), looks := false }, kinds := [], alts := [], laidByText := true, laidKinds := [.data, .data], laidTests := true, laidLooks := .later }
def SignRightCardSaid : Prop := Claim7.holds Tryd.pinned (.plain (OpenSpec.ofChange signRightSpec)) signRightCard

/-- THE TIED CARD OF 'braidlaw03.SignMade'. -/
def signMadeCard : Claim7 := { stood := { row := signMadeRow, standIns := [], harness := (true, "e5a951e8fed1625e059d18bfc42cbf01c0e566a9f4c248310dbfe8141aac4e37"), looks := false }, kinds := [], alts := [], laidByText := true, laidKinds := [.data, .data], laidTests := true, laidLooks := .later }
def SignMadeCardSaid : Prop := Claim7.holds Tryd.pinned (.plain (OpenSpec.ofChange signMadeSpec)) signMadeCard

/-- THE TIED CARD OF 'braidlaw03.SignTells'. -/
def signTellsCard : Claim7 := { stood := { row := signTellsRow, standIns := [], harness := (true, "e5a951e8fed1625e059d18bfc42cbf01c0e566a9f4c248310dbfe8141aac4e37"), looks := false }, kinds := [], alts := [], laidByText := true, laidKinds := [.data, .data], laidTests := true, laidLooks := .later }
def SignTellsCardSaid : Prop := Claim7.holds Tryd.pinned (.plain (OpenSpec.ofChange signTellsSpec)) signTellsCard

/-- THE TIED CARD OF 'braidlaw03.SignKeys'. -/
def signKeysCard : Claim7 := { stood := { row := signKeysRow, standIns := [], harness := (true, "e5a951e8fed1625e059d18bfc42cbf01c0e566a9f4c248310dbfe8141aac4e37"), looks := false }, kinds := [], alts := [], laidByText := true, laidKinds := [.data, .data], laidTests := true, laidLooks := .later }
def SignKeysCardSaid : Prop := Claim7.holds Tryd.pinned (.plain (OpenSpec.ofChange signKeysSpec)) signKeysCard

/-- THE SECOND FORM's CARD OF 'braidlaw01.DigestNames'. -/
def digestNamesUptoCard : Claim7 := { stood := { row := digestNamesUptoRow, standIns := [], harness := (true, "e5a951e8fed1625e059d18bfc42cbf01c0e566a9f4c248310dbfe8141aac4e37"), looks := false }, kinds := [], alts := [], laidByText := true, laidKinds := [.data, .data], laidTests := true, laidLooks := .later }
def DigestNamesUptoCardSaid : Prop := Claim7.holds Tryd.pinned (.plain (OpenSpec.upto digestNamesSpec)) digestNamesUptoCard

/-- THE SECOND FORM's CARD OF 'braidlaw01.DigestSums'. -/
def digestSumsUptoCard : Claim7 := { stood := { row := digestSumsUptoRow, standIns := [], harness := (true, "e5a951e8fed1625e059d18bfc42cbf01c0e566a9f4c248310dbfe8141aac4e37"), looks := false }, kinds := [], alts := [], laidByText := true, laidKinds := [.data, .data], laidTests := true, laidLooks := .later }
def DigestSumsUptoCardSaid : Prop := Claim7.holds Tryd.pinned (.plain (OpenSpec.upto digestSumsSpec)) digestSumsUptoCard

/-- THE SECOND FORM's CARD OF 'braidlaw01.DigestMills'. -/
def digestMillsUptoCard : Claim7 := { stood := { row := digestMillsUptoRow, standIns := [], harness := (true, "e5a951e8fed1625e059d18bfc42cbf01c0e566a9f4c248310dbfe8141aac4e37"), looks := false }, kinds := [], alts := [], laidByText := true, laidKinds := [.data, .data], laidTests := true, laidLooks := .later }
def DigestMillsUptoCardSaid : Prop := Claim7.holds Tryd.pinned (.plain (OpenSpec.upto digestMillsSpec)) digestMillsUptoCard

/-- THE SECOND FORM's CARD OF 'braidlaw01.DigestOn'. -/
def digestOnUptoCard : Claim7 := { stood := { row := digestOnUptoRow, standIns := [], harness := (true, "e5a951e8fed1625e059d18bfc42cbf01c0e566a9f4c248310dbfe8141aac4e37"), looks := false }, kinds := [], alts := [], laidByText := true, laidKinds := [.data, .data], laidTests := true, laidLooks := .later }
def DigestOnUptoCardSaid : Prop := Claim7.holds Tryd.pinned (.plain (OpenSpec.upto digestOnSpec)) digestOnUptoCard

/-- THE SECOND FORM's CARD OF 'braidlaw03.SignNames'. -/
def signNamesUptoCard : Claim7 := { stood := { row := signNamesUptoRow, standIns := [], harness := (true, "e5a951e8fed1625e059d18bfc42cbf01c0e566a9f4c248310dbfe8141aac4e37"), looks := false }, kinds := [], alts := [], laidByText := true, laidKinds := [.data, .data], laidTests := true, laidLooks := .later }
def SignNamesUptoCardSaid : Prop := Claim7.holds Tryd.pinned (.plain (OpenSpec.upto signNamesSpec)) signNamesUptoCard

/-- THE SECOND FORM's CARD OF 'braidlaw03.SignMakes'. -/
def signMakesUptoCard : Claim7 := { stood := { row := signMakesUptoRow, standIns := [], harness := (true, "e5a951e8fed1625e059d18bfc42cbf01c0e566a9f4c248310dbfe8141aac4e37"), looks := false }, kinds := [], alts := [], laidByText := true, laidKinds := [.data, .data], laidTests := true, laidLooks := .later }
def SignMakesUptoCardSaid : Prop := Claim7.holds Tryd.pinned (.plain (OpenSpec.upto signMakesSpec)) signMakesUptoCard

/-- THE SECOND FORM's CARD OF 'braidlaw03.SignVerifies'. -/
def signVerifiesUptoCard : Claim7 := { stood := { row := signVerifiesUptoRow, standIns := [], harness := (true, "e5a951e8fed1625e059d18bfc42cbf01c0e566a9f4c248310dbfe8141aac4e37"), looks := false }, kinds := [], alts := [], laidByText := true, laidKinds := [.data, .data], laidTests := true, laidLooks := .later }
def SignVerifiesUptoCardSaid : Prop := Claim7.holds Tryd.pinned (.plain (OpenSpec.upto signVerifiesSpec)) signVerifiesUptoCard

/-- THE SECOND FORM's CARD OF 'braidlaw03.SignRight'. -/
def signRightUptoCard : Claim7 := { stood := { row := signRightUptoRow, standIns := [], harness := (true, "e5a951e8fed1625e059d18bfc42cbf01c0e566a9f4c248310dbfe8141aac4e37"), looks := false }, kinds := [], alts := [], laidByText := true, laidKinds := [.data, .data], laidTests := true, laidLooks := .later }
def SignRightUptoCardSaid : Prop := Claim7.holds Tryd.pinned (.plain (OpenSpec.upto signRightSpec)) signRightUptoCard

/-- THE SECOND FORM's CARD OF 'braidlaw03.SignMade'. -/
def signMadeUptoCard : Claim7 := { stood := { row := signMadeUptoRow, standIns := [], harness := (true, "e5a951e8fed1625e059d18bfc42cbf01c0e566a9f4c248310dbfe8141aac4e37"), looks := false }, kinds := [], alts := [], laidByText := true, laidKinds := [.data, .data], laidTests := true, laidLooks := .later }
def SignMadeUptoCardSaid : Prop := Claim7.holds Tryd.pinned (.plain (OpenSpec.upto signMadeSpec)) signMadeUptoCard

/-- THE SECOND FORM's CARD OF 'braidlaw03.SignTells'. -/
def signTellsUptoCard : Claim7 := { stood := { row := signTellsUptoRow, standIns := [], harness := (true, "e5a951e8fed1625e059d18bfc42cbf01c0e566a9f4c248310dbfe8141aac4e37"), looks := false }, kinds := [], alts := [], laidByText := true, laidKinds := [.data, .data], laidTests := true, laidLooks := .later }
def SignTellsUptoCardSaid : Prop := Claim7.holds Tryd.pinned (.plain (OpenSpec.upto signTellsSpec)) signTellsUptoCard

/-- THE SECOND FORM's CARD OF 'braidlaw03.SignKeys'. -/
def signKeysUptoCard : Claim7 := { stood := { row := signKeysUptoRow, standIns := [], harness := (true, "e5a951e8fed1625e059d18bfc42cbf01c0e566a9f4c248310dbfe8141aac4e37"), looks := false }, kinds := [], alts := [], laidByText := true, laidKinds := [.data, .data], laidTests := true, laidLooks := .later }
def SignKeysUptoCardSaid : Prop := Claim7.holds Tryd.pinned (.plain (OpenSpec.upto signKeysSpec)) signKeysUptoCard
end Rows
end Go.Proofs.YtfncepfjnljhlaaDoor
