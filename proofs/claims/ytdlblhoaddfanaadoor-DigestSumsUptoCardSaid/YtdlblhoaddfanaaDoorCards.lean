/-
  DERIVED. GIVEN WITH THE SEED: THE CARDS: each row of YtdlblhoaddfanaaDoorRows.lean that lists a variable, with what it lists TIED to the program's text (the seventh form; the later family's looks); each row that meets fmt, with fmt's text TOLD by the authors' own Lean function (tested against real Go, not proved from fmt's source: count such statements apart). THE CARD IS WHAT COUNTS. Prove the row's statement (the work); the ties are given (YtdlblhoaddfanaaDoorTie.lean); close each card by the builder's one call (the guide's Derived/Test/ToyasCard.lean, 'card_holds'). Laid BY PROGRAM, IN A SANDBOX (cutbox-door.mjs). By AI agents, Wed Nov 11 2026. No macro, syntax, notation, axiom, sorry.
-/
import Derived.Test.YtdlblhoaddfanaaDoorRows
import GoSem.ClaimSeven
namespace Go.Proofs.YtdlblhoaddfanaaDoor
namespace Rows

/-- THE TIED CARD OF 'braidlaw01.DigestMills'. -/
def digestMillsCard : Claim7 := { stood := { row := digestMillsRow, standIns := [], harness := (true, "c083ff14c46953f1e5cbad17428c4069db1b50ead26fe248289ad808731ddf0f"), looks := false }, kinds := [], alts := [], laidByText := true, laidKinds := [.data, .data], laidTests := true, laidLooks := .later }
def DigestMillsCardSaid : Prop := Claim7.holds Tryd.pinned (.plain (OpenSpec.ofChange digestMillsSpec)) digestMillsCard

/-- THE TIED CARD OF 'braidlaw01.DigestSums'. -/
def digestSumsCard : Claim7 := { stood := { row := digestSumsRow, standIns := [], harness := (true, "c083ff14c46953f1e5cbad17428c4069db1b50ead26fe248289ad808731ddf0f"), looks := false }, kinds := [], alts := [], laidByText := true, laidKinds := [.data, .data], laidTests := true, laidLooks := .later }
def DigestSumsCardSaid : Prop := Claim7.holds Tryd.pinned (.plain (OpenSpec.ofChange digestSumsSpec)) digestSumsCard

/-- THE SECOND FORM's CARD OF 'braidlaw01.DigestMills'. -/
def digestMillsUptoCard : Claim7 := { stood := { row := digestMillsUptoRow, standIns := [], harness := (true, "c083ff14c46953f1e5cbad17428c4069db1b50ead26fe248289ad808731ddf0f"), looks := false }, kinds := [], alts := [], laidByText := true, laidKinds := [.data, .data], laidTests := true, laidLooks := .later }
def DigestMillsUptoCardSaid : Prop := Claim7.holds Tryd.pinned (.plain (OpenSpec.upto digestMillsSpec)) digestMillsUptoCard

/-- THE SECOND FORM's CARD OF 'braidlaw01.DigestSums'. -/
def digestSumsUptoCard : Claim7 := { stood := { row := digestSumsUptoRow, standIns := [], harness := (true, "c083ff14c46953f1e5cbad17428c4069db1b50ead26fe248289ad808731ddf0f"), looks := false }, kinds := [], alts := [], laidByText := true, laidKinds := [.data, .data], laidTests := true, laidLooks := .later }
def DigestSumsUptoCardSaid : Prop := Claim7.holds Tryd.pinned (.plain (OpenSpec.upto digestSumsSpec)) digestSumsUptoCard
end Rows
end Go.Proofs.YtdlblhoaddfanaaDoor
