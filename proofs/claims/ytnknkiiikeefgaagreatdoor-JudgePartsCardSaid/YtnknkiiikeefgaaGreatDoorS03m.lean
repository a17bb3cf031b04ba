/- SignMade's walk. -/
import Derived.Test.YtnknkiiikeefgaaGreatDoorS03r
namespace Go.Proofs.YtnknkiiikeefgaaGreatDoor
open Go.RowKit Go.YtnknkiiikeefgaaGreatDoor
set_option linter.unusedVariables false
end Go.Proofs.YtnknkiiikeefgaaGreatDoor
