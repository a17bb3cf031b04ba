/- SignMade's walk. -/
import Derived.Test.YtoknefeciopdpaaGreatDoorS03r
namespace Go.Proofs.YtoknefeciopdpaaGreatDoor
open Go.RowKit Go.YtoknefeciopdpaaGreatDoor
set_option linter.unusedVariables false
end Go.Proofs.YtoknefeciopdpaaGreatDoor
