/- ValueMakes' walk. -/
import Derived.Test.YtoknefeciopdpaaGreatDoorV01
import Derived.Test.YtoknefeciopdpaaGreatDoorLexL
namespace Go.Proofs.YtoknefeciopdpaaGreatDoor.wir.val
open Go.RowKit Go.YtoknefeciopdpaaGreatDoor
set_option linter.unusedVariables false
theorem eqB_same (k n : Int) (b : Nat) (s : ByteArray) : eqB k n b s k n b s = true := by simp [eqB]
end Go.Proofs.YtoknefeciopdpaaGreatDoor.wir.val
