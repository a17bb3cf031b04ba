/- ValueMakes' walk. -/
import Derived.Test.YtnknkiiikeefgaaGreatDoorV01
import Derived.Test.YtnknkiiikeefgaaGreatDoorLexL
namespace Go.Proofs.YtnknkiiikeefgaaGreatDoor.wir.val
open Go.RowKit Go.YtnknkiiikeefgaaGreatDoor
set_option linter.unusedVariables false
theorem eqB_same (k n : Int) (b : Nat) (s : ByteArray) : eqB k n b s k n b s = true := by simp [eqB]
end Go.Proofs.YtnknkiiikeefgaaGreatDoor.wir.val
