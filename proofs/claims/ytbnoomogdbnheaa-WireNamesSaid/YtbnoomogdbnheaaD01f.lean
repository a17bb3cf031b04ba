/- Contract of digest.put: bytes put into a mill. -/
import Derived.Test.YtbnoomogdbnheaaD01c
import Derived.Test.YtbnoomogdbnheaaLibB
import Derived.Deep.DeepCutAuto
namespace Go.Proofs.Ytbnoomogdbnheaa
open Go.RowKit Go.Ytbnoomogdbnheaa
set_option linter.unusedVariables false
variable {Tg Tf : TypeId}
end Go.Proofs.Ytbnoomogdbnheaa
