/- Contract of digest.finish: the digest of a mill. -/
import Derived.Test.YtegffpjhdodldaaD01e
import Derived.Test.YtegffpjhdodldaaD01c
import Derived.Test.YtegffpjhdodldaaLibB
import Derived.Deep.DeepCutAuto
namespace Go.Proofs.Ytegffpjhdodldaa
open Go.RowKit Go.Ytegffpjhdodldaa
set_option linter.unusedVariables false
variable {Tg Tf : TypeId}
end Go.Proofs.Ytegffpjhdodldaa
