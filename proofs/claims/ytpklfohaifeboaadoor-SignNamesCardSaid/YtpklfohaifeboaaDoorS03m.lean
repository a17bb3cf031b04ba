/- SignMade's walk. -/
import Derived.Test.YtpklfohaifeboaaDoorS03r
namespace Go.Proofs.YtpklfohaifeboaaDoor
open Go.RowKit Go.YtpklfohaifeboaaDoor
set_option linter.unusedVariables false
end Go.Proofs.YtpklfohaifeboaaDoor
