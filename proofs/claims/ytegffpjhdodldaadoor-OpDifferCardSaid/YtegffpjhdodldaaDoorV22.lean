/- The reference's Bytes and Encode. -/
import Derived.Test.YtegffpjhdodldaaDoorV09
import Derived.Test.YtegffpjhdodldaaDoorW03
namespace Go.Proofs.YtegffpjhdodldaaDoor.wir.val
open Go.RowKit Go.YtegffpjhdodldaaDoor
set_option linter.unusedVariables false
/-- What both programs' Encode answer. -/
def EncR (v : Va) (B : Nat) (r : Value) (w' : World) : Prop := if v.ok = true then ∃ sv, r = .tuple #[sv, .int .i64 0] ∧ OwnB B 5 w' sv (encB v.k v.n v.b v.s) else r = .tuple #[.slice none 0 0, .int .i64 8]
end Go.Proofs.YtegffpjhdodldaaDoor.wir.val
