/- SignKeys' walk. -/
import Derived.Test.YtnknkiiikeefgaaGreatDoorS03f
import Derived.Test.YtnknkiiikeefgaaGreatDoorM02c
namespace Go.Proofs.YtnknkiiikeefgaaGreatDoor
open Go.RowKit Go.YtnknkiiikeefgaaGreatDoor
set_option linter.unusedVariables false
/-- The world is behind 'w', and the listed variables are there. -/
def Since (w wi : World) : Prop := Below w.heap.size w wi ∧ GlobW wi
theorem Since.start {w : World} (h : GlobW w) : Since w w := ⟨Below.refl _ _, h⟩
theorem Since.step {w wi wj : World} (h : Since w wi) (hb : Below wi.heap.size wi wj) : Since w wj := ⟨h.1.trans (hb.mono h.1.size), h.2.mono hb⟩
theorem Since.gl {w wi : World} (h : Since w wi) : GlobW wi := h.2
end Go.Proofs.YtnknkiiikeefgaaGreatDoor
