/- Contracts of digest.putWord, digest.valid and digest.Start. Contract of digest.grindAll: whole blocks ground, and the bytes that are left. -/
import Derived.Test.YtegffpjhdodldaaD01a
import Derived.Test.YtegffpjhdodldaaLib
import Derived.Test.YtegffpjhdodldaaD01b
namespace Go.Proofs.Ytegffpjhdodldaa
open Go.RowKit Go.Ytegffpjhdodldaa
set_option linter.unusedVariables false
variable {Tg Tf : TypeId}
def put4 (cs : List Int) (o : Nat) (x : Int) : List Int := (((cs.set o (x / 16777216)).set (o + 1) (x / 65536 % 256)).set (o + 2) (x / 256 % 256)).set (o + 3) (x % 256)
theorem put4_world (g o : Nat) (cs : List Int) (T : TypeId) (w : World) {x0 x1 x2 x3 : Int} (hg : w.heap[g]? = some (.cells (u8s cs) T (0, 0))) :
    (((w.setCell ⟨g, o, none⟩ (.int .u8 x0)).setCell ⟨g, o + 1, none⟩ (.int .u8 x1)).setCell ⟨g, o + 2, none⟩ (.int .u8 x2)).setCell ⟨g, o + 3, none⟩ (.int .u8 x3) = w.setRow g (u8s ((((cs.set o x0).set (o + 1) x1).set (o + 2) x2).set (o + 3) x3)) := by
  have h := fun l => setRow_heap w g (u8s cs) (u8s l) T (0, 0) hg
  rw [setCell_eq hg, u8s_set, setCell_eq (h _), u8s_set, setRow2 hg, setCell_eq (h _), u8s_set, setRow2 hg, setCell_eq (h _), u8s_set, setRow2 hg]
def validB (N : Int) (rn : Nat) : Bool := decide (0 ≤ N ∧ N ≤ 200000 ∧ (rn : Int) = N % 64)
end Go.Proofs.Ytegffpjhdodldaa
namespace Go.Proofs.Ytegffpjhdodldaa
open Go.RowKit Go.Ytegffpjhdodldaa
set_option linter.unusedVariables false
variable {Tg Tf : TypeId}
end Go.Proofs.Ytegffpjhdodldaa
