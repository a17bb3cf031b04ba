/- Bytes that a law changes. -/
import Derived.Test.YtegffpjhdodldaaLH
namespace Go.Proofs.Ytegffpjhdodldaa
open Go.RowKit Go.Ytegffpjhdodldaa
set_option linter.unusedVariables false
/-- The bytes that the law changes: each cell is a byte, and nothing else has turned. -/
def Churned (g LB : Nat) (T : TypeId) (w wr : World) : Prop := (∀ j, j ≠ g → wr.heap[j]? = w.heap[j]?) ∧ wr.heap.size = w.heap.size ∧ ∃ cs, wr.heap[g]? = some (.cells cs T (0, 0)) ∧ ∀ i, i < LB → ∃ x, cs[i]? = some (.int .u8 x)
theorem churned_set {g LB : Nat} {T : TypeId} {w wr : World} (h : Churned g LB T w wr) (k : Nat) (y : Int) : Churned g LB T w (wr.setCell ⟨g, k, none⟩ (.int .u8 y)) := by
  obtain ⟨h1, h2, cs, h3, h4⟩ := h
  refine ⟨fun j hj => (setCell_rows _ _ _ _ hj).trans (h1 j hj), by simp [World.setCell, h2], _, setCell_row h3 k _, fun i hi => ?_⟩
  obtain ⟨x, hx⟩ := h4 i hi
  rw [Array.getElem?_setIfInBounds]
  split
  · split
    · exact ⟨y, rfl⟩
    · rename_i h5 h6
      subst h5
      rw [Array.getElem?_eq_none (by omega)] at hx; cases hx
  · exact ⟨x, hx⟩
end Go.Proofs.Ytegffpjhdodldaa
