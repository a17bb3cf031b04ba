/- Contract of digest.spread: the 64 words of a block. -/
import Derived.Test.YtegffpjhdodldaaD01a
import Derived.StillTailTactics
namespace Go.Proofs.Ytegffpjhdodldaa
open Go.RowKit Go.Ytegffpjhdodldaa
set_option linter.unusedVariables false
def padW (l : List Int) : List Int := l ++ List.replicate (64 - l.length) 0
theorem padW_length (l : List Int) (h : l.length ≤ 64) : (padW l).length = 64 := by simp [padW]; omega
theorem padW_ith (l : List Int) (i : Nat) (h : i < l.length) : ith (padW l) i = ith l i := by unfold padW; rw [ith_append, if_pos h]
theorem padW_set (l : List Int) (x : Int) (h : l.length < 64) : (padW l).set l.length x = padW (l ++ [x]) := by
  unfold padW
  rw [List.set_append_right _ _ (Nat.le_refl _), Nat.sub_self]
  obtain ⟨m, hm⟩ : ∃ m, 64 - l.length = m + 1 := ⟨64 - l.length - 1, by omega⟩
  rw [hm, List.replicate_succ, List.set_cons_zero, List.append_assoc]
  congr 2
  simp; omega
end Go.Proofs.Ytegffpjhdodldaa
